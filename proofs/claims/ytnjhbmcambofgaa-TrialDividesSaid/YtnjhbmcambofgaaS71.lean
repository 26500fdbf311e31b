/- Layer 4: distances by the document's words. -/
import Derived.Test.YtnjhbmcambofgaaS70
import Derived.Test.YtnjhbmcambofgaaS50
namespace Go.Proofs.Ytnjhbmcambofgaa
open Go.V
set_option linter.unusedSimpArgs false
set_option linter.unusedVariables false

def far0 (W to : Nat) (x : Nat) : Int := bif Nat.beq x to then 0 else (W : Int)
def stF (L : Nat → Nat → Bool) (f : Nat → Int) (a b : Nat) : Nat → Int := bif L a b && decide (f a + 1 < f b) then fun x => bif Nat.beq x b then f a + 1 else f x else f
def inF (L : Nat → Nat → Bool) (f : Nat → Int) (a : Nat) : Nat → Nat → Int
  | 0 => f
  | b + 1 => stF L (inF L f a b) a b
def miF (L : Nat → Nat → Bool) (W : Nat) (f : Nat → Int) : Nat → Nat → Int
  | 0 => f
  | a + 1 => inF L (miF L W f a) a W
def farF (L : Nat → Nat → Bool) (W to : Nat) : Nat → Nat → Int
  | 0 => far0 W to
  | n + 1 => miF L W (farF L W to n) W
/-- What holds of distances on the way. -/
structure FInv (L : Nat → Nat → Bool) (W to : Nat) (f : Nat → Int) : Prop where
  lo : ∀ x, x < W → 0 ≤ f x ∧ f x ≤ (W : Int)
  p : ∀ x, x < W → f x < (W : Int) → Pth L W to (f x).toNat x
section
variable {L : Nat → Nat → Bool} {W to : Nat}
theorem FInv.step (hs : ∀ a b, L a b = L b a) {f : Nat → Int} (h : FInv L W to f) {a b : Nat} (ha : a < W) (hb : b < W) : FInv L W to (stF L f a b) ∧ (∀ x, stF L f a b x ≤ f x) ∧ (L a b = true → stF L f a b b ≤ f a + 1) := by
  unfold stF
  cases h1 : L a b with
  | false => exact ⟨h, fun x => Int.le_refl _, fun h => by cases h⟩
  | true =>
    cases h2 : decide (f a + 1 < f b) with
    | false =>
      have := of_decide_eq_false h2
      exact ⟨h, fun x => Int.le_refl _, fun _ => by show f b ≤ _; omega⟩
    | true =>
      have h3 := of_decide_eq_true h2
      obtain ⟨l1, l2⟩ := h.lo a ha
      obtain ⟨l3, l4⟩ := h.lo b hb
      simp only [Bool.and_self, cond_true]
      refine ⟨⟨fun x hx => ?_, fun x hx hl => ?_⟩, fun x => ?_, fun _ => by simp⟩
      · cases e : Nat.beq x b with
        | true => simp only [cond_true]; omega
        | false => exact h.lo x hx
      · cases e : Nat.beq x b with
        | true =>
          obtain rfl := Nat.eq_of_beq_eq_true e
          simp only [cond_true]
          rw [show (f a + 1).toNat = (f a).toNat + 1 by omega]
          exact ⟨a, ha, by rw [hs]; exact h1, h.p a ha (by omega)⟩
        | false =>
          rw [e] at hl
          exact h.p x hx hl
      · cases e : Nat.beq x b with
        | true =>
          obtain rfl := Nat.eq_of_beq_eq_true e
          simp only [cond_true]; omega
        | false => exact Int.le_refl _
theorem FInv.inner (hs : ∀ a b, L a b = L b a) {f : Nat → Int} (h : FInv L W to f) {a : Nat} (ha : a < W) : ∀ b, b ≤ W → FInv L W to (inF L f a b) ∧ (∀ x, inF L f a b x ≤ f x) ∧ ∀ x, x < b → L a x = true → inF L f a b x ≤ f a + 1
  | 0, _ => ⟨h, fun x => Int.le_refl _, fun x hx => absurd hx (Nat.not_lt_zero x)⟩
  | b + 1, hb => by
    obtain ⟨i1, i2, i3⟩ := FInv.inner hs h ha b (by omega)
    obtain ⟨j1, j2, j3⟩ := i1.step hs ha (show b < W by omega)
    refine ⟨j1, fun x => Int.le_trans (j2 x) (i2 x), fun x hx hl => ?_⟩
    rcases Nat.lt_succ_iff_lt_or_eq.1 hx with h3 | rfl
    · exact Int.le_trans (j2 x) (i3 x h3 hl)
    · have := j3 hl
      have := i2 a
      show stF L _ a x x ≤ _
      omega
theorem FInv.mid (hs : ∀ a b, L a b = L b a) {f : Nat → Int} (h : FInv L W to f) : ∀ a, a ≤ W → FInv L W to (miF L W f a) ∧ (∀ x, miF L W f a x ≤ f x) ∧ ∀ y, y < a → ∀ x, x < W → L y x = true → miF L W f a x ≤ f y + 1
  | 0, _ => ⟨h, fun x => Int.le_refl _, fun y hy => absurd hy (Nat.not_lt_zero y)⟩
  | a + 1, ha => by
    obtain ⟨i1, i2, i3⟩ := FInv.mid hs h a (by omega)
    obtain ⟨j1, j2, j3⟩ := i1.inner hs (show a < W by omega) W (Nat.le_refl _)
    refine ⟨j1, fun x => Int.le_trans (j2 x) (i2 x), fun y hy x hx hl => ?_⟩
    rcases Nat.lt_succ_iff_lt_or_eq.1 hy with h3 | rfl
    · exact Int.le_trans (j2 x) (i3 y h3 x hx hl)
    · have := j3 x hx hl
      have := i2 y
      show inF L _ y W x ≤ _
      omega
theorem farF_inv (hs : ∀ a b, L a b = L b a) (ht : to < W) : ∀ n, FInv L W to (farF L W to n) ∧ ∀ m, m ≤ n → ∀ x, x < W → Pth L W to m x → farF L W to n x ≤ (m : Int)
  | 0 => by
    refine ⟨⟨fun x hx => ?_, fun x hx hl => ?_⟩, fun m hm x hx hp => ?_⟩
    · show 0 ≤ far0 W to x ∧ far0 W to x ≤ _
      unfold far0
      cases Nat.beq x to <;> simp
    · have hl' : far0 W to x < (W : Int) := hl
      show Pth L W to (far0 W to x).toNat x
      unfold far0 at hl' ⊢
      cases e : Nat.beq x to with
      | true => exact Nat.eq_of_beq_eq_true e
      | false => rw [e] at hl'; exact (Int.lt_irrefl _ hl').elim
    · obtain rfl : m = 0 := by omega
      obtain rfl : x = to := hp
      show far0 W x x ≤ _
      unfold far0
      simp
  | n + 1 => by
    obtain ⟨i1, i2⟩ := farF_inv hs ht n
    obtain ⟨j1, j2, j3⟩ := i1.mid hs W (Nat.le_refl _)
    refine ⟨j1, fun m hm x hx hp => ?_⟩
    match m, hm, hp with
    | 0, _, hp =>
      have := i2 0 (Nat.zero_le _) x hx hp
      exact Int.le_trans (j2 x) this
    | m + 1, hm, ⟨y, hy, hl, hp⟩ =>
      have h1 := i2 m (by omega) y hy hp
      have h2 := j3 y hy x hx (by rw [hs]; exact hl)
      show miF L W _ W x ≤ _
      omega
/-- On the way the distances fall by one, and no well ahead has as little. -/
theorem far_steps (hs : ∀ a b, L a b = L b a) (ht : to < W) {fr d : Nat} {v : Nat → Nat} {ws : Nat → List Nat} (h : Steps L W fr to d v ws) {t : Nat} (htd : t ≤ d) : farF L W to W (v t) = (d : Int) - t := by
  obtain ⟨i1, i2⟩ := farF_inv (L := L) hs ht W
  have hd := h.dW
  have h1 := i2 (d - t) (by omega) (v t) (h.vW t htd) (h.p t htd)
  have h2 := (i1.lo (v t) (h.vW t htd)).1
  have h3 := h.low t htd _ (i1.p (v t) (h.vW t htd) (by omega))
  omega
theorem far_first (hs : ∀ a b, L a b = L b a) (ht : to < W) {fr d : Nat} {v : Nat → Nat} {ws : Nat → List Nat} (h : Steps L W fr to d v ws) {t : Nat} (htd : t < d) {n : Nat} (hn : n < v (t + 1)) (hl : L (v t) n = true) : farF L W to W n ≠ (d : Int) - t - 1 := by
  intro e
  obtain ⟨i1, i2⟩ := farF_inv (L := L) hs ht W
  have hd := h.dW
  have hnW : n < W := Nat.lt_trans hn (h.vW (t + 1) htd)
  have h3 := i1.p n hnW (by omega)
  rw [show (farF L W to W n).toNat = d - (t + 1) by omega] at h3
  exact h.first t htd n hn hl h3
end
theorem firstN_same {f g : Nat → Bool} {n : Nat} (h : ∀ i, f i = g i) : firstN f n = firstN g n := by rw [show f = g from funext h]
theorem lnk_symm (v : Svy) (a b : Nat) : lnk v a b = lnk v b a := by
  unfold lnk
  rw [firstN_same fun i => ?_]
  unfold besB
  rw [Bool.or_comm]
theorem fill_next {W i : Nat} {c : Int} : ∀ j, j < W → (bif Nat.beq j i then fillL (intL (bif Nat.blt i i then c else 0)) 0 [I c] else intL (bif Nat.blt j i then c else 0)) = intL (bif Nat.blt j (i + 1) then c else 0) := by
  intro j _
  cases e : Nat.beq j i with
  | true =>
    obtain rfl := Nat.eq_of_beq_eq_true e
    rw [blt_t (Nat.lt_succ_self j)]; rfl
  | false =>
    have hne : j ≠ i := fun h => by rw [h] at e; simp at e
    by_cases hl : j < i
    · rw [blt_t hl, blt_t (show j < i + 1 by omega)]; rfl
    · rw [blt_f hl, blt_f (show ¬ j < i + 1 by omega)]; rfl
theorem fill_zero {W to : Nat} : ∀ j, j < W → (bif Nat.beq j to then fillL (intL (bif Nat.blt to W then (W : Int) else 0)) 0 [I 0] else intL (bif Nat.blt j W then (W : Int) else 0)) = intL (far0 W to j) := by
  intro j hj
  unfold far0
  rw [blt_t hj]
  cases Nat.beq j to <;> rfl
theorem st_t {L : Nat → Nat → Bool} {f : Nat → Int} {a b K : Nat} {c : Int} (q1 : L a b = true) (q2 : decide (f a + 1 < f b) = true) (hc : c = f a + 1) : ∀ j, j < K → (bif Nat.beq j b then fillL (intL (f b)) 0 [I c] else intL (f j)) = intL (stF L f a b j) := by
  intro j _
  subst hc
  unfold stF
  rw [q1, q2]
  simp only [Bool.and_self, cond_true]
  cases Nat.beq j b <;> rfl
theorem st_f {L : Nat → Nat → Bool} {f : Nat → Int} {a b K : Nat} (q : (L a b && decide (f a + 1 < f b)) = false) : ∀ j, j < K → intL (f j) = intL (stF L f a b j) := by
  intro j _
  unfold stF
  rw [q]; rfl
set_option maxRecDepth 20000 in
set_option maxHeartbeats 2000000 in
theorem d102 (v : Svy) (hok : okV v) (W : Nat) (hW : (W : Int) = v.wl) (to : Nat) (ht : to < W) : SF Try.prog 102 (V.atS [.agg (svyC v), I (to : Nat)] (.slice none W fun x => intL (farF (lnk v) W to W x))) := by
  have hw := hok.wl
  have hn := hok.n
  have hL : isL obsL v.n fun i => obsL (v.s i) := .mk v.s (by omega) rfl
  have hWn : v.wl.toNat = W := by omega
  refine sf_gen types_ok mixed (l := [(103, besideS)]) ⟨sf103, trivial⟩ (es := []) trivial (its := []) trivial (fr := []) trivial [] [] false [] [] 2 Try.func102 rfl (by kernel_rfl) fun args h => ?_
  have h : args = _ := h
  subst h
  refine ⟨rfl, ?_⟩
  show evalCode _ _ _ fun o => match o with
    | .normal st | .ret st => withP _ (_ ∧ PLe _ (.slice none W fun x => intL (farF (lnk v) W to W x)))
    | _ => False
  repeat' first | (exact PLe.refl _) | (exact BLe.refl _) | (exact PLeL.nil) | (exact BLeL.nil) | (refine ⟨?_, ?_⟩) | (refine PLeL.cons ?_ ?_) | (refine BLeL.cons ?_ ?_) | (refine ple_int ?_) | (refine ple_bool ?_) | (refine ple_tt ?_) | (refine ple_ff ?_) | (refine PLe.aggL ?_) | (refine PLe.tupL ?_) | (refine BLe.cellsL ?_) | (refine halt_rng (cnt 6) W [1, 2, 5, 6] [2, 12] (fun i => [I (to : Nat), .ptr 2 0, .own 12 W, I (i : Nat)]) (fun i => [.cells (svyC v), .arr W 1 (fun x => intL (bif Nat.blt x i then (W : Int) else 0))]) (fun _ => True) rfl (.mk ?_ ?_) trivial ?_) | (refine fun h => absurd h (by decide)) | (refine fun (h : @Eq Bool _ _) => ?_)
  all_goals first | trivial | rfl | omega | (show v.wl.toNat = W; omega) | (show (0 : Int) ≤ v.wl; omega) | (show v.wl ≤ 1099511627776; omega) | (show (8 : Int) * v.wl ≤ 140737488355328; omega) | (exact (by show PLe (.own 12 v.wl.toNat) _; rw [hWn]; exact PLe.refl _)) | (show BLe (.arr v.wl.toNat _ _) _; rw [hWn]; exact ble_arr rfl fun i hi => rfl) | skip
  intro i hi _
  refine ⟨fun h1 => ?_, fun h1 => ?_⟩
  · have hlt_i : i < W := by
      have : (i : Int) < v.wl := of_decide_eq_true h1
      omega
    have e_i := succ_w hlt_i (by omega)
    clear h1
    repeat' first | (exact PLe.refl _) | (exact BLe.refl _) | (exact PLeL.nil) | (exact BLeL.nil) | (refine ⟨?_, ?_⟩) | (refine PLeL.cons ?_ ?_) | (refine BLeL.cons ?_ ?_) | (refine ple_int ?_) | (refine ple_bool ?_) | (refine ple_tt ?_) | (refine ple_ff ?_) | (refine PLe.aggL ?_) | (refine PLe.tupL ?_) | (refine BLe.cellsL ?_) | (refine next_rng (cn := cnt 6) rfl (fun _ => rfl) hlt_i trivial (.mk ?_ ?_)) | (refine fun h => absurd h (by decide)) | (refine fun (h : @Eq Bool _ _) => ?_)
    all_goals first | trivial | rfl | omega | (show (i : Int) < (W : Int); omega) | (show i < W; omega) | (exact Nat.le_refl 1) | (exact Int.natCast_nonneg _) | (exact Nat.le_refl _) | (exact e_i) | (exact ble_arr rfl (by rw [← hW]; exact fill_next)) | skip
  · have h_i : i = W := by
      have : ¬ ((i : Int) < v.wl) := of_decide_eq_false h1
      omega
    clear h1
    repeat' first | (exact PLe.refl _) | (exact BLe.refl _) | (exact PLeL.nil) | (exact BLeL.nil) | (refine ⟨?_, ?_⟩) | (refine PLeL.cons ?_ ?_) | (refine BLeL.cons ?_ ?_) | (refine ple_int ?_) | (refine ple_bool ?_) | (refine ple_tt ?_) | (refine ple_ff ?_) | (refine PLe.aggL ?_) | (refine PLe.tupL ?_) | (refine BLe.cellsL ?_) | (refine halt_rng (cnt 7) W [2, 5, 7] [2, 12] (fun n => [.ptr 2 0, .own 12 W, I (n : Nat)]) (fun n => [.cells (svyC v), .arr W 1 (fun x => intL (farF (lnk v) W to n x))]) (fun _ => True) rfl (.mk ?_ ?_) trivial ?_) | (refine fun h => absurd h (by decide)) | (refine fun (h : @Eq Bool _ _) => ?_)
    all_goals first | trivial | rfl | omega | (show (to : Int) < (W : Int); omega) | (show to < W; omega) | (exact Nat.le_refl 1) | (exact Int.natCast_nonneg _) | (exact Nat.le_refl _) | (rw [h_i]; exact ble_arr rfl fill_zero) | skip
    intro n hn9 _
    refine ⟨fun h1 => ?_, fun h1 => ?_⟩
    · have hlt_n : n < W := by
        have : (n : Int) < v.wl := of_decide_eq_true h1
        omega
      have e_n := succ_w hlt_n (by omega)
      clear h1
      repeat' first | (exact PLe.refl _) | (exact BLe.refl _) | (exact PLeL.nil) | (exact BLeL.nil) | (refine ⟨?_, ?_⟩) | (refine PLeL.cons ?_ ?_) | (refine BLeL.cons ?_ ?_) | (refine ple_int ?_) | (refine ple_bool ?_) | (refine ple_tt ?_) | (refine ple_ff ?_) | (refine PLe.aggL ?_) | (refine PLe.tupL ?_) | (refine BLe.cellsL ?_) | (refine halt_rng (cnt 8) W [2, 5, 7, 8] [2, 12] (fun a => [.ptr 2 0, .own 12 W, I (n : Nat), I (a : Nat)]) (fun a => [.cells (svyC v), .arr W 1 (fun x => intL (miF (lnk v) W (farF (lnk v) W to n) a x))]) (fun _ => True) rfl (.mk ?_ ?_) trivial ?_) | (refine fun h => absurd h (by decide)) | (refine fun (h : @Eq Bool _ _) => ?_)
      all_goals first | trivial | rfl | omega | (exact ble_arr rfl fun j hj => rfl) | skip
      intro a ha9 _
      refine ⟨fun h1 => ?_, fun h1 => ?_⟩
      · have hlt_a : a < W := by
          have : (a : Int) < v.wl := of_decide_eq_true h1
          omega
        have e_a := succ_w hlt_a (by omega)
        clear h1
        repeat' first | (exact PLe.refl _) | (exact BLe.refl _) | (exact PLeL.nil) | (exact BLeL.nil) | (refine ⟨?_, ?_⟩) | (refine PLeL.cons ?_ ?_) | (refine BLeL.cons ?_ ?_) | (refine ple_int ?_) | (refine ple_bool ?_) | (refine ple_tt ?_) | (refine ple_ff ?_) | (refine PLe.aggL ?_) | (refine PLe.tupL ?_) | (refine BLe.cellsL ?_) | (refine halt_rng (cnt 9) W [2, 5, 7, 8, 9] [2, 12] (fun b => [.ptr 2 0, .own 12 W, I (n : Nat), I (a : Nat), I (b : Nat)]) (fun b => [.cells (svyC v), .arr W 1 (fun x => intL (inF (lnk v) (miF (lnk v) W (farF (lnk v) W to n) a) a b x))]) (fun _ => True) rfl (.mk ?_ ?_) trivial ?_) | (refine fun h => absurd h (by decide)) | (refine fun (h : @Eq Bool _ _) => ?_)
        all_goals first | trivial | rfl | omega | (exact ble_arr rfl fun j hj => rfl) | skip
        intro b hb9 _
        have hF : FInv (lnk v) W to (inF (lnk v) (miF (lnk v) W (farF (lnk v) W to n) a) a b) := (((farF_inv (lnk_symm v) ht n).1.mid (lnk_symm v) a ha9).1.inner (lnk_symm v) (show a < W by omega) b hb9).1
        refine ⟨fun h1 => ?_, fun h1 => ?_⟩
        · have hlt_b : b < W := by
            have : (b : Int) < v.wl := of_decide_eq_true h1
            omega
          have e_b := succ_w hlt_b (by omega)
          clear h1
          have la1 := hF.lo a hlt_a
          have lb1 := hF.lo b hlt_b
          have hwr : w (inF (lnk v) (miF (lnk v) W (farF (lnk v) W to n) a) a b a + 1) = inF (lnk v) (miF (lnk v) W (farF (lnk v) W to n) a) a b a + 1 := by
            show IntKind.i64.wrap _ = _
            exact w64 (by omega) (by omega)
          have hst : inF (lnk v) (miF (lnk v) W (farF (lnk v) W to n) a) a (b + 1) = stF (lnk v) (inF (lnk v) (miF (lnk v) W (farF (lnk v) W to n) a) a b) a b := rfl
          refine (Bool.eq_false_or_eq_true (lnk v a b)).elim (fun q1 => ?_) fun q1 => ?_
          · refine (Bool.eq_false_or_eq_true (decide (w (inF (lnk v) (miF (lnk v) W (farF (lnk v) W to n) a) a b a + 1) < inF (lnk v) (miF (lnk v) W (farF (lnk v) W to n) a) a b b))).elim (fun q2 => ?_) fun q2 => ?_
            · have q2' := q2
              rw [hwr] at q2'
              repeat' first | (refine fun h => absurd (h.symm.trans q1) (by decide)) | (refine fun h => absurd (h.symm.trans q2) (by decide)) | (exact PLe.refl _) | (exact BLe.refl _) | (exact PLeL.nil) | (exact BLeL.nil) | (refine ⟨?_, ?_⟩) | (refine PLeL.cons ?_ ?_) | (refine BLeL.cons ?_ ?_) | (refine ple_int ?_) | (refine ple_bool ?_) | (refine ple_tt ?_) | (refine ple_ff ?_) | (refine PLe.aggL ?_) | (refine PLe.tupL ?_) | (refine BLe.cellsL ?_) | (refine next_rng (cn := cnt 9) rfl (fun _ => rfl) hlt_b trivial (.mk ?_ ?_)) | (refine fun h => absurd h (by decide)) | (refine fun (h : @Eq Bool _ _) => ?_)
              all_goals first | trivial | rfl | omega | (show (a : Int) < (W : Int); omega) | (show (b : Int) < (W : Int); omega) | (show a < W; omega) | (show b < W; omega) | (exact Nat.le_refl 1) | (exact Int.natCast_nonneg _) | (exact Nat.le_refl _) | (exact e_b) | (exact hL) | (exact ble_arr rfl (st_t q1 q2' hwr)) | skip
            · have q2' := q2
              rw [hwr] at q2'
              have q3 : (lnk v a b && decide (inF (lnk v) (miF (lnk v) W (farF (lnk v) W to n) a) a b a + 1 < inF (lnk v) (miF (lnk v) W (farF (lnk v) W to n) a) a b b)) = false := by rw [q1, q2']; rfl
              repeat' first | (refine fun h => absurd (h.symm.trans q1) (by decide)) | (refine fun h => absurd (h.symm.trans q2) (by decide)) | (exact PLe.refl _) | (exact BLe.refl _) | (exact PLeL.nil) | (exact BLeL.nil) | (refine ⟨?_, ?_⟩) | (refine PLeL.cons ?_ ?_) | (refine BLeL.cons ?_ ?_) | (refine ple_int ?_) | (refine ple_bool ?_) | (refine ple_tt ?_) | (refine ple_ff ?_) | (refine PLe.aggL ?_) | (refine PLe.tupL ?_) | (refine BLe.cellsL ?_) | (refine next_rng (cn := cnt 9) rfl (fun _ => rfl) hlt_b trivial (.mk ?_ ?_)) | (refine fun h => absurd h (by decide)) | (refine fun (h : @Eq Bool _ _) => ?_)
              all_goals first | trivial | rfl | omega | (show (a : Int) < (W : Int); omega) | (show (b : Int) < (W : Int); omega) | (show a < W; omega) | (show b < W; omega) | (exact Nat.le_refl 1) | (exact Int.natCast_nonneg _) | (exact Nat.le_refl _) | (exact e_b) | (exact hL) | (exact ble_arr rfl (st_f q3)) | skip
          · have q3 : (lnk v a b && decide (inF (lnk v) (miF (lnk v) W (farF (lnk v) W to n) a) a b a + 1 < inF (lnk v) (miF (lnk v) W (farF (lnk v) W to n) a) a b b)) = false := by rw [q1]; rfl
            repeat' first | (refine fun h => absurd (h.symm.trans q1) (by decide)) | (exact PLe.refl _) | (exact BLe.refl _) | (exact PLeL.nil) | (exact BLeL.nil) | (refine ⟨?_, ?_⟩) | (refine PLeL.cons ?_ ?_) | (refine BLeL.cons ?_ ?_) | (refine ple_int ?_) | (refine ple_bool ?_) | (refine ple_tt ?_) | (refine ple_ff ?_) | (refine PLe.aggL ?_) | (refine PLe.tupL ?_) | (refine BLe.cellsL ?_) | (refine next_rng (cn := cnt 9) rfl (fun _ => rfl) hlt_b trivial (.mk ?_ ?_)) | (refine fun h => absurd h (by decide)) | (refine fun (h : @Eq Bool _ _) => ?_)
            all_goals first | trivial | rfl | omega | (show (a : Int) < (W : Int); omega) | (show (b : Int) < (W : Int); omega) | (show a < W; omega) | (show b < W; omega) | (exact Nat.le_refl 1) | (exact Int.natCast_nonneg _) | (exact Nat.le_refl _) | (exact e_b) | (exact hL) | (exact ble_arr rfl (st_f q3)) | skip
        · have h_b : b = W := by
            have : ¬ ((b : Int) < v.wl) := of_decide_eq_false h1
            omega
          clear h1
          repeat' first | (exact PLe.refl _) | (exact BLe.refl _) | (exact PLeL.nil) | (exact BLeL.nil) | (refine ⟨?_, ?_⟩) | (refine PLeL.cons ?_ ?_) | (refine BLeL.cons ?_ ?_) | (refine ple_int ?_) | (refine ple_bool ?_) | (refine ple_tt ?_) | (refine ple_ff ?_) | (refine PLe.aggL ?_) | (refine PLe.tupL ?_) | (refine BLe.cellsL ?_) | (refine next_rng (cn := cnt 8) rfl (fun _ => rfl) hlt_a trivial (.mk ?_ ?_)) | (refine fun h => absurd h (by decide)) | (refine fun (h : @Eq Bool _ _) => ?_)
          all_goals first | trivial | rfl | omega | (exact e_a) | (exact ble_arr rfl fun j hj => by rw [h_b]; rfl) | skip
      · have h_a : a = W := by
          have : ¬ ((a : Int) < v.wl) := of_decide_eq_false h1
          omega
        clear h1
        repeat' first | (exact PLe.refl _) | (exact BLe.refl _) | (exact PLeL.nil) | (exact BLeL.nil) | (refine ⟨?_, ?_⟩) | (refine PLeL.cons ?_ ?_) | (refine BLeL.cons ?_ ?_) | (refine ple_int ?_) | (refine ple_bool ?_) | (refine ple_tt ?_) | (refine ple_ff ?_) | (refine PLe.aggL ?_) | (refine PLe.tupL ?_) | (refine BLe.cellsL ?_) | (refine next_rng (cn := cnt 7) rfl (fun _ => rfl) hlt_n trivial (.mk ?_ ?_)) | (refine fun h => absurd h (by decide)) | (refine fun (h : @Eq Bool _ _) => ?_)
        all_goals first | trivial | rfl | omega | (exact e_n) | (exact ble_arr rfl fun j hj => by rw [h_a]; rfl) | skip
    · have h_n : n = W := by
        have : ¬ ((n : Int) < v.wl) := of_decide_eq_false h1
        omega
      clear h1
      repeat' first | (exact PLe.refl _) | (exact BLe.refl _) | (exact PLeL.nil) | (exact BLeL.nil) | (refine ⟨?_, ?_⟩) | (refine PLeL.cons ?_ ?_) | (refine BLeL.cons ?_ ?_) | (refine ple_int ?_) | (refine ple_bool ?_) | (refine ple_tt ?_) | (refine ple_ff ?_) | (refine PLe.aggL ?_) | (refine PLe.tupL ?_) | (refine BLe.cellsL ?_) | (refine fun h => absurd h (by decide)) | (refine fun (h : @Eq Bool _ _) => ?_)
      all_goals first | trivial | rfl | omega | (exact ple_slice rfl fun j hj => by rw [h_n]) | skip
end Go.Proofs.Ytnjhbmcambofgaa
