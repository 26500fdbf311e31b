/- Layer 4: are all relations known after some pulses? -/
import Derived.Test.YtnjhbmcambofgaaS54
import Derived.Test.YtnjhbmcambofgaaS52
namespace Go.Proofs.Ytnjhbmcambofgaa
open Go.V
set_option linter.unusedSimpArgs false
set_option linter.unusedVariables false

def restr (k : Nat) (f : Nat → Int) : Nat → Int := fun i => bif Nat.blt i k then f i else 0
theorem restr_in {k i : Nat} {f : Nat → Int} (h : i < k) : restr k f i = f i := by unfold restr; rw [blt_t h]; rfl
theorem restr_of {k : Nat} {g : Nat → List PV} {p : Nat → Int} (h : ∀ i, i < k → g i = intL (p i)) : restr k (fun i => intOf (g i)) = restr k p := by
  funext i
  unfold restr
  by_cases hi : i < k
  · rw [blt_t hi]; show intOf (g i) = p i; rw [h i hi]; rfl
  · rw [blt_f hi]; rfl
def knW (v : Svy) (k : Nat) (p : Nat → Int) (m : Nat) (pl : Nat → Int) : Bool := allN (roomB v pl p k) m
def knI (v : Svy) (k : Nat) (p : Nat → Int) (m : Nat) (pl : Nat → Int) : Bool := knW v k p m pl && allN (fun a => allN (fun b => relV (itU v pl p k m) a b != 1) k) k
inductive isOkV (v : Svy) : Prop
  | mk (h : okV v)
  | no (h : False)
def pulP (k : Nat) (p : Nat → Int) : V.Spec
  | [.agg [.int .i64 wl, .int .i64 lv, .slice none n f], .int .i64 q, .slice none c g] => (some (isL obsL n f ∧ isOkV (svyOf wl lv n f) ∧ c = k ∧ ∀ i, i < k → g i = intL (p i)), .tup [.agg (svyC (pulR (svyOf wl lv n f) q k p)), I (pulE (svyOf wl lv n f) q k p)])
  | _ => bad
theorem sf_pulP {k : Nat} {p : Nat → Int} (hk : k ≤ 1000) : SF Try.prog 56 (pulP k p) := by
  refine sf_each ⟨_, _, Try.func56, by kernel_rfl, rfl⟩ fun args h => ?_
  unfold pulP at h ⊢
  split at h
  · rename_i wl lv n f q c g
    obtain ⟨h1, h2, rfl, h4⟩ : isL obsL n f ∧ isOkV (svyOf wl lv n f) ∧ c = k ∧ ∀ i, i < k → g i = intL (p i) := h
    obtain ⟨hn, s, rfl⟩ := isL.get h1
    cases h2 with
    | no h => exact h.elim
    | mk hok =>
      refine sf_args (d56 (svyOf wl lv n fun i => obsL (s i)) hok q c p hk) fun args hx => ?_
      obtain rfl := (show args = [.agg [.int .i64 wl, .int .i64 lv, .slice none n fun i => obsL (s i)], .int .i64 q, .slice none c g] from hx)
      refine ⟨[.agg (svyC (svyOf wl lv n fun i => obsL (s i))), I q, .slice none c fun i => intL (p i)], rfl, fun i hi => ?_, rfl, rfl⟩
      match i, hi with
      | 0, _ => exact .refl _
      | 1, _ => exact .refl _
      | 2, _ => exact .slice _ _ _ _ h4
  · exact h.elim
set_option maxRecDepth 20000 in
set_option maxHeartbeats 2000000 in
theorem known_at (v : Svy) (hok : okV v) (hlv : ¬ v.lv = -2000000000) (k : Nat) (hk : (k : Int) = v.wl) (p : Nat → Int) (hf : fitsM v p = true) (pl : Nat → Int) (m : Nat) (hm1 : m ≤ 1000) (hpl : ∀ i, i < m → 0 ≤ pl i ∧ pl i < k) (X Y : Bool) (hX : X = knI v k p m pl) (hY : Y = knW v k p m pl) : SF Try.prog 65 (V.atS [.agg (svyC v), .slice none m fun i => intL (pl i), .slice none k fun i => intL (p i)] (.tup [.bool X, .bool Y])) := by
  have hw := hok.wl
  have hxo := itU_ok hok hlv hk hf hpl
  refine sf_gen types_ok mixed (l := [(56, pulP k p), (50, relationsS)]) ⟨sf_pulP (by omega), sf50, trivial⟩ (es := []) trivial (its := []) trivial (fr := []) trivial [] [] false [] [] 3 Try.func65 rfl (by kernel_rfl) fun args h => ?_
  have h : args = _ := h
  subst h
  refine ⟨rfl, ?_⟩
  show evalCode _ _ _ fun o => match o with
    | .normal st | .ret st => withP _ (_ ∧ PLe _ (.tup [.bool X, .bool Y]))
    | _ => False
  repeat' first | (exact PLe.refl _) | (exact BLe.refl _) | (exact PLeL.nil) | (exact BLeL.nil) | (refine ⟨?_, ?_⟩) | (refine PLeL.cons ?_ ?_) | (refine BLeL.cons ?_ ?_) | (refine ple_int ?_) | (refine ple_bool ?_) | (refine ple_tt ?_) | (refine ple_ff ?_) | (refine PLe.aggL ?_) | (refine PLe.tupL ?_) | (refine BLe.cellsL ?_) | (refine halt_rng (cnt 9) m [1, 2, 8, 9] [8] (fun i => [.slice none m fun i => intL (pl i), .slice none k fun i => intL (p i), .ptr 8 0, I (i : Nat)]) (fun i => [.cells (svyC (itU v pl p k i))]) (fun i => ∀ j, j < i → roomB v pl p k j = true) rfl (.mk ?_ ?_) (fun j hj => absurd hj (Nat.not_lt_zero j)) ?_) | (refine fun h => absurd h (by decide)) | (refine fun (h : @Eq Bool _ _) => ?_)
  all_goals first | trivial | rfl | omega | skip
  intro i hi hr
  have hx := hxo i hi hr
  clear hxo
  have hUn := hx.1.n
  have hUL : isL obsL (itU v pl p k i).n fun j => obsL ((itU v pl p k i).s j) := .mk _ (by omega) rfl
  have hUok : isOkV (itU v pl p k i) := .mk hx.1
  refine ⟨fun h1 => ?_, fun h1 => ?_⟩
  · have hlt : i < m := by
      have : (i : Int) < (m : Int) := of_decide_eq_true h1
      omega
    have e1 := succ_w hlt (by omega)
    clear h1
    refine (Bool.eq_false_or_eq_true (roomB v pl p k i)).elim (fun hri => ?_) fun hri => ?_
    · have hr' : ∀ j, j < i + 1 → roomB v pl p k j = true := fun j hj => by
        rcases Nat.lt_succ_iff_lt_or_eq.1 hj with h1 | rfl
        · exact hr j h1
        · exact hri
      obtain ⟨q, hq, hqk, hn, e, e0⟩ := itU_next hok hlv hk hf hpl (i := i) hlt hr hri
      have y1 : (pulE (itU v pl p k i) (pl i) k p == 3) = false := by rw [e0]; rfl
      have y2 : (pulE (itU v pl p k i) (pl i) k p != 0) = false := by rw [e0]; rfl
      repeat' first | (refine fun h => absurd (h.symm.trans y1) (by decide)) | (refine fun h => absurd (h.symm.trans y2) (by decide)) | (exact PLe.refl _) | (exact BLe.refl _) | (exact PLeL.nil) | (exact BLeL.nil) | (refine ⟨?_, ?_⟩) | (refine PLeL.cons ?_ ?_) | (refine BLeL.cons ?_ ?_) | (refine ple_int ?_) | (refine ple_bool ?_) | (refine ple_tt ?_) | (refine ple_ff ?_) | (refine PLe.aggL ?_) | (refine PLe.tupL ?_) | (refine BLe.cellsL ?_) | (refine next_rng (cn := cnt 9) rfl (fun _ => rfl) hlt hr' (.mk ?_ ?_)) | (refine fun h => absurd h (by decide)) | (refine fun (h : @Eq Bool _ _) => ?_)
      all_goals first | trivial | rfl | omega | (show (0 + k) * 8 ≤ 140737488355328; omega) | (exact Nat.zero_add k) | (intro i hi; exact absurd hi (by omega)) | (intro i hi; exact ⟨rfl, rfl⟩) | (intro i hi; rfl) | (exact hUL) | (exact hUok) | (exact e1) | skip
    · have y1 : (pulE (itU v pl p k i) (pl i) k p == 3) = true := by rw [itU_full hok hlv hk hf hpl hlt hr hri]; rfl
      have hWf : knW v k p m pl = false := allN_f hlt hri
      have hYf : Y = false := hY.trans hWf
      have hXf : X = false := by rw [hX]; unfold knI; rw [hWf]; rfl
      repeat' first | (refine fun h => absurd (h.symm.trans y1) (by decide)) | (exact PLe.refl _) | (exact BLe.refl _) | (exact PLeL.nil) | (exact BLeL.nil) | (refine ⟨?_, ?_⟩) | (refine PLeL.cons ?_ ?_) | (refine BLeL.cons ?_ ?_) | (refine ple_int ?_) | (refine ple_bool ?_) | (refine ple_tt ?_) | (refine ple_ff ?_) | (refine PLe.aggL ?_) | (refine PLe.tupL ?_) | (refine BLe.cellsL ?_) | (refine fun h => absurd h (by decide)) | (refine fun (h : @Eq Bool _ _) => ?_)
      all_goals first | trivial | rfl | omega | (show (0 + k) * 8 ≤ 140737488355328; omega) | (exact Nat.zero_add k) | (intro i hi; exact absurd hi (by omega)) | (intro i hi; exact ⟨rfl, rfl⟩) | (intro i hi; rfl) | (exact hUL) | (exact hUok) | (exact e1) | (exact hXf.symm) | (exact hYf.symm) | (exact hXf) | (exact hYf) | (exact hXt.symm) | (exact hYt.symm) | (exact hXt) | (exact hYt) | skip
  · have him : i = m := by
      have : ¬ ((i : Int) < (m : Int)) := of_decide_eq_false h1
      omega
    subst him
    clear h1
    have hWt : knW v k p i pl = true := allN_t hr
    have hYt : Y = true := hY.trans hWt
    have hcU : clashB (itU v pl p k i) = false := fits_noclash hx.1 hx.2.2.2
    have yE : (relE2 (itU v pl p k i) != 0) = false := by
      unfold relE2 relE
      rw [svE_okV hx.1, hcU]; rfl
    have hN : relN2 (itU v pl p k i) = k := by
      unfold relN2 relN
      rw [svE_okV hx.1, hcU, hx.2.1, ← hk]; rfl
    have hK : (itU v pl p k i).wl.toNat = k := by rw [hx.2.1, ← hk]; rfl
    repeat' first | (refine fun h => absurd (h.symm.trans yE) (by decide)) | (exact PLe.refl _) | (exact BLe.refl _) | (exact PLeL.nil) | (exact BLeL.nil) | (refine ⟨?_, ?_⟩) | (refine PLeL.cons ?_ ?_) | (refine BLeL.cons ?_ ?_) | (refine ple_int ?_) | (refine ple_bool ?_) | (refine ple_tt ?_) | (refine ple_ff ?_) | (refine PLe.aggL ?_) | (refine PLe.tupL ?_) | (refine BLe.cellsL ?_) | (refine halt_rng (cnt 14) (relN2 (itU v pl p k i)) [12, 14] [] (fun x => [.slice none (relN2 (itU v pl p k i)) (relsG (itU v pl p k i)), I (x : Nat)]) (fun x => []) (fun x => ∀ a b, a < x → b < k → relV (itU v pl p k i) a b ≠ 1) rfl (.mk ?_ ?_) (fun a b ha => absurd ha (Nat.not_lt_zero a)) ?_) | (refine fun h => absurd h (by decide)) | (refine fun (h : @Eq Bool _ _) => ?_)
    all_goals first | trivial | rfl | omega | (show (0 + k) * 8 ≤ 140737488355328; omega) | (exact Nat.zero_add k) | (intro i hi; exact absurd hi (by omega)) | (intro i hi; exact ⟨rfl, rfl⟩) | (intro i hi; rfl) | (exact hUL) | (exact hUok) | (exact e1) | skip
    intro x hxm hq
    refine ⟨fun h1 => ?_, fun h1 => ?_⟩
    · have hlt : x < relN2 (itU v pl p k i) := by
        have : (x : Int) < (relN2 (itU v pl p k i) : Int) := of_decide_eq_true h1
        omega
      have e1 := succ_w hlt (by omega)
      clear h1
      repeat' first | (exact PLe.refl _) | (exact BLe.refl _) | (exact PLeL.nil) | (exact BLeL.nil) | (refine ⟨?_, ?_⟩) | (refine PLeL.cons ?_ ?_) | (refine BLeL.cons ?_ ?_) | (refine ple_int ?_) | (refine ple_bool ?_) | (refine ple_tt ?_) | (refine ple_ff ?_) | (refine PLe.aggL ?_) | (refine PLe.tupL ?_) | (refine BLe.cellsL ?_) | (refine halt_rng (cnt 15) (itU v pl p k i).wl.toNat [12, 14, 15] [] (fun y => [.slice none (relN2 (itU v pl p k i)) (relsG (itU v pl p k i)), I (x : Nat), I (y : Nat)]) (fun y => []) (fun y => ∀ b, b < y → relV (itU v pl p k i) x b ≠ 1) rfl (.mk ?_ ?_) (fun b hb => absurd hb (Nat.not_lt_zero b)) ?_) | (refine fun h => absurd h (by decide)) | (refine fun (h : @Eq Bool _ _) => ?_)
      all_goals first | trivial | rfl | omega | (show (x : Int) < (relN2 (itU v pl p k i) : Int); omega) | skip
      intro y hym hq2
      refine ⟨⟨by omega, by show (x : Int) < (relN2 (itU v pl p k i) : Int); omega, rfl⟩, fun h2 => ?_, fun h2 => ?_⟩
      · have hlt2 : y < (itU v pl p k i).wl.toNat := by
          have : (y : Int) < ((itU v pl p k i).wl.toNat : Int) := of_decide_eq_true h2
          omega
        have e2 := succ_w hlt2 (by omega)
        clear h2
        refine (Bool.eq_false_or_eq_true (relV (itU v pl p k i) x y == 1)).elim (fun hd => ?_) fun hd => ?_
        · have hXf : X = false := by
            rw [hX]; unfold knI
            rw [allN_f (f := fun a => allN (fun b => relV (itU v pl p k i) a b != 1) k) (m := x) (by omega) (allN_f (m := y) (by omega) (by show (relV (itU v pl p k i) x y != 1) = false; rw [bne, hd]; rfl)), Bool.and_false]
          repeat' first | (refine fun h => absurd (h.symm.trans hd) (by decide)) | (exact PLe.refl _) | (exact BLe.refl _) | (exact PLeL.nil) | (exact BLeL.nil) | (refine ⟨?_, ?_⟩) | (refine PLeL.cons ?_ ?_) | (refine BLeL.cons ?_ ?_) | (refine ple_int ?_) | (refine ple_bool ?_) | (refine ple_tt ?_) | (refine ple_ff ?_) | (refine PLe.aggL ?_) | (refine PLe.tupL ?_) | (refine BLe.cellsL ?_) | (refine fun h => absurd h (by decide)) | (refine fun (h : @Eq Bool _ _) => ?_)
          all_goals first | trivial | rfl | omega | (show (x : Int) < (relN2 (itU v pl p k i) : Int); omega) | (show (y : Int) < ((itU v pl p k i).wl.toNat : Int); omega) | (exact e2) | (exact hXf.symm) | (exact hYf.symm) | (exact hXf) | (exact hYf) | (exact hXt.symm) | (exact hYt.symm) | (exact hXt) | (exact hYt) | skip
        · have hq2' : ∀ b, b < y + 1 → relV (itU v pl p k i) x b ≠ 1 := fun b hb => by
            rcases Nat.lt_succ_iff_lt_or_eq.1 hb with h1 | rfl
            · exact hq2 b h1
            · simpa using hd
          repeat' first | (refine fun h => absurd (h.symm.trans hd) (by decide)) | (exact PLe.refl _) | (exact BLe.refl _) | (exact PLeL.nil) | (exact BLeL.nil) | (refine ⟨?_, ?_⟩) | (refine PLeL.cons ?_ ?_) | (refine BLeL.cons ?_ ?_) | (refine ple_int ?_) | (refine ple_bool ?_) | (refine ple_tt ?_) | (refine ple_ff ?_) | (refine PLe.aggL ?_) | (refine PLe.tupL ?_) | (refine BLe.cellsL ?_) | (refine next_rng (cn := cnt 15) rfl (fun _ => rfl) hlt2 hq2' (.mk ?_ ?_)) | (refine fun h => absurd h (by decide)) | (refine fun (h : @Eq Bool _ _) => ?_)
          all_goals first | trivial | rfl | omega | (show (x : Int) < (relN2 (itU v pl p k i) : Int); omega) | (show (y : Int) < ((itU v pl p k i).wl.toNat : Int); omega) | (exact e2) | skip
      · have hyk : y = (itU v pl p k i).wl.toNat := by
          have : ¬ ((y : Int) < ((itU v pl p k i).wl.toNat : Int)) := of_decide_eq_false h2
          omega
        clear h2
        have hq' : ∀ a b, a < x + 1 → b < k → relV (itU v pl p k i) a b ≠ 1 := fun a b ha hb => by
          rcases Nat.lt_succ_iff_lt_or_eq.1 ha with h1 | rfl
          · exact hq a b h1 hb
          · exact hq2 b (by omega)
        subst hyk
        repeat' first | (exact PLe.refl _) | (exact BLe.refl _) | (exact PLeL.nil) | (exact BLeL.nil) | (refine ⟨?_, ?_⟩) | (refine PLeL.cons ?_ ?_) | (refine BLeL.cons ?_ ?_) | (refine ple_int ?_) | (refine ple_bool ?_) | (refine ple_tt ?_) | (refine ple_ff ?_) | (refine PLe.aggL ?_) | (refine PLe.tupL ?_) | (refine BLe.cellsL ?_) | (refine next_rng (cn := cnt 14) rfl (fun _ => rfl) hlt hq' (.mk ?_ ?_)) | (refine fun h => absurd h (by decide)) | (refine fun (h : @Eq Bool _ _) => ?_)
        all_goals first | trivial | rfl | omega | (exact e1) | skip
    · have hxk : x = relN2 (itU v pl p k i) := by
        have : ¬ ((x : Int) < (relN2 (itU v pl p k i) : Int)) := of_decide_eq_false h1
        omega
      clear h1
      have hXt : X = true := by
        rw [hX]; unfold knI
        rw [hWt, Bool.true_and]
        exact allN_t fun a ha => allN_t fun b hb => bne_iff_ne.2 (hq a b (by omega) hb)
      subst hxk
      repeat' first | (exact PLe.refl _) | (exact BLe.refl _) | (exact PLeL.nil) | (exact BLeL.nil) | (refine ⟨?_, ?_⟩) | (refine PLeL.cons ?_ ?_) | (refine BLeL.cons ?_ ?_) | (refine ple_int ?_) | (refine ple_bool ?_) | (refine ple_tt ?_) | (refine ple_ff ?_) | (refine PLe.aggL ?_) | (refine PLe.tupL ?_) | (refine BLe.cellsL ?_) | (refine fun h => absurd h (by decide)) | (refine fun (h : @Eq Bool _ _) => ?_)
      all_goals first | trivial | rfl | omega | (exact hXf.symm) | (exact hYf.symm) | (exact hXf) | (exact hYf) | (exact hXt.symm) | (exact hYt.symm) | (exact hXt) | (exact hYt) | skip
def knownG (v : Svy) (k : Nat) : V.Spec
  | [.agg x, .slice none m g, .slice none c f] => (some (svyC v = x ∧ m ≤ 1000 ∧ (∀ i, i < m → g i = intL (intOf (g i)) ∧ 0 ≤ intOf (g i) ∧ intOf (g i) < k) ∧ c = k ∧ (∀ i, i < k → f i = intL (intOf (f i))) ∧ fitsM v (restr k fun i => intOf (f i)) = true),
      .tup [.bool (knI v k (restr k fun i => intOf (f i)) m (restr m fun i => intOf (g i))), .bool (knW v k (restr k fun i => intOf (f i)) m (restr m fun i => intOf (g i)))])
  | _ => bad
theorem sf_known {v : Svy} (hok : okV v) (hlv : ¬ v.lv = -2000000000) {k : Nat} (hk : (k : Int) = v.wl) : SF Try.prog 65 (knownG v k) := by
  refine sf_each ⟨_, _, Try.func65, by kernel_rfl, rfl⟩ fun args h => ?_
  unfold knownG at h ⊢
  split at h
  · rename_i x m g c f
    obtain ⟨rfl, hm, hg, rfl, hp, hf⟩ : svyC v = x ∧ m ≤ 1000 ∧ (∀ i, i < m → g i = intL (intOf (g i)) ∧ 0 ≤ intOf (g i) ∧ intOf (g i) < k) ∧ c = k ∧ (∀ i, i < k → f i = intL (intOf (f i))) ∧ fitsM v (restr k fun i => intOf (f i)) = true := h
    refine sf_args (known_at v hok hlv c hk (restr c fun i => intOf (f i)) hf (restr m fun i => intOf (g i)) m hm (fun i hi => by rw [restr_in hi]; exact (hg i hi).2) _ _ rfl rfl) fun args hx => ?_
    obtain rfl := (show args = [.agg (svyC v), .slice none m g, .slice none c f] from hx)
    refine ⟨[.agg (svyC v), .slice none m fun i => intL (restr m (fun i => intOf (g i)) i), .slice none c fun i => intL (restr c (fun i => intOf (f i)) i)], rfl, fun i hi => ?_, rfl, rfl⟩
    match i, hi with
    | 0, _ => exact .refl _
    | 1, _ => exact .slice _ _ _ _ fun i hi => by rw [restr_in hi]; exact (hg i hi).1
    | 2, _ => exact .slice _ _ _ _ fun i hi => by rw [restr_in hi]; exact hp i hi
  · exact h.elim
end Go.Proofs.Ytnjhbmcambofgaa
