/- Layer 4: groups by as many passes as there are wells, as mathematics. -/
import Derived.Test.YtnjhbmcambofgaaS47
namespace Go.Proofs.Ytnjhbmcambofgaa
open Go.V
set_option linter.unusedSimpArgs false
set_option linter.unusedVariables false
set_option linter.unusedSectionVars false

def gN (v : Svy) : Nat → Nat → Int
  | 0 => fun i => (i : Int)
  | n + 1 => passG v.lv v.s (gN v n) v.n
/-- A labelling on the way to the groups. -/
def onG (v : Svy) (g : Nat → Int) : Prop := ∀ j, j < 10 → (0 ≤ g j ∧ g j ≤ (j : Int)) ∧ groupsM v (g j).toNat = groupsM v j
theorem onG_step {v : Svy} (h : okV v) {g : Nat → Int} (hg : onG v g) {k : Nat} (hk : k < v.n) : onG v (stepG v.lv (v.s k) g) := by
  intro j hj
  have hw := h.wl
  unfold stepG
  cases hd : decide (v.lv ≤ (v.s k).lo) with
  | false => exact hg j hj
  | true =>
    obtain ⟨ha, hb, _⟩ := h.s k hk
    have hpe := groups_sure h hk (of_decide_eq_true hd)
    simp only [cond_true, ix_nat ha.1, ix_nat hb.1]
    have ka := hg (v.s k).a.toNat (by omega)
    have kb := hg (v.s k).b.toNat (by omega)
    generalize g (v.s k).a.toNat = x at ka ⊢
    generalize g (v.s k).b.toNat = y at kb ⊢
    have km : gmin x y = x ∨ gmin x y = y := by unfold gmin; split <;> simp
    have kl : gmin x y ≤ x ∧ gmin x y ≤ y := by unfold gmin; split <;> omega
    have kn : 0 ≤ gmin x y := by rcases km with e | e <;> rw [e] <;> omega
    have kp : groupsM v (gmin x y).toNat = groupsM v (v.s k).a.toNat := by
      rcases km with e | e <;> rw [e]
      · exact ka.2
      · exact kb.2.trans hpe.symm
    cases h1 : Nat.beq j (v.s k).b.toNat with
    | true =>
      obtain rfl := Nat.eq_of_beq_eq_true h1
      exact ⟨⟨kn, by show gmin x y ≤ _; omega⟩, kp.trans hpe⟩
    | false =>
      cases h2 : Nat.beq j (v.s k).a.toNat with
      | true =>
        obtain rfl := Nat.eq_of_beq_eq_true h2
        exact ⟨⟨kn, by show gmin x y ≤ _; omega⟩, kp⟩
      | false => exact hg j hj
theorem onG_pass {v : Svy} (h : okV v) {g : Nat → Int} (hg : onG v g) : ∀ k, k ≤ v.n → onG v (passG v.lv v.s g k)
  | 0, _ => hg
  | k + 1, hk => onG_step h (onG_pass h hg k (by omega)) (by omega)
theorem groups_le {v : Svy} (h : okV v) {j : Nat} (hj : j < 10) : 0 ≤ groupsM v j ∧ groupsM v j ≤ (j : Int) := (groups_inv h (groupsM v) (fun i hi hs => groups_sure h hi hs) j hj).1
theorem onG_ge {v : Svy} (h : okV v) {g : Nat → Int} (hg : onG v g) {j : Nat} (hj : j < 10) : groupsM v j ≤ g j := by
  obtain ⟨⟨h0, h1⟩, h2⟩ := hg j hj
  have := (groups_le h (j := (g j).toNat) (by omega)).2
  rw [h2] at this
  omega
theorem onG_N {v : Svy} (h : okV v) : ∀ n, onG v (gN v n)
  | 0 => fun j hj => ⟨⟨by show (0 : Int) ≤ (j : Int); omega, Int.le_refl _⟩, by show groupsM v (j : Int).toNat = _; rw [Int.toNat_natCast]⟩
  | n + 1 => onG_pass h (onG_N h n) v.n (Nat.le_refl _)
/-- A label that is the least of its group stays. -/
theorem least_stays {v : Svy} (h : okV v) {g : Nat → Int} (hg : onG v g) {x : Nat} (hx : x < 10) (e : g x = groupsM v x) (k : Nat) (hk : k ≤ v.n) : passG v.lv v.s g k x = groupsM v x := by
  have h1 := passG_le (lv := v.lv) (s := v.s) (g := g) k x
  have h2 := onG_ge h (onG_pass h hg k hk) hx
  omega
/-- It goes over a sure observation. -/
theorem least_goes {v : Svy} (h : okV v) {g : Nat → Int} (hg : onG v g) {i : Nat} (hi : i < v.n) (hs : v.lv ≤ (v.s i).lo)
    (e : g (v.s i).a.toNat = groupsM v (v.s i).a.toNat ∨ g (v.s i).b.toNat = groupsM v (v.s i).b.toNat) :
    passG v.lv v.s g v.n (v.s i).a.toNat = groupsM v (v.s i).a.toNat ∧ passG v.lv v.s g v.n (v.s i).b.toNat = groupsM v (v.s i).b.toNat := by
  have hw := h.wl
  obtain ⟨ha, hb, _⟩ := h.s i hi
  have hG := groups_sure h hi hs
  have h1 := onG_pass h hg i (by omega)
  have h2 := onG_pass h hg (i + 1) hi
  have ga := onG_ge h h1 (j := (v.s i).a.toNat) (by omega)
  have gb := onG_ge h h1 (j := (v.s i).b.toNat) (by omega)
  have hm : gmin (passG v.lv v.s g i (v.s i).a.toNat) (passG v.lv v.s g i (v.s i).b.toNat) = groupsM v (v.s i).a.toNat := by
    rcases e with e | e
    · have := least_stays h hg (by omega) e i (by omega)
      unfold gmin; split <;> omega
    · have := least_stays h hg (by omega) e i (by omega)
      unfold gmin; split <;> omega
  have eb : passG v.lv v.s g (i + 1) (v.s i).b.toNat = groupsM v (v.s i).b.toNat := by
    show stepG v.lv (v.s i) (passG v.lv v.s g i) (v.s i).b.toNat = _
    unfold stepG
    rw [decide_eq_true hs]
    simp only [cond_true, ix_nat ha.1, ix_nat hb.1]
    rw [show Nat.beq (v.s i).b.toNat (v.s i).b.toNat = true by simp, cond_true, hm, hG]
  have ea : passG v.lv v.s g (i + 1) (v.s i).a.toNat = groupsM v (v.s i).a.toNat := by
    show stepG v.lv (v.s i) (passG v.lv v.s g i) (v.s i).a.toNat = _
    unfold stepG
    rw [decide_eq_true hs]
    simp only [cond_true, ix_nat ha.1, ix_nat hb.1]
    rw [hm, show Nat.beq (v.s i).a.toNat (v.s i).a.toNat = true by simp, cond_true]
    cases Nat.beq (v.s i).a.toNat (v.s i).b.toNat <;> rfl
  have fin : ∀ x, x < 10 → passG v.lv v.s g (i + 1) x = groupsM v x → passG v.lv v.s g v.n x = groupsM v x := fun x hx ex => by
    have h3 := passG_mono (lv := v.lv) (s := v.s) (g := g) (k := i + 1) x (v.n - (i + 1))
    rw [show i + 1 + (v.n - (i + 1)) = v.n by omega] at h3
    have h4 := onG_ge h (onG_pass h hg v.n (Nat.le_refl _)) hx
    omega
  exact ⟨fin _ (by omega) ea, fin _ (by omega) eb⟩
def cnN (f : Nat → Bool) : Nat → Nat
  | 0 => 0
  | n + 1 => cnN f n + (bif f n then 1 else 0)
theorem cnN_le (f : Nat → Bool) : ∀ n, cnN f n ≤ n
  | 0 => Nat.le_refl _
  | n + 1 => by
    have := cnN_le f n
    unfold cnN
    cases f n <;> simp <;> omega
theorem cnN_mono {f g : Nat → Bool} : ∀ {n : Nat}, (∀ x, x < n → f x = true → g x = true) → cnN f n ≤ cnN g n
  | 0, _ => Nat.le_refl _
  | n + 1, h => by
    have ih := cnN_mono (n := n) fun x hx => h x (by omega)
    have := h n (by omega)
    unfold cnN
    cases hf : f n with
    | true => rw [this hf]; simp only [cond_true]; omega
    | false => simp only [cond_false]; omega
theorem cnN_lt {f g : Nat → Bool} : ∀ {n x : Nat}, x < n → (∀ x, x < n → f x = true → g x = true) → f x = false → g x = true → cnN f n + 1 ≤ cnN g n
  | n + 1, x, hx, h, hf, hg => by
    by_cases e : x = n
    · subst e
      have := cnN_mono (n := x) fun y hy => h y (by omega)
      unfold cnN
      rw [hf, hg]; simp only [cond_true, cond_false]; omega
    · have ih := cnN_lt (n := n) (x := x) (by omega) (fun y hy => h y (by omega)) hf hg
      have := h n (by omega)
      unfold cnN
      cases hfn : f n with
      | true => rw [this hfn]; simp only [cond_true]; omega
      | false => simp only [cond_false]; omega
/-- As many passes as there are wells lead to the groups. -/
theorem gN_groups {v : Svy} (h : okV v) {k : Nat} (hk : (k : Int) = v.wl) {x0 : Nat} (hx0 : x0 < k) : gN v k x0 = groupsM v x0 := by
  have hw := h.wl
  have hx10 : x0 < 10 := by omega
  have hc := groups_le h hx10
  generalize hcd : groupsM v x0 = c at hc
  have hGc : groupsM v c.toNat = c := by rw [← hcd]; exact groups_idem h hx10
  let T := fun n x => (groupsM v x == c) && (gN v n x == c)
  have hT : ∀ n x, T n x = true ↔ groupsM v x = c ∧ gN v n x = c := fun n x => by
    show ((groupsM v x == c) && (gN v n x == c)) = true ↔ _
    rw [Bool.and_eq_true, beq_iff_eq, beq_iff_eq]
  have stay : ∀ n x, x < 10 → T n x = true → T (n + 1) x = true := fun n x hx ht => by
    obtain ⟨t1, t2⟩ := (hT n x).1 ht
    refine (hT (n + 1) x).2 ⟨t1, ?_⟩
    have := least_stays h (onG_N h n) hx (t2.trans t1.symm) v.n (Nat.le_refl _)
    exact this.trans t1
  have hT0 : ∀ n, T n c.toNat = true := fun n => by
    induction n with
    | zero => exact (hT 0 _).2 ⟨hGc, by show (c.toNat : Int) = c; omega⟩
    | succ n ih => exact stay n _ (by omega) ih
  have main : ∀ n, (∀ x, x < k → groupsM v x = c → gN v n x = c) ∨ n + 1 ≤ cnN (T n) k := by
    intro n
    induction n with
    | zero =>
      right
      have := cnN_lt (f := fun _ => false) (g := T 0) (n := k) (x := c.toNat) (by omega) (fun _ _ h => by cases h) rfl (hT0 0)
      omega
    | succ n ih =>
      rcases ih with ih | ih
      · exact .inl fun x hx e => ((hT (n + 1) x).1 (stay n x (by omega) ((hT n x).2 ⟨e, ih x hx e⟩))).2
      · by_cases hnew : ∃ x, x < k ∧ T n x = false ∧ T (n + 1) x = true
        · obtain ⟨x, hx, t1, t2⟩ := hnew
          right
          have := cnN_lt (f := T n) (g := T (n + 1)) hx (fun y hy => stay n y (by omega)) t1 t2
          omega
        · left
          have back : ∀ x, x < k → T (n + 1) x = true → T n x = true := fun x hx ht => by
            cases e : T n x with
            | true => rfl
            | false => exact absurd ⟨x, hx, e, ht⟩ hnew
          have hp : ∀ i, i < v.n → v.lv ≤ (v.s i).lo → (fun x => if T n x = true then (1 : Int) else 0) (v.s i).a.toNat = (fun x => if T n x = true then (1 : Int) else 0) (v.s i).b.toNat := by
            intro i hi hs
            obtain ⟨ha, hb, _⟩ := h.s i hi
            have hG := groups_sure h hi hs
            have go := least_goes h (onG_N h n) hi hs
            show (if T n (v.s i).a.toNat = true then (1 : Int) else 0) = if T n (v.s i).b.toNat = true then (1 : Int) else 0
            by_cases ta : T n (v.s i).a.toNat = true
            · obtain ⟨t1, t2⟩ := (hT _ _).1 ta
              have := (go (.inl (t2.trans t1.symm))).2
              have tb := back _ (by omega) ((hT (n + 1) (v.s i).b.toNat).2 ⟨hG.symm.trans t1, this.trans (hG.symm.trans t1)⟩)
              rw [if_pos ta, if_pos tb]
            · by_cases tb : T n (v.s i).b.toNat = true
              · obtain ⟨t1, t2⟩ := (hT _ _).1 tb
                have := (go (.inr (t2.trans t1.symm))).1
                exact absurd (back _ (by omega) ((hT (n + 1) (v.s i).a.toNat).2 ⟨hG.trans t1, this.trans (hG.trans t1)⟩)) ta
              · rw [if_neg ta, if_neg tb]
          intro x hx e
          have h1 := (groups_inv h (fun x => if T n x = true then (1 : Int) else 0) hp x (by omega)).2
          have h1 : (if T n (groupsM v x).toNat = true then (1 : Int) else 0) = if T n x = true then (1 : Int) else 0 := h1
          rw [e, if_pos (hT0 n)] at h1
          have tx : T n x = true := by
            by_cases tx : T n x = true
            · exact tx
            · rw [if_neg tx] at h1; exact absurd h1 (by decide)
          exact ((hT (n + 1) x).1 (stay n x (by omega) tx)).2
  rcases main k with h1 | h1
  · exact h1 x0 hx0 hcd
  · have := cnN_le (T k) k
    omega
end Go.Proofs.Ytnjhbmcambofgaa
