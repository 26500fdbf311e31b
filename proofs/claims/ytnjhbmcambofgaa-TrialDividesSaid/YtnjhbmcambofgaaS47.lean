/- Layer 4: what the groups of a survey are. -/
import Derived.Test.YtnjhbmcambofgaaS42
namespace Go.Proofs.Ytnjhbmcambofgaa
open Go.V
set_option linter.unusedSimpArgs false
set_option linter.unusedVariables false

/-- Of a run that goes on until nothing changes: its last state. -/
theorem groups_last (v : Svy) : ∃ g, eq10 (passG v.lv v.s g v.n) g = true ∧ passG v.lv v.s g v.n = groupsM v := by
  have key : ∀ (m : Nat) (g : Nat → Int), sum10 g ≤ m → onWay v g → ∃ g, eq10 (passG v.lv v.s g v.n) g = true ∧ passG v.lv v.s g v.n = groupsM v := by
    intro m
    induction m with
    | zero =>
      intro g hs h
      cases he : eq10 (passG v.lv v.s g v.n) g with
      | true => exact ⟨g, he, onWay_end h he⟩
      | false =>
        have := (onWay_next h he).2
        omega
    | succ m ih =>
      intro g hs h
      cases he : eq10 (passG v.lv v.s g v.n) g with
      | true => exact ⟨g, he, onWay_end h he⟩
      | false =>
        obtain ⟨h1, h2⟩ := onWay_next h he
        exact ih _ (by omega) h1
  exact key _ _ (Nat.le_refl _) (onWay_0 v)
theorem eq10_at {g h : Nat → Int} (e : eq10 g h = true) : ∀ j, j < 10 → g j = h j := by
  unfold eq10 at e
  simp only [Bool.and_eq_true, beq_iff_eq, Bool.true_eq_false, and_true] at e
  obtain ⟨e0, e1, e2, e3, e4, e5, e6, e7, e8, e9⟩ := e
  intro j hj
  match j, hj with
  | 0, _ => exact e0
  | 1, _ => exact e1
  | 2, _ => exact e2
  | 3, _ => exact e3
  | 4, _ => exact e4
  | 5, _ => exact e5
  | 6, _ => exact e6
  | 7, _ => exact e7
  | 8, _ => exact e8
  | 9, _ => exact e9
theorem ix_nat {a : Int} (h : 0 ≤ a) : ix a = a.toNat := by unfold ix; omega
theorem passG_mono {lv : Int} {s : Nat → Obs} {g : Nat → Int} {k : Nat} (j : Nat) : ∀ m, passG lv s g (k + m) j ≤ passG lv s g k j
  | 0 => Int.le_refl _
  | m + 1 => Int.le_trans (stepG_le j) (passG_mono j m)
/-- A sure observation stands between wells of one group. -/
theorem groups_sure {v : Svy} (h : okV v) {i : Nat} (hi : i < v.n) (hs : v.lv ≤ (v.s i).lo) : groupsM v (v.s i).a.toNat = groupsM v (v.s i).b.toNat := by
  obtain ⟨g, he, e⟩ := groups_last v
  have hw := h.wl
  obtain ⟨ha, hb, _⟩ := h.s i hi
  have hat := eq10_at he
  have mid : ∀ k, k ≤ v.n → ∀ j, j < 10 → passG v.lv v.s g k j = g j := by
    intro k hk j hj
    have h1 := passG_le (lv := v.lv) (s := v.s) (g := g) k j
    have h2 := passG_mono (lv := v.lv) (s := v.s) (g := g) (k := k) j (v.n - k)
    rw [show k + (v.n - k) = v.n by omega, hat j hj] at h2
    omega
  have e1 := mid (i + 1) hi (v.s i).a.toNat (by omega)
  have e2 := mid (i + 1) hi (v.s i).b.toNat (by omega)
  have e3 := mid i (by omega) (v.s i).a.toNat (by omega)
  have e4 := mid i (by omega) (v.s i).b.toNat (by omega)
  have es : passG v.lv v.s g (i + 1) = stepG v.lv (v.s i) (passG v.lv v.s g i) := rfl
  have ga : groupsM v (v.s i).a.toNat = g (v.s i).a.toNat := by rw [← e]; exact hat _ (by omega)
  have gb : groupsM v (v.s i).b.toNat = g (v.s i).b.toNat := by rw [← e]; exact hat _ (by omega)
  rw [ga, gb]
  rw [es] at e1 e2
  unfold stepG at e1 e2
  rw [decide_eq_true hs] at e1 e2
  simp only [cond_true, ix_nat ha.1, ix_nat hb.1] at e1 e2
  rw [show Nat.beq (v.s i).b.toNat (v.s i).b.toNat = true by simp, cond_true, e3, e4] at e2
  cases hab : Nat.beq (v.s i).a.toNat (v.s i).b.toNat with
  | true => rw [Nat.eq_of_beq_eq_true hab]
  | false =>
    rw [hab, show Nat.beq (v.s i).a.toNat (v.s i).a.toNat = true by simp, cond_false, cond_true, e3, e4] at e1
    omega
/-- What is the same at both ends of each sure observation is the same in a group. -/
theorem groups_inv {v : Svy} (h : okV v) (p : Nat → Int) (hp : ∀ i, i < v.n → v.lv ≤ (v.s i).lo → p (v.s i).a.toNat = p (v.s i).b.toNat) :
    ∀ j, j < 10 → (0 ≤ groupsM v j ∧ groupsM v j ≤ (j : Int)) ∧ p (groupsM v j).toNat = p j := by
  have hw := h.wl
  have step : ∀ (g : Nat → Int), (∀ j, j < 10 → (0 ≤ g j ∧ g j ≤ (j : Int)) ∧ p (g j).toNat = p j) → ∀ k, k ≤ v.n → ∀ j, j < 10 → (0 ≤ passG v.lv v.s g k j ∧ passG v.lv v.s g k j ≤ (j : Int)) ∧ p (passG v.lv v.s g k j).toNat = p j := by
    intro g hg k
    induction k with
    | zero => exact fun _ => hg
    | succ k ih =>
      intro hk j hj
      have ih := ih (by omega)
      show (0 ≤ stepG v.lv (v.s k) (passG v.lv v.s g k) j ∧ stepG v.lv (v.s k) (passG v.lv v.s g k) j ≤ (j : Int)) ∧ p (stepG v.lv (v.s k) (passG v.lv v.s g k) j).toNat = p j
      unfold stepG
      cases hd : decide (v.lv ≤ (v.s k).lo) with
      | false => exact ih j hj
      | true =>
        obtain ⟨ha, hb, _⟩ := h.s k (by omega)
        have hpe := hp k (by omega) (of_decide_eq_true hd)
        simp only [cond_true, ix_nat ha.1, ix_nat hb.1]
        have ka := ih (v.s k).a.toNat (by omega)
        have kb := ih (v.s k).b.toNat (by omega)
        generalize passG v.lv v.s g k (v.s k).a.toNat = x at ka ⊢
        generalize passG v.lv v.s g k (v.s k).b.toNat = y at kb ⊢
        have km : gmin x y = x ∨ gmin x y = y := by unfold gmin; split <;> simp
        have kl : gmin x y ≤ x ∧ gmin x y ≤ y := by unfold gmin; split <;> omega
        have kn : 0 ≤ gmin x y := by rcases km with e | e <;> rw [e] <;> omega
        have kp : p (gmin x y).toNat = p (v.s k).a.toNat := by
          rcases km with e | e <;> rw [e]
          · exact ka.2
          · exact kb.2.trans hpe.symm
        cases h1 : Nat.beq j (v.s k).b.toNat with
        | true =>
          obtain rfl := Nat.eq_of_beq_eq_true h1
          exact ⟨⟨kn, by show gmin x y ≤ _; omega⟩, kp.trans hpe⟩
        | false =>
          cases h2 : Nat.beq j (v.s k).a.toNat with
          | true =>
            obtain rfl := Nat.eq_of_beq_eq_true h2
            exact ⟨⟨kn, by show gmin x y ≤ _; omega⟩, kp⟩
          | false => exact ih j hj
  have run : ∀ f (g : Nat → Int), (∀ j, j < 10 → (0 ≤ g j ∧ g j ≤ (j : Int)) ∧ p (g j).toNat = p j) → ∀ j, j < 10 → (0 ≤ joinG v.lv v.s v.n f g j ∧ joinG v.lv v.s v.n f g j ≤ (j : Int)) ∧ p (joinG v.lv v.s v.n f g j).toNat = p j := by
    intro f
    induction f with
    | zero => exact fun g hg => hg
    | succ f ih =>
      intro g hg
      have e : joinG v.lv v.s v.n (f + 1) g = (bif eq10 (passG v.lv v.s g v.n) g then passG v.lv v.s g v.n else joinG v.lv v.s v.n f (passG v.lv v.s g v.n)) := rfl
      rw [e]
      cases eq10 (passG v.lv v.s g v.n) g with
      | true => exact step g hg v.n (Nat.le_refl _)
      | false => exact ih _ (step g hg v.n (Nat.le_refl _))
  exact run 100 _ fun j hj => ⟨⟨by omega, Int.le_refl _⟩, by rw [Int.toNat_natCast]⟩
/-- A division that fits is the same in each group. -/
theorem fits_groups {v : Svy} (h : okV v) {p : Nat → Int} (hf : fitsM v p = true) {a b : Nat} (ha : a < 10) (hb : b < 10) (hg : groupsM v a = groupsM v b) : p a = p b := by
  have hp : ∀ i, i < v.n → v.lv ≤ (v.s i).lo → p (v.s i).a.toNat = p (v.s i).b.toNat := by
    intro i hi hs
    have := allN_all hf i hi
    unfold fitAt fitO at this
    cases hq : (p (v.s i).a.toNat == p (v.s i).b.toNat) with
    | true => simpa using hq
    | false =>
      rw [hq, decide_eq_true hs] at this
      cases this
  have h1 := (groups_inv h p hp a ha).2
  have h2 := (groups_inv h p hp b hb).2
  rw [← h1, ← h2, hg]
/-- A number is its own group's, if it is a group's number. -/
theorem groups_idem {v : Svy} (h : okV v) {j : Nat} (hj : j < 10) : groupsM v (groupsM v j).toNat = groupsM v j := by
  have := (groups_inv h (groupsM v) (fun i hi hs => groups_sure h hi hs) j hj).2
  exact this
/-- Without a clash the groups fit. -/
theorem groups_fit {v : Svy} (h : okV v) (hc : clashB v = false) : fitsM v (groupsM v) = true := by
  refine allN_t fun i hi => ?_
  obtain ⟨ha, hb, _⟩ := h.s i hi
  have hw := h.wl
  unfold fitAt fitO
  cases hq : (groupsM v (v.s i).a.toNat == groupsM v (v.s i).b.toNat) with
  | true =>
    cases hd : decide ((v.s i).hi < v.lv) with
    | false => rfl
    | true =>
      exfalso
      have gl : ∀ x : Int, 0 ≤ x → x < 10 → (gL v).getD (ix x) 0 = groupsM v x.toNat := by
        intro x h0 h1
        rw [ix_nat h0]
        have hx : x.toNat < 10 := by omega
        generalize x.toNat = m at hx ⊢
        match m, hx with
        | 0, _ => rfl
        | 1, _ => rfl
        | 2, _ => rfl
        | 3, _ => rfl
        | 4, _ => rfl
        | 5, _ => rfl
        | 6, _ => rfl
        | 7, _ => rfl
        | 8, _ => rfl
        | 9, _ => rfl
      have : clB v.lv (gL v) (v.s i).a (v.s i).b (v.s i).hi = true := by
        unfold clB
        rw [hd, gl _ ha.1 (by omega), gl _ hb.1 (by omega), hq]
        rfl
      unfold clashB at hc
      rw [show firstN (fun i => clB v.lv (gL v) (v.s i).a (v.s i).b (v.s i).hi) v.n = firstN (fun i => clB v.lv (gL v) (v.s i).a (v.s i).b (v.s i).hi) v.n from rfl] at hc
      have hno : ∀ n, i < n → decide (0 ≤ firstN (fun i => clB v.lv (gL v) (v.s i).a (v.s i).b (v.s i).hi) n) = true := by
        intro n
        induction n with
        | zero => exact fun hi => absurd hi (Nat.not_lt_zero i)
        | succ n ih =>
          intro hin
          unfold firstN
          cases hd2 : decide (0 ≤ firstN (fun i => clB v.lv (gL v) (v.s i).a (v.s i).b (v.s i).hi) n) with
          | true => exact hd2
          | false =>
            rcases Nat.lt_succ_iff_lt_or_eq.1 hin with h1 | rfl
            · rw [ih h1] at hd2; cases hd2
            · show decide (0 ≤ bif clB v.lv (gL v) (v.s i).a (v.s i).b (v.s i).hi then (i : Int) else -1) = true
              rw [this]
              exact decide_eq_true (by show (0 : Int) ≤ (i : Int); omega)
      rw [hno v.n hi] at hc
      cases hc
  | false =>
    cases hs : decide (v.lv ≤ (v.s i).lo) with
    | false => rfl
    | true =>
      exfalso
      have := groups_sure h hi (of_decide_eq_true hs)
      rw [this] at hq
      simp at hq
end Go.Proofs.Ytnjhbmcambofgaa
