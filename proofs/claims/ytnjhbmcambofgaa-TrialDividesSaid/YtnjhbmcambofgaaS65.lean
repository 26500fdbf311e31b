/- Layer 4: groups and relations, as mathematics. -/
import Derived.Test.YtnjhbmcambofgaaS47
namespace Go.Proofs.Ytnjhbmcambofgaa
open Go.V
set_option linter.unusedSimpArgs false
set_option linter.unusedVariables false
set_option linter.unusedSectionVars false

-- GROUPS AND RELATIONS
theorem gL_at (v : Svy) {x : Int} (h0 : 0 ≤ x) (h1 : x < 10) : (gL v).getD (ix x) 0 = groupsM v x.toNat := by
  rw [ix_nat h0]
  have hx : x.toNat < 10 := by omega
  generalize x.toNat = m at hx ⊢
  match m, hx with
  | 0, _ => rfl
  | 1, _ => rfl
  | 2, _ => rfl
  | 3, _ => rfl
  | 4, _ => rfl
  | 5, _ => rfl
  | 6, _ => rfl
  | 7, _ => rfl
  | 8, _ => rfl
  | 9, _ => rfl
theorem firstN_dec {f : Nat → Bool} {n : Nat} : decide (0 ≤ firstN f n) = true ↔ ∃ i, i < n ∧ f i = true := by
  constructor
  · intro h
    refine Classical.byContradiction fun hc => ?_
    have : firstN f n = -1 := firstN_f fun i hi => by
      cases hf : f i with
      | false => rfl
      | true => exact (hc ⟨i, hi, hf⟩).elim
    rw [this] at h
    cases h
  · rintro ⟨i, hi, h⟩
    induction n with
    | zero => exact absurd hi (Nat.not_lt_zero i)
    | succ n ih =>
      unfold firstN
      cases hd : decide (0 ≤ firstN f n) with
      | true => exact hd
      | false =>
        rcases Nat.lt_succ_iff_lt_or_eq.1 hi with h1 | rfl
        · rw [ih h1] at hd; cases hd
        · rw [h]
          exact decide_eq_true (by show (0 : Int) ≤ (i : Int); omega)
/-- An observation against the groups of two wells. -/
def apartB (v : Svy) (i j : Nat) : Prop := ∃ m, m < v.n ∧ (v.s m).hi < v.lv ∧ ((groupsM v (v.s m).a.toNat = groupsM v i ∧ groupsM v (v.s m).b.toNat = groupsM v j) ∨ (groupsM v (v.s m).a.toNat = groupsM v j ∧ groupsM v (v.s m).b.toNat = groupsM v i))
theorem isB_iff {v : Svy} (h : okV v) {i j : Nat} (hi : i < 10) (hj : j < 10) : isB v.lv (gL v) v.n v.s (i : Int) (j : Int) = true ↔ apartB v i j := by
  have hw := h.wl
  unfold isB apartB
  rw [firstN_dec]
  refine exists_congr fun m => and_congr_right fun hm => ?_
  obtain ⟨ha, hb, _⟩ := h.s m hm
  unfold agB
  rw [gL_at v ha.1 (by omega), gL_at v hb.1 (by omega), gL_at v (x := (i : Int)) (by omega) (by omega), gL_at v (x := (j : Int)) (by omega) (by omega), Int.toNat_natCast, Int.toNat_natCast]
  simp only [Bool.and_eq_true, Bool.or_eq_true, decide_eq_true_eq, beq_iff_eq]
theorem relV_eq {v : Svy} {i j : Nat} (hi : i < 10) (hj : j < 10) : relV v i j = bif (groupsM v i == groupsM v j) then 2 else bif isB v.lv (gL v) v.n v.s (i : Int) (j : Int) then 0 else 1 := by
  unfold relV relM
  rw [gL_at v (x := (i : Int)) (by omega) (by omega), gL_at v (x := (j : Int)) (by omega) (by omega), Int.toNat_natCast, Int.toNat_natCast]
theorem rel_yes {v : Svy} {i j : Nat} (hi : i < 10) (hj : j < 10) (e : groupsM v i = groupsM v j) : relV v i j = 2 := by
  rw [relV_eq hi hj, e]; simp
theorem rel_no {v : Svy} (h : okV v) {i j : Nat} (hi : i < 10) (hj : j < 10) (e : groupsM v i ≠ groupsM v j) (ha : apartB v i j) : relV v i j = 0 := by
  rw [relV_eq hi hj, (isB_iff h hi hj).2 ha, beq_eq_false_iff_ne.2 e]; rfl
theorem rel_may {v : Svy} (h : okV v) {i j : Nat} (hi : i < 10) (hj : j < 10) (e : relV v i j ≠ 1) : groupsM v i = groupsM v j ∨ (groupsM v i ≠ groupsM v j ∧ apartB v i j) := by
  by_cases hg : groupsM v i = groupsM v j
  · exact .inl hg
  · refine .inr ⟨hg, ?_⟩
    rw [relV_eq hi hj, beq_eq_false_iff_ne.2 hg] at e
    cases hb : isB v.lv (gL v) v.n v.s (i : Int) (j : Int) with
    | true => exact (isB_iff h hi hj).1 hb
    | false => rw [hb] at e; exact absurd rfl e
/-- Where some division fits there is no clash. -/
theorem fits_noclash {v : Svy} (h : okV v) {p : Nat → Int} (hf : fitsM v p = true) : clashB v = false := by
  cases hc : clashB v with
  | false => rfl
  | true =>
    exfalso
    have hw := h.wl
    obtain ⟨i, hi, hc⟩ := firstN_dec.1 hc
    obtain ⟨ha, hb, _⟩ := h.s i hi
    unfold clB at hc
    rw [gL_at v ha.1 (by omega), gL_at v hb.1 (by omega), Bool.and_eq_true, decide_eq_true_eq, beq_iff_eq] at hc
    have hp := fits_groups h hf (by omega) (by omega) hc.2
    have := allN_all hf i hi
    unfold fitAt fitO at this
    rw [beq_iff_eq.2 hp, decide_eq_true hc.1] at this
    cases this
end Go.Proofs.Ytnjhbmcambofgaa
