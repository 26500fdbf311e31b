/- Layer 1: the flash of one stream at one row. -/
import Derived.Test.YtiidjohhcappdaaS2
import Derived.Test.YtiidjohhcappdaaS4
namespace Go.Proofs.Ytiidjohhcappdaa
open Go.V
set_option linter.unusedSimpArgs false

abbrev okR (r : Row) : Prop := 0 ≤ r.T ∧ r.T ≤ 400 ∧ 1 ≤ r.P ∧ r.P ≤ 10000 ∧ 0 ≤ r.L ∧ r.L < r.V ∧ r.V ≤ 4000 ∧ 0 ≤ r.S ∧ r.S ≤ 2000
theorem okR.L {r : Row} (h : okR r) {m : Int} (h0 : 0 ≤ m) (h1 : m ≤ 1000000) : 0 ≤ m * r.L ∧ m * r.L ≤ 4000000000 :=
  ⟨Int.mul_nonneg h0 (by omega), by have := Int.mul_le_mul h1 (show r.L ≤ 4000 by omega) (by omega) (by omega); omega⟩
theorem okR.V' {r : Row} (h : okR r) {m : Int} (h0 : 0 ≤ m) (h1 : m ≤ 1000000) : 0 ≤ m * r.V ∧ m * r.V ≤ 4000000000 :=
  ⟨Int.mul_nonneg h0 (by omega), by have := Int.mul_le_mul h1 (show r.V ≤ 4000 by omega) (by omega) (by omega); omega⟩
theorem okR.S' {r : Row} (h : okR r) {m : Int} (h0 : 0 ≤ m) (h1 : m ≤ 1000000) : 0 ≤ m * r.S ∧ m * r.S ≤ 4000000000 :=
  ⟨Int.mul_nonneg h0 (by omega), by have := Int.mul_le_mul h1 (show r.S ≤ 4000 by omega) (by omega) (by omega); omega⟩

def massR (r : Row) (x : Stream) : Int := if x.h ≤ x.m * r.L then 0 else if x.m * r.V ≤ x.h then x.m else (x.h - x.m * r.L).tdiv (r.V - r.L)
theorem massR_le {r : Row} {x : Stream} (hr : okR r) (hx : okS x) : 0 ≤ massR r x ∧ massR r x ≤ x.m ∧ massR r x * r.V ≤ x.h := by
  have hL := hr.L (m := x.m) (by omega) (by omega)
  unfold massR
  split
  · refine ⟨by omega, by omega, by omega⟩
  · split
    · exact ⟨by omega, by omega, by assumption⟩
    · rename_i h1 h2
      have hd : 0 < r.V - r.L := by omega
      have e : (x.h - x.m * r.L).tdiv (r.V - r.L) = (x.h - x.m * r.L) / (r.V - r.L) := Int.tdiv_eq_ediv_of_nonneg (by omega)
      rw [e]
      generalize hq : (x.h - x.m * r.L) / (r.V - r.L) = q
      have h0 : 0 ≤ q := by rw [← hq]; exact Int.ediv_nonneg (by omega) (by omega)
      have h3 : q * (r.V - r.L) ≤ x.h - x.m * r.L := by rw [← hq]; exact Int.ediv_mul_le _ (by omega)
      have h4 : q ≤ x.m := by
        by_cases hc : q ≤ x.m
        · exact hc
        · exfalso
          have h5 : x.m * (r.V - r.L) ≤ q * (r.V - r.L) := Int.mul_le_mul_of_nonneg_right (by omega) (by omega)
          rw [Int.mul_sub] at h5
          omega
      refine ⟨h0, h4, ?_⟩
      have h6 : q * r.L ≤ x.m * r.L := Int.mul_le_mul_of_nonneg_right h4 (by omega)
      rw [Int.mul_sub] at h3
      omega
def massS : V.Spec
  | [.agg [.int .i64 T, .int .i64 P, .int .i64 L, .int .i64 V, .int .i64 S, .int .i64 a, .int .i64 b, .int .i64 c, .int .i64 d]] => (some (okR ⟨T, P, L, V, S⟩ ∧ okS ⟨a, b, c, d⟩), I (massR ⟨T, P, L, V, S⟩ ⟨a, b, c, d⟩))
  | _ => bad

theorem sf83 : SF Try.prog 83 massS := by
  refine sf_of types_ok mixed (l := []) trivial (es := []) trivial 1 Try.func83 rfl (by kernel_rfl) fun args h => ?_
  unfold massS at h
  split at h
  · rename_i T P L V S a b c d
    obtain ⟨hr, hx⟩ : okR ⟨T, P, L, V, S⟩ ∧ okS ⟨a, b, c, d⟩ := h
    have hL := hr.L (m := a) hx.1 hx.2.1
    have hV := hr.V' (m := a) hx.1 hx.2.1
    have hM := massR_le hr hx
    simp only [okR, okS, massR] at hr hx hM hL hV
    refine ⟨rfl, ?_⟩
    repeat' first
      | refine ple_ok ?_
      | refine ⟨?_, ?_⟩
      | refine fun _ => ?_
    all_goals first
      | trivial
      | rfl
      | (show @Eq Int _ _)
      | (show @Eq Bool _ _)
      | skip
    all_goals try simp only [massR, okS, sel, Bool.not_eq_true', Bool.not_eq_false', decide_eq_true_eq, decide_eq_false_iff_not, bne_iff_ne, bne_eq_false_iff_eq, beq_iff_eq, beq_eq_false_iff_ne, ne_eq, ite_eq_left_iff, Decidable.not_not, Bool.and_eq_true, Bool.or_eq_true, Bool.and_eq_false_iff, Bool.or_eq_false_iff, not_and, Bool.not_true, Bool.not_false] at *
    all_goals try simp (disch := omega) only [w64, if_pos, if_neg] at *
    all_goals try simp only [w64e] at *
    all_goals first
      | trivial
      | omega
      | (split <;> omega)
      | (rw [if_pos (by omega)]; omega)
      | (rw [if_neg (by omega)]; omega)
      | (refine decide_eq_decide.2 ?_; omega)
      | (refine decide_eq_true ?_; omega)
      | (refine decide_eq_false ?_; omega)
      | skip
  · exact h.elim
end Go.Proofs.Ytiidjohhcappdaa
