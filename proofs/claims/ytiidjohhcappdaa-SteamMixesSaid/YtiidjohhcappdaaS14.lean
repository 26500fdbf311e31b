/- Layer 1: between two rows. -/
import Derived.Test.YtiidjohhcappdaaS13
namespace Go.Proofs.Ytiidjohhcappdaa
open Go.V
set_option linter.unusedSimpArgs false

def betN (lo hi : Row) (x : Int) : Int := lo.P * (hi.T - lo.T) + (hi.P - lo.P) * (x - lo.T)
def betG (lo hi : Row) (x : Int) : Int := (Nat.gcd (betN lo hi x).toNat (hi.T - lo.T).toNat : Nat)
inductive betP (lo hi : Row) (x : Int) : Prop
  | mk (h1 : okR lo) (h2 : okR hi) (h3 : belP lo hi) (h4 : lo.T ≤ x ∧ x ≤ hi.T)
  | no (h : False)
def betS : V.Spec
  | [.agg [.int .i64 T, .int .i64 P, .int .i64 L, .int .i64 V, .int .i64 S], .agg [.int .i64 T1, .int .i64 P1, .int .i64 L1, .int .i64 V1, .int .i64 S1], .int .i64 x] =>
    (some (betP ⟨T, P, L, V, S⟩ ⟨T1, P1, L1, V1, S1⟩ x), .agg [I ((betN ⟨T, P, L, V, S⟩ ⟨T1, P1, L1, V1, S1⟩ x).tdiv (betG ⟨T, P, L, V, S⟩ ⟨T1, P1, L1, V1, S1⟩ x)), I ((T1 - T).tdiv (betG ⟨T, P, L, V, S⟩ ⟨T1, P1, L1, V1, S1⟩ x))])
  | _ => bad
theorem tdiv_le {a g : Int} (ha : 0 ≤ a) (hg : 0 < g) : 0 ≤ a.tdiv g ∧ a.tdiv g ≤ a := by
  rw [Int.tdiv_eq_ediv_of_nonneg ha]
  exact ⟨Int.ediv_nonneg ha (by omega), Int.ediv_le_self _ ha⟩

set_option maxRecDepth 20000 in
theorem sf57 : SF Try.prog 57 betS := by
  refine sf_of types_ok mixed (l := [(73, gcdS)]) ⟨sf73, trivial⟩ (es := []) trivial 3 Try.func57 rfl (by kernel_rfl) fun args h => ?_
  unfold betS at h
  split at h
  · rename_i T P L V S T1 P1 L1 V1 S1 x
    have h : betP ⟨T, P, L, V, S⟩ ⟨T1, P1, L1, V1, S1⟩ x := h
    cases h with
    | no h => exact h.elim
    | mk h1 h2 h3 h4 =>
    simp only [okR, belP] at h1 h2 h3 h4
    have m1 : 0 ≤ P * (T1 - T) ∧ P * (T1 - T) ≤ 4000000 :=
      ⟨Int.mul_nonneg (by omega) (by omega), by have := Int.mul_le_mul (show P ≤ 10000 by omega) (show T1 - T ≤ 400 by omega) (by omega) (by omega); omega⟩
    have m2 : 0 ≤ (P1 - P) * (x - T) ∧ (P1 - P) * (x - T) ≤ 4000000 :=
      ⟨Int.mul_nonneg (by omega) (by omega), by have := Int.mul_le_mul (show P1 - P ≤ 10000 by omega) (show x - T ≤ 400 by omega) (by omega) (by omega); omega⟩
    have hg : (0 : Int) < (Nat.gcd (P * (T1 - T) + (P1 - P) * (x - T)).toNat (T1 - T).toNat : Nat) := by
      have : 0 < Nat.gcd (P * (T1 - T) + (P1 - P) * (x - T)).toNat (T1 - T).toNat := Nat.gcd_pos_of_pos_right _ (by omega)
      omega
    have q1 := tdiv_le (a := P * (T1 - T) + (P1 - P) * (x - T)) (by omega) hg
    have q2 := tdiv_le (a := T1 - T) (by omega) hg
    refine ⟨rfl, ?_⟩
    repeat' first
      | refine ⟨?_, ?_⟩
      | refine fun h => absurd h (by decide)
      | refine fun _ => ?_
      | refine ple_ok ?_
    all_goals first
      | trivial
      | rfl
      | (show @Eq Int _ _)
      | (show @Eq Bool _ _)
      | skip
    all_goals try simp only [betN, betG, toNat_pred, toNat_self, cond_true, cond_false, okS, sel, Bool.not_eq_true', Bool.not_eq_false', decide_eq_true_eq, decide_eq_false_iff_not, bne_iff_ne, bne_eq_false_iff_eq, beq_iff_eq, beq_eq_false_iff_ne, ne_eq, ite_eq_left_iff, Decidable.not_not, Bool.and_eq_true, Bool.or_eq_true, Bool.and_eq_false_iff, Bool.or_eq_false_iff, not_and, Bool.not_true, Bool.not_false] at *
    all_goals try simp (disch := omega) only [w64, if_pos, if_neg] at *
    all_goals try simp only [w64e, betN, betG, toNat_pred, toNat_self] at *
    all_goals first
      | trivial
      | omega
      | (split <;> omega)
      | (rw [if_pos (by omega)]; omega)
      | (rw [if_neg (by omega)]; omega)
      | (refine decide_eq_decide.2 ?_; omega)
      | (refine decide_eq_true ?_; omega)
      | (refine decide_eq_false ?_; omega)
      | (refine .mk (P * (T1 - T) + (P1 - P) * (x - T)).toNat (T1 - T).toNat ?_ ?_ ?_ ?_ <;> omega)
      | skip
  · exact h.elim
end Go.Proofs.Ytiidjohhcappdaa
