/- Layer 1: streams that exchange heat; the chapter's table and stream. -/
import Derived.Test.YtiidjohhcappdaaS3
namespace Go.Proofs.Ytiidjohhcappdaa
open Go.V
set_option linter.unusedSimpArgs false

abbrev exP (x y : Stream) (k : Int) : Prop := okS x ∧ okS y ∧ 0 ≤ k ∧ k ≤ x.h ∧ k ≤ 4000 * y.m - y.h
def exR (x y : Stream) (k : Int) : PV :=
  .tup [encS (sel ⟨x.m, x.h - k, x.s, x.g⟩ (exP x y k)), encS (sel ⟨y.m, y.h + k, y.s, y.g⟩ (exP x y k)), I (if okS x then (if okS y then (if 0 ≤ k ∧ k ≤ x.h ∧ k ≤ 4000 * y.m - y.h then 0 else 2) else 1) else 1)]
def exS : V.Spec
  | [.agg [.int .i64 a, .int .i64 b, .int .i64 c, .int .i64 d], .agg [.int .i64 a1, .int .i64 b1, .int .i64 c1, .int .i64 d1], .int .i64 k] => (none, exR ⟨a, b, c, d⟩ ⟨a1, b1, c1, d1⟩ k)
  | _ => bad
def hotS : V.Spec
  | [] => (none, encS ⟨1000, 852000, 250000, 50⟩)
  | _ => bad

theorem sf38 : SF Try.prog 38 exS := by
  refine sf_of types_ok mixed (l := [(22, chkS), (56, inS), (66, roomS)]) ⟨sf22, sf56, sf66, trivial⟩ (es := []) trivial 3 Try.func38 rfl (by kernel_rfl) fun args h => ?_
  unfold exS at h
  split at h
  · rename_i a b c d a1 b1 c1 d1 k
    clear h
    refine ⟨rfl, ?_⟩
    repeat' first
      | refine ple_ok ?_
      | refine ⟨?_, ?_⟩
      | refine fun _ => ?_
    all_goals first
      | trivial
      | rfl
      | (show @Eq Int _ _)
      | (show @Eq Bool _ _)
      | skip
    all_goals try simp only [exP, okS, sel, Bool.not_eq_true', Bool.not_eq_false', decide_eq_true_eq, decide_eq_false_iff_not, bne_iff_ne, bne_eq_false_iff_eq, beq_iff_eq, beq_eq_false_iff_ne, ne_eq, ite_eq_left_iff, Decidable.not_not, Bool.and_eq_true, Bool.or_eq_true, Bool.and_eq_false_iff, Bool.or_eq_false_iff, not_and, Bool.not_true, Bool.not_false] at *
    all_goals try simp (disch := omega) only [w64, if_pos, if_neg] at *
    all_goals try simp only [w64e] at *
    all_goals first
      | trivial
      | omega
      | (split <;> omega)
      | (rw [if_pos (by omega)]; omega)
      | (rw [if_neg (by omega)]; omega)
      | (refine decide_eq_decide.2 ?_; omega)
      | (refine decide_eq_true ?_; omega)
      | (refine decide_eq_false ?_; omega)
      | skip
  · exact h.elim
theorem sf52 : SF Try.prog 52 hotS := by
  refine sf_of types_ok mixed (l := []) trivial (es := []) trivial 0 Try.func52 rfl (by kernel_rfl) fun args h => ?_
  unfold hotS at h
  split at h
  · clear h
    refine ⟨rfl, ?_⟩
    repeat' first
      | refine ple_ok ?_
      | refine ⟨?_, ?_⟩
      | refine fun _ => ?_
    all_goals first
      | trivial
      | rfl
      | (show @Eq Int _ _)
      | (show @Eq Bool _ _)
      | skip
    all_goals try simp only [okS, sel, Bool.not_eq_true', Bool.not_eq_false', decide_eq_true_eq, decide_eq_false_iff_not, bne_iff_ne, bne_eq_false_iff_eq, beq_iff_eq, beq_eq_false_iff_ne, ne_eq, ite_eq_left_iff, Decidable.not_not, Bool.and_eq_true, Bool.or_eq_true, Bool.and_eq_false_iff, Bool.or_eq_false_iff, not_and, Bool.not_true, Bool.not_false] at *
    all_goals try simp (disch := omega) only [w64, if_pos, if_neg] at *
    all_goals try simp only [w64e] at *
    all_goals first
      | trivial
      | omega
      | (split <;> omega)
      | (rw [if_pos (by omega)]; omega)
      | (rw [if_neg (by omega)]; omega)
      | (refine decide_eq_decide.2 ?_; omega)
      | (refine decide_eq_true ?_; omega)
      | (refine decide_eq_false ?_; omega)
      | skip
  · exact h.elim
end Go.Proofs.Ytiidjohhcappdaa
