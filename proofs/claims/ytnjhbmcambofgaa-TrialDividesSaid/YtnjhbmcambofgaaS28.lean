/- Layer 4: what stands beside a well, by the document's words. -/
import Derived.Test.YtnjhbmcambofgaaS14
namespace Go.Proofs.Ytnjhbmcambofgaa
open Go.V
set_option linter.unusedSimpArgs false
set_option linter.unusedVariables false

def besB (lv p q a b lo : Int) : Bool := decide (lv ≤ lo) && (((a == p) && (b == q)) || ((a == q) && (b == p)))
def besideS : V.Spec
  | [.agg [.int .i64 wl, .int .i64 lv, .slice none n get], .int .i64 p, .int .i64 q] => (some (isL obsL n get), .bool (decide (0 ≤ firstN (fun i => besB lv p q (obsOf (get i)).a (obsOf (get i)).b (obsOf (get i)).lo) n)))
  | _ => bad
theorem sf100 : SF Try.prog 100 isSureS := by
  refine sf_of types_ok mixed (l := []) trivial (es := []) trivial 2 Try.func100 rfl (by kernel_rfl) fun args h => ?_
  unfold isSureS at h
  split at h
  · rename_i wl lv _ _ a b lo hi
    clear h
    refine ⟨rfl, ?_⟩
    repeat' first | (exact PLe.refl _) | (exact BLe.refl _) | (exact PLeL.nil) | (exact BLeL.nil) | (refine ⟨?_, ?_⟩) | (refine PLeL.cons ?_ ?_) | (refine BLeL.cons ?_ ?_) | (refine ple_int ?_) | (refine ple_bool ?_) | (refine ple_tt ?_) | (refine ple_ff ?_) | (refine PLe.aggL ?_) | (refine PLe.tupL ?_) | (refine BLe.cellsL ?_) | (refine fun h => absurd h (by decide)) | (refine fun (h : @Eq Bool _ _) => ?_)
    all_goals first | trivial | rfl | omega | skip
    all_goals first | trivial | (show @Eq Int _ _) | (show @Eq Bool _ _) | skip
    all_goals try simp only [w, cond_true, cond_false, Bool.not_eq_true', Bool.not_eq_false', decide_eq_true_eq, decide_eq_false_iff_not, bne_iff_ne, bne_eq_false_iff_eq, beq_iff_eq, beq_eq_false_iff_ne, ne_eq, ite_eq_left_iff, Decidable.not_not, Bool.and_eq_true, Bool.or_eq_true, Bool.and_eq_false_iff, Bool.or_eq_false_iff, not_and, Bool.not_true, Bool.not_false] at *
    all_goals try simp (disch := omega) only [w64, if_pos, if_neg] at *
    all_goals first | trivial | omega | (split <;> omega) | (rw [if_pos (by omega)]; omega) | (rw [if_neg (by omega)]; omega) | (refine decide_eq_decide.2 ?_; omega) | (refine decide_eq_true ?_; omega) | (refine decide_eq_false ?_; omega)
  · exact h.elim
theorem sf101 : SF Try.prog 101 isAgainstS := by
  refine sf_of types_ok mixed (l := []) trivial (es := []) trivial 2 Try.func101 rfl (by kernel_rfl) fun args h => ?_
  unfold isAgainstS at h
  split at h
  · rename_i wl lv _ _ a b lo hi
    clear h
    refine ⟨rfl, ?_⟩
    repeat' first | (exact PLe.refl _) | (exact BLe.refl _) | (exact PLeL.nil) | (exact BLeL.nil) | (refine ⟨?_, ?_⟩) | (refine PLeL.cons ?_ ?_) | (refine BLeL.cons ?_ ?_) | (refine ple_int ?_) | (refine ple_bool ?_) | (refine ple_tt ?_) | (refine ple_ff ?_) | (refine PLe.aggL ?_) | (refine PLe.tupL ?_) | (refine BLe.cellsL ?_) | (refine fun h => absurd h (by decide)) | (refine fun (h : @Eq Bool _ _) => ?_)
    all_goals first | trivial | rfl | omega | skip
    all_goals first | trivial | (show @Eq Int _ _) | (show @Eq Bool _ _) | skip
    all_goals try simp only [w, cond_true, cond_false, Bool.not_eq_true', Bool.not_eq_false', decide_eq_true_eq, decide_eq_false_iff_not, bne_iff_ne, bne_eq_false_iff_eq, beq_iff_eq, beq_eq_false_iff_ne, ne_eq, ite_eq_left_iff, Decidable.not_not, Bool.and_eq_true, Bool.or_eq_true, Bool.and_eq_false_iff, Bool.or_eq_false_iff, not_and, Bool.not_true, Bool.not_false] at *
    all_goals try simp (disch := omega) only [w64, if_pos, if_neg] at *
    all_goals first | trivial | omega | (split <;> omega) | (rw [if_pos (by omega)]; omega) | (rw [if_neg (by omega)]; omega) | (refine decide_eq_decide.2 ?_; omega) | (refine decide_eq_true ?_; omega) | (refine decide_eq_false ?_; omega)
  · exact h.elim
end Go.Proofs.Ytnjhbmcambofgaa
