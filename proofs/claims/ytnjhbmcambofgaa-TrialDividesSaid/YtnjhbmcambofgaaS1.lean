/- Layer 4: ranges, curves, steps; the small functions. -/
import Derived.Test.YtnjhbmcambofgaaW3
import Derived.Test.YtnjhbmcambofgaaVt
namespace Go.Proofs.Ytnjhbmcambofgaa
open Go.V
set_option linter.unusedSimpArgs false

abbrev w (n : Int) : Int := IntKind.i64.wrap n
structure Rng where
  lo : Int
  hi : Int
structure Stp where
  q : Int
  lo : Int
  hi : Int
def I (n : Int) : PV := .int .i64 n
def rngL (r : Rng) : List PV := [I r.lo, I r.hi]
def encR (r : Rng) : PV := .agg (rngL r)
def rngOf : List PV → Rng
  | [.int .i64 a, .int .i64 b] => ⟨a, b⟩
  | _ => ⟨0, 0⟩
def stpL (r : Stp) : List PV := [I r.q, I r.lo, I r.hi]
def stpOf : List PV → Stp
  | [.int .i64 q, .int .i64 a, .int .i64 b] => ⟨q, a, b⟩
  | _ => ⟨0, 0, 0⟩
def bad : Option Prop × PV := (some False, .junk)
def gmax (x y : Int) : Int := if y > x then y else x
def gmin (x y : Int) : Int := if y < x then y else x
/-- The drawdown of a curve, in a machine's numbers. -/
def dropI (A B C q : Int) : Int := w (w (A + w (B * q)) + w (w (C * q) * q))
abbrev okDrop (a b : Int) : Prop := -2000000000 ≤ a ∧ a ≤ b ∧ b ≤ 2000000000
abbrev okStp (q a b : Int) : Prop := (0 ≤ q ∧ q ≤ 1000) ∧ okDrop a b
abbrev okBox (a1 a2 b1 b2 c1 c2 : Int) : Prop := (0 ≤ a1 ∧ a1 ≤ a2 ∧ a2 ≤ 100000) ∧ (0 ≤ b1 ∧ b1 ≤ b2 ∧ b2 ≤ 10000) ∧ b2 - b1 ≤ 39 ∧ (0 ≤ c1 ∧ c1 ≤ c2 ∧ c2 ≤ 1000) ∧ c2 - c1 ≤ 39
def withinS : V.Spec
  | [.int .i64 n, .int .i64 lo, .int .i64 hi] => (none, .bool (decide (lo ≤ n ∧ n ≤ hi)))
  | _ => bad
def isFromS : V.Spec
  | [.agg [.int .i64 a, .int .i64 b], .int .i64 lo, .int .i64 hi] => (none, .bool (decide (lo ≤ a ∧ a ≤ b ∧ b ≤ hi)))
  | _ => bad
def isDropS : V.Spec
  | [.agg [.int .i64 a, .int .i64 b]] => (none, .bool (decide (okDrop a b)))
  | _ => bad
def hasS : V.Spec
  | [.agg [.int .i64 a, .int .i64 b], .int .i64 n] => (none, .bool (decide (a ≤ n ∧ n ≤ b)))
  | _ => bad
def countS : V.Spec
  | [.agg [.int .i64 a, .int .i64 b]] => (none, I (w (w (b - a) + 1)))
  | _ => bad
def plusS : V.Spec
  | [.agg [.int .i64 a, .int .i64 b], .int .i64 n] => (none, encR ⟨w (a + n), w (b + n)⟩)
  | _ => bad
def isAboveS : V.Spec
  | [.agg [.int .i64 a, .int .i64 _], .agg [.int .i64 _, .int .i64 d]] => (none, .bool (decide (d < a)))
  | _ => bad
def atQS : V.Spec
  | [.agg [.int .i64 a, .int .i64 b, .int .i64 c], .int .i64 q] => (none, I (dropI a b c q))
  | _ => bad
def isFlowS : V.Spec
  | [.int .i64 n] => (none, .bool (decide (0 ≤ n ∧ n ≤ 1000)))
  | _ => bad
def validS : V.Spec
  | [.agg [.int .i64 q, .int .i64 a, .int .i64 b]] => (none, .bool (decide (okStp q a b)))
  | _ => bad
def hasBoxS : V.Spec
  | [.agg [.int .i64 a1, .int .i64 a2, .int .i64 b1, .int .i64 b2, .int .i64 c1, .int .i64 c2, .slice none _ _]] => (none, .bool (decide (okBox a1 a2 b1 b2 c1 c2)))
  | _ => bad
def rangeS : V.Spec
  | [.agg [.int .i64 a, .int .i64 b]] => (none, encR ⟨a, b⟩)
  | _ => bad
def spanS : V.Spec
  | [.agg [.int .i64 a, .int .i64 b], .agg [.int .i64 c, .int .i64 d]] => (none, encR ⟨gmin a c, gmax b d⟩)
  | _ => bad
theorem sf82 : SF Try.prog 82 withinS := by
  refine sf_of types_ok mixed (l := []) trivial (es := []) trivial 3 Try.func82 rfl (by kernel_rfl) fun args h => ?_
  unfold withinS at h
  split at h
  · rename_i n lo hi
    clear h
    refine ⟨rfl, ?_⟩
    repeat' first | (exact PLe.refl _) | (exact BLe.refl _) | (exact PLeL.nil) | (exact BLeL.nil) | (refine ⟨?_, ?_⟩) | (refine PLeL.cons ?_ ?_) | (refine BLeL.cons ?_ ?_) | (refine ple_int ?_) | (refine ple_bool ?_) | (refine ple_tt ?_) | (refine ple_ff ?_) | (refine PLe.aggL ?_) | (refine PLe.tupL ?_) | (refine BLe.cellsL ?_) | (refine fun h => absurd h (by decide)) | (refine fun (h : @Eq Bool _ _) => ?_)
    all_goals first | trivial | rfl | omega | skip
    all_goals first | trivial | (show @Eq Int _ _) | (show @Eq Bool _ _) | skip
    all_goals try simp only [w, cond_true, cond_false, Bool.not_eq_true', Bool.not_eq_false', decide_eq_true_eq, decide_eq_false_iff_not, bne_iff_ne, bne_eq_false_iff_eq, beq_iff_eq, beq_eq_false_iff_ne, ne_eq, ite_eq_left_iff, Decidable.not_not, Bool.and_eq_true, Bool.or_eq_true, Bool.and_eq_false_iff, Bool.or_eq_false_iff, not_and, Bool.not_true, Bool.not_false] at *
    all_goals try simp (disch := omega) only [w64, if_pos, if_neg] at *
    all_goals first | trivial | omega | (split <;> omega) | (rw [if_pos (by omega)]; omega) | (rw [if_neg (by omega)]; omega) | (refine decide_eq_decide.2 ?_; omega) | (refine decide_eq_true ?_; omega) | (refine decide_eq_false ?_; omega)
  · exact h.elim
theorem sf30 : SF Try.prog 30 withinS := by
  refine sf_of types_ok mixed (l := []) trivial (es := []) trivial 3 Try.func30 rfl (by kernel_rfl) fun args h => ?_
  unfold withinS at h
  split at h
  · rename_i n lo hi
    clear h
    refine ⟨rfl, ?_⟩
    repeat' first | (exact PLe.refl _) | (exact BLe.refl _) | (exact PLeL.nil) | (exact BLeL.nil) | (refine ⟨?_, ?_⟩) | (refine PLeL.cons ?_ ?_) | (refine BLeL.cons ?_ ?_) | (refine ple_int ?_) | (refine ple_bool ?_) | (refine ple_tt ?_) | (refine ple_ff ?_) | (refine PLe.aggL ?_) | (refine PLe.tupL ?_) | (refine BLe.cellsL ?_) | (refine fun h => absurd h (by decide)) | (refine fun (h : @Eq Bool _ _) => ?_)
    all_goals first | trivial | rfl | omega | skip
    all_goals first | trivial | (show @Eq Int _ _) | (show @Eq Bool _ _) | skip
    all_goals try simp only [w, cond_true, cond_false, Bool.not_eq_true', Bool.not_eq_false', decide_eq_true_eq, decide_eq_false_iff_not, bne_iff_ne, bne_eq_false_iff_eq, beq_iff_eq, beq_eq_false_iff_ne, ne_eq, ite_eq_left_iff, Decidable.not_not, Bool.and_eq_true, Bool.or_eq_true, Bool.and_eq_false_iff, Bool.or_eq_false_iff, not_and, Bool.not_true, Bool.not_false] at *
    all_goals try simp (disch := omega) only [w64, if_pos, if_neg] at *
    all_goals first | trivial | omega | (split <;> omega) | (rw [if_pos (by omega)]; omega) | (rw [if_neg (by omega)]; omega) | (refine decide_eq_decide.2 ?_; omega) | (refine decide_eq_true ?_; omega) | (refine decide_eq_false ?_; omega)
  · exact h.elim
theorem sf115 : SF Try.prog 115 isFromS := by
  refine sf_of types_ok mixed (l := []) trivial (es := []) trivial 3 Try.func115 rfl (by kernel_rfl) fun args h => ?_
  unfold isFromS at h
  split at h
  · rename_i a b lo hi
    clear h
    refine ⟨rfl, ?_⟩
    repeat' first | (exact PLe.refl _) | (exact BLe.refl _) | (exact PLeL.nil) | (exact BLeL.nil) | (refine ⟨?_, ?_⟩) | (refine PLeL.cons ?_ ?_) | (refine BLeL.cons ?_ ?_) | (refine ple_int ?_) | (refine ple_bool ?_) | (refine ple_tt ?_) | (refine ple_ff ?_) | (refine PLe.aggL ?_) | (refine PLe.tupL ?_) | (refine BLe.cellsL ?_) | (refine fun h => absurd h (by decide)) | (refine fun (h : @Eq Bool _ _) => ?_)
    all_goals first | trivial | rfl | omega | skip
    all_goals first | trivial | (show @Eq Int _ _) | (show @Eq Bool _ _) | skip
    all_goals try simp only [w, cond_true, cond_false, Bool.not_eq_true', Bool.not_eq_false', decide_eq_true_eq, decide_eq_false_iff_not, bne_iff_ne, bne_eq_false_iff_eq, beq_iff_eq, beq_eq_false_iff_ne, ne_eq, ite_eq_left_iff, Decidable.not_not, Bool.and_eq_true, Bool.or_eq_true, Bool.and_eq_false_iff, Bool.or_eq_false_iff, not_and, Bool.not_true, Bool.not_false] at *
    all_goals try simp (disch := omega) only [w64, if_pos, if_neg] at *
    all_goals first | trivial | omega | (split <;> omega) | (rw [if_pos (by omega)]; omega) | (rw [if_neg (by omega)]; omega) | (refine decide_eq_decide.2 ?_; omega) | (refine decide_eq_true ?_; omega) | (refine decide_eq_false ?_; omega)
  · exact h.elim
theorem sf116 : SF Try.prog 116 isDropS := by
  refine sf_of types_ok mixed (l := [(115, isFromS)]) ⟨sf115, trivial⟩ (es := []) trivial 1 Try.func116 rfl (by kernel_rfl) fun args h => ?_
  unfold isDropS at h
  split at h
  · rename_i a b
    clear h
    refine ⟨rfl, ?_⟩
    repeat' first | (exact PLe.refl _) | (exact BLe.refl _) | (exact PLeL.nil) | (exact BLeL.nil) | (refine ⟨?_, ?_⟩) | (refine PLeL.cons ?_ ?_) | (refine BLeL.cons ?_ ?_) | (refine ple_int ?_) | (refine ple_bool ?_) | (refine ple_tt ?_) | (refine ple_ff ?_) | (refine PLe.aggL ?_) | (refine PLe.tupL ?_) | (refine BLe.cellsL ?_) | (refine fun h => absurd h (by decide)) | (refine fun (h : @Eq Bool _ _) => ?_)
    all_goals first | trivial | rfl | omega | skip
    all_goals first | trivial | (show @Eq Int _ _) | (show @Eq Bool _ _) | skip
    all_goals try simp only [w, okDrop, cond_true, cond_false, Bool.not_eq_true', Bool.not_eq_false', decide_eq_true_eq, decide_eq_false_iff_not, bne_iff_ne, bne_eq_false_iff_eq, beq_iff_eq, beq_eq_false_iff_ne, ne_eq, ite_eq_left_iff, Decidable.not_not, Bool.and_eq_true, Bool.or_eq_true, Bool.and_eq_false_iff, Bool.or_eq_false_iff, not_and, Bool.not_true, Bool.not_false] at *
    all_goals try simp (disch := omega) only [w64, if_pos, if_neg] at *
    all_goals first | trivial | omega | (split <;> omega) | (rw [if_pos (by omega)]; omega) | (rw [if_neg (by omega)]; omega) | (refine decide_eq_decide.2 ?_; omega) | (refine decide_eq_true ?_; omega) | (refine decide_eq_false ?_; omega)
  · exact h.elim
theorem sf69 : SF Try.prog 69 hasS := by
  refine sf_of types_ok mixed (l := [(82, withinS)]) ⟨sf82, trivial⟩ (es := []) trivial 2 Try.func69 rfl (by kernel_rfl) fun args h => ?_
  unfold hasS at h
  split at h
  · rename_i a b n
    clear h
    refine ⟨rfl, ?_⟩
    repeat' first | (exact PLe.refl _) | (exact BLe.refl _) | (exact PLeL.nil) | (exact BLeL.nil) | (refine ⟨?_, ?_⟩) | (refine PLeL.cons ?_ ?_) | (refine BLeL.cons ?_ ?_) | (refine ple_int ?_) | (refine ple_bool ?_) | (refine ple_tt ?_) | (refine ple_ff ?_) | (refine PLe.aggL ?_) | (refine PLe.tupL ?_) | (refine BLe.cellsL ?_) | (refine fun h => absurd h (by decide)) | (refine fun (h : @Eq Bool _ _) => ?_)
    all_goals first | trivial | rfl | omega | skip
    all_goals first | trivial | (show @Eq Int _ _) | (show @Eq Bool _ _) | skip
    all_goals try simp only [w, cond_true, cond_false, Bool.not_eq_true', Bool.not_eq_false', decide_eq_true_eq, decide_eq_false_iff_not, bne_iff_ne, bne_eq_false_iff_eq, beq_iff_eq, beq_eq_false_iff_ne, ne_eq, ite_eq_left_iff, Decidable.not_not, Bool.and_eq_true, Bool.or_eq_true, Bool.and_eq_false_iff, Bool.or_eq_false_iff, not_and, Bool.not_true, Bool.not_false] at *
    all_goals try simp (disch := omega) only [w64, if_pos, if_neg] at *
    all_goals first | trivial | omega | (split <;> omega) | (rw [if_pos (by omega)]; omega) | (rw [if_neg (by omega)]; omega) | (refine decide_eq_decide.2 ?_; omega) | (refine decide_eq_true ?_; omega) | (refine decide_eq_false ?_; omega)
  · exact h.elim
theorem sf73 : SF Try.prog 73 countS := by
  refine sf_of types_ok mixed (l := []) trivial (es := []) trivial 1 Try.func73 rfl (by kernel_rfl) fun args h => ?_
  unfold countS at h
  split at h
  · rename_i a b
    clear h
    refine ⟨rfl, ?_⟩
    repeat' first | (exact PLe.refl _) | (exact BLe.refl _) | (exact PLeL.nil) | (exact BLeL.nil) | (refine ⟨?_, ?_⟩) | (refine PLeL.cons ?_ ?_) | (refine BLeL.cons ?_ ?_) | (refine ple_int ?_) | (refine ple_bool ?_) | (refine ple_tt ?_) | (refine ple_ff ?_) | (refine PLe.aggL ?_) | (refine PLe.tupL ?_) | (refine BLe.cellsL ?_) | (refine fun h => absurd h (by decide)) | (refine fun (h : @Eq Bool _ _) => ?_)
    all_goals first | trivial | rfl | omega | skip
    all_goals first | trivial | (show @Eq Int _ _) | (show @Eq Bool _ _) | skip
    all_goals try simp only [w, cond_true, cond_false, Bool.not_eq_true', Bool.not_eq_false', decide_eq_true_eq, decide_eq_false_iff_not, bne_iff_ne, bne_eq_false_iff_eq, beq_iff_eq, beq_eq_false_iff_ne, ne_eq, ite_eq_left_iff, Decidable.not_not, Bool.and_eq_true, Bool.or_eq_true, Bool.and_eq_false_iff, Bool.or_eq_false_iff, not_and, Bool.not_true, Bool.not_false] at *
    all_goals try simp (disch := omega) only [w64, if_pos, if_neg] at *
    all_goals first | trivial | omega | (split <;> omega) | (rw [if_pos (by omega)]; omega) | (rw [if_neg (by omega)]; omega) | (refine decide_eq_decide.2 ?_; omega) | (refine decide_eq_true ?_; omega) | (refine decide_eq_false ?_; omega)
  · exact h.elim
theorem sf119 : SF Try.prog 119 plusS := by
  refine sf_of types_ok mixed (l := []) trivial (es := []) trivial 2 Try.func119 rfl (by kernel_rfl) fun args h => ?_
  unfold plusS at h
  split at h
  · rename_i a b n
    clear h
    refine ⟨rfl, ?_⟩
    repeat' first | (exact PLe.refl _) | (exact BLe.refl _) | (exact PLeL.nil) | (exact BLeL.nil) | (refine ⟨?_, ?_⟩) | (refine PLeL.cons ?_ ?_) | (refine BLeL.cons ?_ ?_) | (refine ple_int ?_) | (refine ple_bool ?_) | (refine ple_tt ?_) | (refine ple_ff ?_) | (refine PLe.aggL ?_) | (refine PLe.tupL ?_) | (refine BLe.cellsL ?_) | (refine fun h => absurd h (by decide)) | (refine fun (h : @Eq Bool _ _) => ?_)
    all_goals first | trivial | rfl | omega | skip
    all_goals first | trivial | (show @Eq Int _ _) | (show @Eq Bool _ _) | skip
    all_goals try simp only [w, cond_true, cond_false, Bool.not_eq_true', Bool.not_eq_false', decide_eq_true_eq, decide_eq_false_iff_not, bne_iff_ne, bne_eq_false_iff_eq, beq_iff_eq, beq_eq_false_iff_ne, ne_eq, ite_eq_left_iff, Decidable.not_not, Bool.and_eq_true, Bool.or_eq_true, Bool.and_eq_false_iff, Bool.or_eq_false_iff, not_and, Bool.not_true, Bool.not_false] at *
    all_goals try simp (disch := omega) only [w64, if_pos, if_neg] at *
    all_goals first | trivial | omega | (split <;> omega) | (rw [if_pos (by omega)]; omega) | (rw [if_neg (by omega)]; omega) | (refine decide_eq_decide.2 ?_; omega) | (refine decide_eq_true ?_; omega) | (refine decide_eq_false ?_; omega)
  · exact h.elim
theorem sf89 : SF Try.prog 89 isAboveS := by
  refine sf_of types_ok mixed (l := []) trivial (es := []) trivial 2 Try.func89 rfl (by kernel_rfl) fun args h => ?_
  unfold isAboveS at h
  split at h
  · rename_i a b c d
    clear h
    refine ⟨rfl, ?_⟩
    repeat' first | (exact PLe.refl _) | (exact BLe.refl _) | (exact PLeL.nil) | (exact BLeL.nil) | (refine ⟨?_, ?_⟩) | (refine PLeL.cons ?_ ?_) | (refine BLeL.cons ?_ ?_) | (refine ple_int ?_) | (refine ple_bool ?_) | (refine ple_tt ?_) | (refine ple_ff ?_) | (refine PLe.aggL ?_) | (refine PLe.tupL ?_) | (refine BLe.cellsL ?_) | (refine fun h => absurd h (by decide)) | (refine fun (h : @Eq Bool _ _) => ?_)
    all_goals first | trivial | rfl | omega | skip
    all_goals first | trivial | (show @Eq Int _ _) | (show @Eq Bool _ _) | skip
    all_goals try simp only [w, cond_true, cond_false, Bool.not_eq_true', Bool.not_eq_false', decide_eq_true_eq, decide_eq_false_iff_not, bne_iff_ne, bne_eq_false_iff_eq, beq_iff_eq, beq_eq_false_iff_ne, ne_eq, ite_eq_left_iff, Decidable.not_not, Bool.and_eq_true, Bool.or_eq_true, Bool.and_eq_false_iff, Bool.or_eq_false_iff, not_and, Bool.not_true, Bool.not_false] at *
    all_goals try simp (disch := omega) only [w64, if_pos, if_neg] at *
    all_goals first | trivial | omega | (split <;> omega) | (rw [if_pos (by omega)]; omega) | (rw [if_neg (by omega)]; omega) | (refine decide_eq_decide.2 ?_; omega) | (refine decide_eq_true ?_; omega) | (refine decide_eq_false ?_; omega)
  · exact h.elim
theorem sf71 : SF Try.prog 71 atQS := by
  refine sf_of types_ok mixed (l := []) trivial (es := []) trivial 2 Try.func71 rfl (by kernel_rfl) fun args h => ?_
  unfold atQS at h
  split at h
  · rename_i a b c q
    clear h
    refine ⟨rfl, ?_⟩
    repeat' first | (exact PLe.refl _) | (exact BLe.refl _) | (exact PLeL.nil) | (exact BLeL.nil) | (refine ⟨?_, ?_⟩) | (refine PLeL.cons ?_ ?_) | (refine BLeL.cons ?_ ?_) | (refine ple_int ?_) | (refine ple_bool ?_) | (refine ple_tt ?_) | (refine ple_ff ?_) | (refine PLe.aggL ?_) | (refine PLe.tupL ?_) | (refine BLe.cellsL ?_) | (refine fun h => absurd h (by decide)) | (refine fun (h : @Eq Bool _ _) => ?_)
    all_goals first | trivial | rfl | omega | skip
    all_goals first | trivial | (show @Eq Int _ _) | (show @Eq Bool _ _) | skip
    all_goals try simp only [w, cond_true, cond_false, Bool.not_eq_true', Bool.not_eq_false', decide_eq_true_eq, decide_eq_false_iff_not, bne_iff_ne, bne_eq_false_iff_eq, beq_iff_eq, beq_eq_false_iff_ne, ne_eq, ite_eq_left_iff, Decidable.not_not, Bool.and_eq_true, Bool.or_eq_true, Bool.and_eq_false_iff, Bool.or_eq_false_iff, not_and, Bool.not_true, Bool.not_false] at *
    all_goals try simp (disch := omega) only [w64, if_pos, if_neg] at *
    all_goals first | trivial | omega | (split <;> omega) | (rw [if_pos (by omega)]; omega) | (rw [if_neg (by omega)]; omega) | (refine decide_eq_decide.2 ?_; omega) | (refine decide_eq_true ?_; omega) | (refine decide_eq_false ?_; omega)
  · exact h.elim
theorem sf63 : SF Try.prog 63 atQS := by
  refine sf_of types_ok mixed (l := []) trivial (es := []) trivial 2 Try.func63 rfl (by kernel_rfl) fun args h => ?_
  unfold atQS at h
  split at h
  · rename_i a b c q
    clear h
    refine ⟨rfl, ?_⟩
    repeat' first | (exact PLe.refl _) | (exact BLe.refl _) | (exact PLeL.nil) | (exact BLeL.nil) | (refine ⟨?_, ?_⟩) | (refine PLeL.cons ?_ ?_) | (refine BLeL.cons ?_ ?_) | (refine ple_int ?_) | (refine ple_bool ?_) | (refine ple_tt ?_) | (refine ple_ff ?_) | (refine PLe.aggL ?_) | (refine PLe.tupL ?_) | (refine BLe.cellsL ?_) | (refine fun h => absurd h (by decide)) | (refine fun (h : @Eq Bool _ _) => ?_)
    all_goals first | trivial | rfl | omega | skip
    all_goals first | trivial | (show @Eq Int _ _) | (show @Eq Bool _ _) | skip
    all_goals try simp only [w, cond_true, cond_false, Bool.not_eq_true', Bool.not_eq_false', decide_eq_true_eq, decide_eq_false_iff_not, bne_iff_ne, bne_eq_false_iff_eq, beq_iff_eq, beq_eq_false_iff_ne, ne_eq, ite_eq_left_iff, Decidable.not_not, Bool.and_eq_true, Bool.or_eq_true, Bool.and_eq_false_iff, Bool.or_eq_false_iff, not_and, Bool.not_true, Bool.not_false] at *
    all_goals try simp (disch := omega) only [w64, if_pos, if_neg] at *
    all_goals first | trivial | omega | (split <;> omega) | (rw [if_pos (by omega)]; omega) | (rw [if_neg (by omega)]; omega) | (refine decide_eq_decide.2 ?_; omega) | (refine decide_eq_true ?_; omega) | (refine decide_eq_false ?_; omega)
  · exact h.elim
theorem sf80 : SF Try.prog 80 isFlowS := by
  refine sf_of types_ok mixed (l := [(82, withinS)]) ⟨sf82, trivial⟩ (es := []) trivial 1 Try.func80 rfl (by kernel_rfl) fun args h => ?_
  unfold isFlowS at h
  split at h
  · rename_i n
    clear h
    refine ⟨rfl, ?_⟩
    repeat' first | (exact PLe.refl _) | (exact BLe.refl _) | (exact PLeL.nil) | (exact BLeL.nil) | (refine ⟨?_, ?_⟩) | (refine PLeL.cons ?_ ?_) | (refine BLeL.cons ?_ ?_) | (refine ple_int ?_) | (refine ple_bool ?_) | (refine ple_tt ?_) | (refine ple_ff ?_) | (refine PLe.aggL ?_) | (refine PLe.tupL ?_) | (refine BLe.cellsL ?_) | (refine fun h => absurd h (by decide)) | (refine fun (h : @Eq Bool _ _) => ?_)
    all_goals first | trivial | rfl | omega | skip
    all_goals first | trivial | (show @Eq Int _ _) | (show @Eq Bool _ _) | skip
    all_goals try simp only [w, cond_true, cond_false, Bool.not_eq_true', Bool.not_eq_false', decide_eq_true_eq, decide_eq_false_iff_not, bne_iff_ne, bne_eq_false_iff_eq, beq_iff_eq, beq_eq_false_iff_ne, ne_eq, ite_eq_left_iff, Decidable.not_not, Bool.and_eq_true, Bool.or_eq_true, Bool.and_eq_false_iff, Bool.or_eq_false_iff, not_and, Bool.not_true, Bool.not_false] at *
    all_goals try simp (disch := omega) only [w64, if_pos, if_neg] at *
    all_goals first | trivial | omega | (split <;> omega) | (rw [if_pos (by omega)]; omega) | (rw [if_neg (by omega)]; omega) | (refine decide_eq_decide.2 ?_; omega) | (refine decide_eq_true ?_; omega) | (refine decide_eq_false ?_; omega)
  · exact h.elim
theorem sf68 : SF Try.prog 68 validS := by
  refine sf_of types_ok mixed (l := [(80, isFlowS), (116, isDropS)]) ⟨sf80, sf116, trivial⟩ (es := []) trivial 1 Try.func68 rfl (by kernel_rfl) fun args h => ?_
  unfold validS at h
  split at h
  · rename_i q a b
    clear h
    refine ⟨rfl, ?_⟩
    repeat' first | (exact PLe.refl _) | (exact BLe.refl _) | (exact PLeL.nil) | (exact BLeL.nil) | (refine ⟨?_, ?_⟩) | (refine PLeL.cons ?_ ?_) | (refine BLeL.cons ?_ ?_) | (refine ple_int ?_) | (refine ple_bool ?_) | (refine ple_tt ?_) | (refine ple_ff ?_) | (refine PLe.aggL ?_) | (refine PLe.tupL ?_) | (refine BLe.cellsL ?_) | (refine fun h => absurd h (by decide)) | (refine fun (h : @Eq Bool _ _) => ?_)
    all_goals first | trivial | rfl | omega | skip
    all_goals first | trivial | (show @Eq Int _ _) | (show @Eq Bool _ _) | skip
    all_goals try simp only [w, okStp, okDrop, cond_true, cond_false, Bool.not_eq_true', Bool.not_eq_false', decide_eq_true_eq, decide_eq_false_iff_not, bne_iff_ne, bne_eq_false_iff_eq, beq_iff_eq, beq_eq_false_iff_ne, ne_eq, ite_eq_left_iff, Decidable.not_not, Bool.and_eq_true, Bool.or_eq_true, Bool.and_eq_false_iff, Bool.or_eq_false_iff, not_and, Bool.not_true, Bool.not_false] at *
    all_goals try simp (disch := omega) only [w64, if_pos, if_neg] at *
    all_goals first | trivial | omega | (split <;> omega) | (rw [if_pos (by omega)]; omega) | (rw [if_neg (by omega)]; omega) | (refine decide_eq_decide.2 ?_; omega) | (refine decide_eq_true ?_; omega) | (refine decide_eq_false ?_; omega)
  · exact h.elim
theorem sf66 : SF Try.prog 66 hasBoxS := by
  refine sf_of types_ok mixed (l := [(115, isFromS), (73, countS)]) ⟨sf115, sf73, trivial⟩ (es := []) trivial 1 Try.func66 rfl (by kernel_rfl) fun args h => ?_
  unfold hasBoxS at h
  split at h
  · rename_i a1 a2 b1 b2 c1 c2 _ _
    clear h
    refine ⟨rfl, ?_⟩
    repeat' first | (exact PLe.refl _) | (exact BLe.refl _) | (exact PLeL.nil) | (exact BLeL.nil) | (refine ⟨?_, ?_⟩) | (refine PLeL.cons ?_ ?_) | (refine BLeL.cons ?_ ?_) | (refine ple_int ?_) | (refine ple_bool ?_) | (refine ple_tt ?_) | (refine ple_ff ?_) | (refine PLe.aggL ?_) | (refine PLe.tupL ?_) | (refine BLe.cellsL ?_) | (refine fun h => absurd h (by decide)) | (refine fun (h : @Eq Bool _ _) => ?_)
    all_goals first | trivial | rfl | omega | skip
    all_goals first | trivial | (show @Eq Int _ _) | (show @Eq Bool _ _) | skip
    all_goals try simp only [w, okBox, cond_true, cond_false, Bool.not_eq_true', Bool.not_eq_false', decide_eq_true_eq, decide_eq_false_iff_not, bne_iff_ne, bne_eq_false_iff_eq, beq_iff_eq, beq_eq_false_iff_ne, ne_eq, ite_eq_left_iff, Decidable.not_not, Bool.and_eq_true, Bool.or_eq_true, Bool.and_eq_false_iff, Bool.or_eq_false_iff, not_and, Bool.not_true, Bool.not_false] at *
    all_goals try simp (disch := omega) only [w64, if_pos, if_neg] at *
    all_goals first | trivial | omega | (split <;> omega) | (rw [if_pos (by omega)]; omega) | (rw [if_neg (by omega)]; omega) | (refine decide_eq_decide.2 ?_; omega) | (refine decide_eq_true ?_; omega) | (refine decide_eq_false ?_; omega)
  · exact h.elim
theorem sf62 : SF Try.prog 62 isFromS := by
  refine sf_of types_ok mixed (l := [(30, withinS)]) ⟨sf30, trivial⟩ (es := []) trivial 3 Try.func62 rfl (by kernel_rfl) fun args h => ?_
  unfold isFromS at h
  split at h
  · rename_i a b lo hi
    clear h
    refine ⟨rfl, ?_⟩
    repeat' first | (exact PLe.refl _) | (exact BLe.refl _) | (exact PLeL.nil) | (exact BLeL.nil) | (refine ⟨?_, ?_⟩) | (refine PLeL.cons ?_ ?_) | (refine BLeL.cons ?_ ?_) | (refine ple_int ?_) | (refine ple_bool ?_) | (refine ple_tt ?_) | (refine ple_ff ?_) | (refine PLe.aggL ?_) | (refine PLe.tupL ?_) | (refine BLe.cellsL ?_) | (refine fun h => absurd h (by decide)) | (refine fun (h : @Eq Bool _ _) => ?_)
    all_goals first | trivial | rfl | omega | skip
    all_goals first | trivial | (show @Eq Int _ _) | (show @Eq Bool _ _) | skip
    all_goals try simp only [w, cond_true, cond_false, Bool.not_eq_true', Bool.not_eq_false', decide_eq_true_eq, decide_eq_false_iff_not, bne_iff_ne, bne_eq_false_iff_eq, beq_iff_eq, beq_eq_false_iff_ne, ne_eq, ite_eq_left_iff, Decidable.not_not, Bool.and_eq_true, Bool.or_eq_true, Bool.and_eq_false_iff, Bool.or_eq_false_iff, not_and, Bool.not_true, Bool.not_false] at *
    all_goals try simp (disch := omega) only [w64, if_pos, if_neg] at *
    all_goals first | trivial | omega | (split <;> omega) | (rw [if_pos (by omega)]; omega) | (rw [if_neg (by omega)]; omega) | (refine decide_eq_decide.2 ?_; omega) | (refine decide_eq_true ?_; omega) | (refine decide_eq_false ?_; omega)
  · exact h.elim
theorem sf27 : SF Try.prog 27 rangeS := by
  refine sf_of types_ok mixed (l := []) trivial (es := []) trivial 1 Try.func27 rfl (by kernel_rfl) fun args h => ?_
  unfold rangeS at h
  split at h
  · rename_i a b
    clear h
    refine ⟨rfl, ?_⟩
    repeat' first | (exact PLe.refl _) | (exact BLe.refl _) | (exact PLeL.nil) | (exact BLeL.nil) | (refine ⟨?_, ?_⟩) | (refine PLeL.cons ?_ ?_) | (refine BLeL.cons ?_ ?_) | (refine ple_int ?_) | (refine ple_bool ?_) | (refine ple_tt ?_) | (refine ple_ff ?_) | (refine PLe.aggL ?_) | (refine PLe.tupL ?_) | (refine BLe.cellsL ?_) | (refine fun h => absurd h (by decide)) | (refine fun (h : @Eq Bool _ _) => ?_)
    all_goals first | trivial | rfl | omega | skip
    all_goals first | trivial | (show @Eq Int _ _) | (show @Eq Bool _ _) | skip
    all_goals try simp only [w, cond_true, cond_false, Bool.not_eq_true', Bool.not_eq_false', decide_eq_true_eq, decide_eq_false_iff_not, bne_iff_ne, bne_eq_false_iff_eq, beq_iff_eq, beq_eq_false_iff_ne, ne_eq, ite_eq_left_iff, Decidable.not_not, Bool.and_eq_true, Bool.or_eq_true, Bool.and_eq_false_iff, Bool.or_eq_false_iff, not_and, Bool.not_true, Bool.not_false] at *
    all_goals try simp (disch := omega) only [w64, if_pos, if_neg] at *
    all_goals first | trivial | omega | (split <;> omega) | (rw [if_pos (by omega)]; omega) | (rw [if_neg (by omega)]; omega) | (refine decide_eq_decide.2 ?_; omega) | (refine decide_eq_true ?_; omega) | (refine decide_eq_false ?_; omega)
  · exact h.elim
theorem sf79 : SF Try.prog 79 spanS := by
  refine sf_of types_ok mixed (l := []) trivial (es := []) trivial 2 Try.func79 rfl (by kernel_rfl) fun args h => ?_
  unfold spanS at h
  split at h
  · rename_i a b c d
    clear h
    refine ⟨rfl, ?_⟩
    repeat' first | (exact PLe.refl _) | (exact BLe.refl _) | (exact PLeL.nil) | (exact BLeL.nil) | (refine ⟨?_, ?_⟩) | (refine PLeL.cons ?_ ?_) | (refine BLeL.cons ?_ ?_) | (refine ple_int ?_) | (refine ple_bool ?_) | (refine ple_tt ?_) | (refine ple_ff ?_) | (refine PLe.aggL ?_) | (refine PLe.tupL ?_) | (refine BLe.cellsL ?_) | (refine fun h => absurd h (by decide)) | (refine fun (h : @Eq Bool _ _) => ?_)
    all_goals first | trivial | rfl | omega | skip
    all_goals first | trivial | (show @Eq Int _ _) | (show @Eq Bool _ _) | skip
    all_goals try simp only [w, cond_true, cond_false, Bool.not_eq_true', Bool.not_eq_false', decide_eq_true_eq, decide_eq_false_iff_not, bne_iff_ne, bne_eq_false_iff_eq, beq_iff_eq, beq_eq_false_iff_ne, ne_eq, ite_eq_left_iff, Decidable.not_not, Bool.and_eq_true, Bool.or_eq_true, Bool.and_eq_false_iff, Bool.or_eq_false_iff, not_and, Bool.not_true, Bool.not_false] at *
    all_goals try simp (disch := omega) only [w64, if_pos, if_neg] at *
    all_goals first | trivial | omega | (split <;> omega) | (rw [if_pos (by omega)]; omega) | (rw [if_neg (by omega)]; omega) | (refine decide_eq_decide.2 ?_; omega) | (refine decide_eq_true ?_; omega) | (refine decide_eq_false ?_; omega)
  · exact h.elim
end Go.Proofs.Ytnjhbmcambofgaa
