/- Layer 1: streams of the program. -/
import Derived.Test.YtiidjohhcappdaaS1
import Derived.Test.YtiidjohhcappdaaW2
namespace Go.Proofs.Ytiidjohhcappdaa
open Go.V

theorem w64e (n : Int) : IntKind.i64.wrap n = (n + 9223372036854775808) % 18446744073709551616 - 9223372036854775808 := by
  unfold IntKind.wrap
  simp only [show IntKind.i64.bits = 64 from rfl, show IntKind.i64.signed = true from rfl, Bool.true_and, ge_iff_le]
  have e1 : ((2 : Int) ^ 64) = 18446744073709551616 := by decide
  have e2 : ((2 : Int) ^ (64 - 1)) = 9223372036854775808 := by decide
  rw [e1, e2]
  split
  · rename_i h
    have := of_decide_eq_true h
    omega
  · rename_i h
    have : ¬ (9223372036854775808 ≤ n % 18446744073709551616) := fun h' => h (decide_eq_true h')
    omega
def strS : V.Spec
  | [.agg [.int .i64 a, .int .i64 b, .int .i64 c, .int .i64 d]] => (none, encS ⟨a, b, c, d⟩)
  | _ => bad
def errR (b : Bool) : PV := I (if b then 0 else 1)
def chkS : V.Spec
  | [.agg [.int .i64 a, .int .i64 b, .int .i64 c, .int .i64 d]] => (none, errR (decide (okS ⟨a, b, c, d⟩)))
  | _ => bad
def roomS : V.Spec
  | [.agg [.int .i64 a, .int .i64 b, .int .i64 c, .int .i64 d]] => (some (okS ⟨a, b, c, d⟩), I (4000 * a - b))
  | _ => bad
def zeroS : Stream := ⟨0, 0, 0, 0⟩
def sel (x : Stream) (p : Prop) [Decidable p] : Stream := ⟨if p then x.m else 0, if p then x.h else 0, if p then x.s else 0, if p then x.g else 0⟩
def heatedR (x : Stream) (k : Int) : PV :=
  .tup [encS (sel ⟨x.m, x.h + k, x.s, x.g⟩ (okS x ∧ -x.h ≤ k ∧ k ≤ 4000 * x.m - x.h)), I (if okS x then (if -x.h ≤ k ∧ k ≤ 4000 * x.m - x.h then 0 else 2) else 1)]
def heatedS : V.Spec
  | [.agg [.int .i64 a, .int .i64 b, .int .i64 c, .int .i64 d], .int .i64 k] => (none, heatedR ⟨a, b, c, d⟩ k)
  | _ => bad

theorem sf23 : SF Try.prog 23 strS := by
  refine sf_of types_ok mixed (l := []) trivial (es := []) trivial 1 Try.func23 rfl (by kernel_rfl) fun args h => ?_
  unfold strS at h
  split at h
  · refine ⟨rfl, ?_⟩
    exact ⟨rfl, .refl _⟩
  · exact h.elim
theorem sf58 : SF Try.prog 58 okSS := by
  refine sf_of types_ok mixed (l := [(56, inS)]) ⟨sf56, trivial⟩ (es := []) trivial 1 Try.func58 rfl (by kernel_rfl) fun args h => ?_
  unfold okSS at h
  split at h
  · rename_i a b c d
    refine ⟨rfl, ⟨fun h1 => ⟨fun h2 => ⟨fun h3 => ?_, fun h3 => ?_⟩, fun h2 => ?_⟩, fun h1 => ?_⟩⟩
    · refine ⟨rfl, .bool _ _ ?_⟩
      simp only [decide_eq_true_eq] at h1 h2 h3
      rw [w64 (by omega) (by omega)] at h2 h3
      refine decide_eq_decide.2 ?_
      simp only [okS]
      omega
    · refine ⟨rfl, .ff _ ?_⟩
      simp only [Bool.not_true, decide_eq_true_eq, decide_eq_false_iff_not] at h1 h2 h3
      rw [w64 (by omega) (by omega)] at h2 h3
      refine decide_eq_false ?_
      simp only [okS]
      omega
    · refine ⟨rfl, .ff _ ?_⟩
      simp only [Bool.not_true, decide_eq_true_eq, decide_eq_false_iff_not] at h1 h2
      rw [w64 (by omega) (by omega)] at h2
      refine decide_eq_false ?_
      simp only [okS]
      omega
    · refine ⟨rfl, .ff _ ?_⟩
      simp only [Bool.not_true, decide_eq_false_iff_not] at h1
      refine decide_eq_false ?_
      simp only [okS]
      omega
  · exact h.elim
theorem sf22 : SF Try.prog 22 chkS := by
  refine sf_of types_ok mixed (l := [(58, okSS)]) ⟨sf58, trivial⟩ (es := []) trivial 1 Try.func22 rfl (by kernel_rfl) fun args h => ?_
  unfold chkS at h
  split at h
  · rename_i a b c d
    refine ⟨rfl, ⟨fun h1 => ?_, fun h1 => ?_⟩⟩
    · refine ⟨rfl, .int _ _ _ ?_⟩
      simp only [Bool.not_eq_true'] at h1
      rw [h1]
      rfl
    · refine ⟨rfl, .int _ _ _ ?_⟩
      simp only [Bool.not_eq_false'] at h1
      rw [h1]
      rfl
  · exact h.elim
theorem sf66 : SF Try.prog 66 roomS := by
  refine sf_of types_ok mixed (l := []) trivial (es := []) trivial 1 Try.func66 rfl (by kernel_rfl) fun args h => ?_
  unfold roomS at h
  split at h
  · rename_i a b c d
    have h : okS ⟨a, b, c, d⟩ := h
    simp only [okS] at h
    refine ⟨rfl, ?_⟩
    refine ⟨rfl, .int _ _ _ ?_⟩
    rw [w64 (n := 4000 * a) (by omega) (by omega), w64 (by omega) (by omega)]
  · exact h.elim
theorem sf37 : SF Try.prog 37 heatedS := by
  refine sf_of types_ok mixed (l := [(22, chkS), (56, inS), (66, roomS)]) ⟨sf22, sf56, sf66, trivial⟩ (es := []) trivial 2 Try.func37 rfl (by kernel_rfl) fun args h => ?_
  unfold heatedS at h
  split at h
  · rename_i a b c d k
    clear h
    refine ⟨rfl, ?_⟩
    repeat' first
      | refine ple_ok ?_
      | refine ⟨?_, ?_⟩
      | refine fun _ => ?_
    all_goals first
      | trivial
      | rfl
      | skip
    all_goals try show @Eq Int _ _
    all_goals simp only [okS, sel, w64e, Bool.not_eq_true', Bool.not_eq_false', decide_eq_true_eq, decide_eq_false_iff_not, bne_iff_ne, bne_eq_false_iff_eq, ne_eq, ite_eq_left_iff] at *
    all_goals first
      | omega
      | (split <;> omega)
      | (rw [if_pos (by omega)]; omega)
      | (rw [if_neg (by omega)]; omega)
  · exact h.elim
end Go.Proofs.Ytiidjohhcappdaa
