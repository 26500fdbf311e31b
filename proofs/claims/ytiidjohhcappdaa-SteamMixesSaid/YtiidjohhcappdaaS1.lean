/- Layer 1: the small functions on streams. -/
import Derived.Test.YtiidjohhcappdaaW2
import Derived.Test.YtiidjohhcappdaaVt
namespace Go.Proofs.Ytiidjohhcappdaa
open Go.V

structure Stream where
  m : Int
  h : Int
  s : Int
  g : Int
  deriving DecidableEq
def encS (x : Stream) : PV := .agg [.int .i64 x.m, .int .i64 x.h, .int .i64 x.s, .int .i64 x.g]
abbrev okS (x : Stream) : Prop := 0 ≤ x.m ∧ x.m ≤ 1000000 ∧ 0 ≤ x.h ∧ x.h ≤ 4000 * x.m ∧ 0 ≤ x.s ∧ x.s ≤ 10000 * x.m ∧ 0 ≤ x.g ∧ x.g ≤ 1000000000
def bad : Option Prop × PV := (some False, .junk)
def I (n : Int) : PV := .int .i64 n

def inS : V.Spec
  | [.int .i64 n, .int .i64 lo, .int .i64 hi] => (none, .bool (decide (lo ≤ n ∧ n ≤ hi)))
  | _ => bad
def okSS : V.Spec
  | [.agg [.int .i64 a, .int .i64 b, .int .i64 c, .int .i64 d]] => (none, .bool (decide (okS ⟨a, b, c, d⟩)))
  | _ => bad

theorem sf27 : SF Try.prog 27 inS := by
  refine sf_of types_ok mixed (l := []) trivial (es := []) trivial 3 Try.func27 rfl (by kernel_rfl) fun args h => ?_
  unfold inS at h
  split at h
  · refine ⟨rfl, ⟨fun h1 => ?_, fun h1 => ?_⟩⟩
    · refine ⟨rfl, .bool _ _ ?_⟩
      simp_all
    · refine ⟨rfl, .ff _ ?_⟩
      simp_all
      omega
  · exact h.elim
theorem sf56 : SF Try.prog 56 inS := by
  refine sf_of types_ok mixed (l := []) trivial (es := []) trivial 3 Try.func56 rfl (by kernel_rfl) fun args h => ?_
  unfold inS at h
  split at h
  · refine ⟨rfl, ⟨fun h1 => ?_, fun h1 => ?_⟩⟩
    · refine ⟨rfl, .bool _ _ ?_⟩
      simp_all
    · refine ⟨rfl, .ff _ ?_⟩
      simp_all
      omega
  · exact h.elim
theorem sf21 : SF Try.prog 21 okSS := by
  refine sf_of types_ok mixed (l := [(27, inS)]) ⟨sf27, trivial⟩ (es := []) trivial 1 Try.func21 rfl (by kernel_rfl) fun args h => ?_
  unfold okSS at h
  split at h
  · rename_i a b c d
    refine ⟨rfl, ⟨fun h1 => ⟨fun h2 => ⟨fun h3 => ?_, fun h3 => ?_⟩, fun h2 => ?_⟩, fun h1 => ?_⟩⟩
    · refine ⟨rfl, .bool _ _ ?_⟩
      simp only [decide_eq_true_eq] at h1 h2 h3
      rw [w64 (by omega) (by omega)] at h2 h3
      refine decide_eq_decide.2 ?_
      simp only [okS]
      omega
    · refine ⟨rfl, .ff _ ?_⟩
      simp only [Bool.not_true, decide_eq_true_eq, decide_eq_false_iff_not] at h1 h2 h3
      rw [w64 (by omega) (by omega)] at h2 h3
      refine decide_eq_false ?_
      simp only [okS]
      omega
    · refine ⟨rfl, .ff _ ?_⟩
      simp only [Bool.not_true, decide_eq_true_eq, decide_eq_false_iff_not] at h1 h2
      rw [w64 (by omega) (by omega)] at h2
      refine decide_eq_false ?_
      simp only [okS]
      omega
    · refine ⟨rfl, .ff _ ?_⟩
      simp only [Bool.not_true, decide_eq_false_iff_not] at h1
      refine decide_eq_false ?_
      simp only [okS]
      omega
  · exact h.elim
end Go.Proofs.Ytiidjohhcappdaa
