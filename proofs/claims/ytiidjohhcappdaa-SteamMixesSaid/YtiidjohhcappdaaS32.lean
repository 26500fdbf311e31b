/- Layer 1: the order of remainders, as the program sorts them. -/
import Derived.Test.YtiidjohhcappdaaS30
import Derived.Test.YtiidjohhcappdaaM17
namespace Go.Proofs.Ytiidjohhcappdaa
open Go.V
set_option linter.unusedSimpArgs false

def nanS : V.Spec
  | [.int .i64 _] => (none, .bool false)
  | _ => bad
theorem sf89 : SF Try.prog 89 nanS := by
  refine sf_of types_ok mixed (l := []) trivial (es := []) trivial 1 Try.func89 rfl (by kernel_rfl) fun args h => ?_
  unfold nanS at h
  split at h
  · refine ⟨rfl, rfl, ple_ok ?_⟩
    show (_ : Bool) = false
    exact bne_self_eq_false _
  · exact h.elim
def cmpZ (a b : Int) : Int := if a < b then -1 else if b < a then 1 else 0
def cmpS : V.Spec
  | [.int .i64 a, .int .i64 b] => (none, I (cmpZ a b))
  | _ => bad
theorem sf87 : SF Try.prog 87 cmpS := by
  refine sf_of types_ok mixed (l := [(89, nanS)]) ⟨sf89, trivial⟩ (es := []) trivial 2 Try.func87 rfl (by kernel_rfl) fun args h => ?_
  unfold cmpS at h
  split at h
  · rename_i a b
    refine ⟨rfl, ?_⟩
    show _
    repeat' first
      | refine ⟨?_, ?_⟩
      | refine fun h => absurd h (by decide)
      | refine fun h => ?_
      | refine ple_ok ?_
    all_goals first
      | trivial
      | rfl
      | (simp only [decide_eq_true_eq, decide_eq_false_iff_not] at *; show _ = cmpZ a b; unfold cmpZ; split <;> first | omega | (split <;> omega) | rfl)
  · exact h.elim

/-- The comparer works on blocks of its caller. -/
def ef86 : Eff := fun args bl k => args.length = 3 ∧ effBody ⟨types, [(87, cmpS)], [], 5000, false, [], [], [], none, false⟩ (Try.f86.body.getD .skip) Try.f86.results.toList args bl k
theorem se86 : SE Try.prog 86 5000 ef86 := se_of types_ok mixed (l := [(87, cmpS)]) ⟨sf87, trivial⟩ (es := []) trivial 5000 3 Try.func86 rfl (by kernel_rfl)
def ef90 : Eff := fun args bl k => args.length = 4 ∧ effBody ⟨types, [], [(86, 5000, ef86)], 4000, false, [], [], [], none, false⟩ (Try.f90.body.getD .skip) Try.f90.results.toList args bl k
theorem se90 : SE Try.prog 90 4000 ef90 := se_of types_ok mixed (l := []) trivial (es := [(86, 5000, ef86)]) ⟨se86, trivial⟩ 4000 4 Try.func90 rfl (by kernel_rfl)
end Go.Proofs.Ytiidjohhcappdaa
