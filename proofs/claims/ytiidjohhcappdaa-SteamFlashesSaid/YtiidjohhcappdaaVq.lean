/- What is said of a function, at one argument list after another. -/
import Derived.Test.YtiidjohhcappdaaVp
namespace Go.V

def atS (args : List PV) (v : PV) : Spec := fun xs => (some (xs = args), v)

theorem sf_at {P : Program} {f : Nat} {s : Spec} (h : SF P f s) {args : List PV} {v : PV} (h1 : (s args).1.getD True) (h2 : (s args).2 = v) : SF P f (atS args v) := by
  refine ⟨?_, h.2⟩
  intro xs σ w vals hs hr hσ hp
  have hp : xs = args := hp
  subst hp
  have := h.1 xs σ w vals hs hr hσ h1
  rw [h2] at this
  exact this

/-- A function of which something can be said. -/
def HasBody (P : Program) (f : Nat) : Prop := ∃ fn c, P.funcs[f]? = some fn ∧ (fn.name == "runtime.NumGoroutine") = false ∧ fn.body = some c

theorem sf_each {P : Program} {f : Nat} {s : Spec} (hb : HasBody P f) (h : ∀ args, (s args).1.getD True → SF P f (atS args (s args).2)) : SF P f s := by
  refine ⟨?_, hb⟩
  intro xs σ w vals hs hr hσ hp
  exact (h xs hp).1 xs σ w vals hs hr hσ rfl
end Go.V
