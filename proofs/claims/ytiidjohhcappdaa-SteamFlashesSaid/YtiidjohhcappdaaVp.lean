/- Part 13: what is said of a function, said of weaker arguments. -/
import Derived.Test.YtiidjohhcappdaaVo
namespace Go.V

theorem sf_args {P : Program} {f : Nat} {s s' : Spec} (h : SF P f s) (hn : ∀ args, (s' args).1.getD True → ∃ args', args.length = args'.length ∧ (∀ i, i < args.length → PLe (args.getD i .junk) (args'.getD i .junk)) ∧ (s args').1.getD True ∧ (s args').2 = (s' args).2) : SF P f s' := by
  refine ⟨?_, h.2⟩
  intro args σ w vals hv hr hσ hp
  obtain ⟨args', hl, hle, hp', he⟩ := hn args hp
  have := h.1 args' σ w vals (hv.trans hl) (fun i hi => RelP.le (hle i (by omega)) (hr i (by omega))) hσ hp'
  rw [he] at this
  exact this
end Go.V
