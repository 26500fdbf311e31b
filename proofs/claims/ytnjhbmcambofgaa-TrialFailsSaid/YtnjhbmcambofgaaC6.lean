/- For any test, the law on what is blamed answers true: the blamed step, and the list of conflicts, are as the document says. No condition. -/
import Derived.Test.YtnjhbmcambofgaaVn
import Derived.Test.YtnjhbmcambofgaaR0
import Derived.Test.YtnjhbmcambofgaaRows
import Derived.Test.YtnjhbmcambofgaaA6
namespace Go.Proofs.Ytnjhbmcambofgaa
open Go.V Go.ChangeShapes Go.WideShapes Go.ChangeAt Go.RowKit
set_option linter.unusedVariables false

set_option maxRecDepth 100000 in
theorem trialFails_lifted {sp : V.Spec} (hS : SF Try.prog 6 sp) (hsp : ∀ pvs, GoodAll [sTest] pvs → (sp pvs).1.getD True ∧ (sp pvs).2 = .bool true) (os : Os) (started : os.Started) (H : Type) (enc : TypeId × Value → H) :
    ReturnsInHanded {} Try.checked os 6 .any (Rows.trialFailsSpec.pre6 enc Try.prog Try.f6 Rows.trialFailsRow.domain false) (Rows.trialFailsSpec.post enc Try.prog Try.f6 false true false false) := by
  refine returnsInHanded_of_change (C := Try.checked) own started (by kernel_rfl) Try.func6
    (ChangeSpec.witness6 (enc := enc) (C := Try.checked) false ⟨#[], #[.agg #[.int .i64 0, .int .i64 0, .int .i64 0, .int .i64 0, .int .i64 0, .int .i64 0, .slice none 0 0]], []⟩ 8 (by kernel_rfl) (by kernel_rfl) (by kernel_rfl) (by kernel_rfl)) ?_
  intro W base args ds gs before hval hW _ _
  refine law_calls (shs := [sTest]) (tb := 4) laidOut hS (by kernel_rfl) (by kernel_rfl) (by kernel_rfl) rfl (fun H ds h => ?_) hsp W base args ds gs before hval hW
  match ds, h with
  | [_], _ => rfl
theorem trialFails_row {sp : V.Spec} (hS : SF Try.prog 6 sp) (hsp : ∀ pvs, GoodAll [sTest] pvs → (sp pvs).1.getD True ∧ (sp pvs).2 = .bool true) : Rows.TrialFailsSaid :=
  OpenClaim.holds_of_wide 6 Try.f6 rfl rfl rfl rfl rfl rfl rfl ⟨rfl, rfl, rfl, rfl, rfl⟩ rfl rfl rfl rfl rfl (by kernel_rfl) Try.func6 (by kernel_rfl)
    (of_decide_eq_true (by kernel_rfl)) (by unfold Func.isWrapper; rw [if_neg (by decide +kernel)]; exact ⟨rfl, rfl⟩)
    (fun os started H enc _ => trialFails_lifted hS hsp os started H enc)
inductive isArg {α : Type} (enc : α → List PV) (n : Nat) (get : Nat → List PV) : Prop
  | mk (s : Nat → α) (hn : n ≤ 9223372036854775807) (e : get = fun i => enc (s i))
  | no (h : False)
def trialFailsStrong : V.Spec
  | [.agg [.int .i64 a0, .int .i64 b0, .int .i64 c0, .int .i64 d0, .int .i64 e0, .int .i64 f0, .slice none n0 g0]] => (some (isArg stpL n0 g0), .bool true)
  | _ => bad
theorem trialFails_strong : SF Try.prog 6 trialFailsStrong := by
  refine sf_each ⟨_, _, Try.func6, by kernel_rfl, rfl⟩ fun args h => ?_
  unfold trialFailsStrong at h ⊢
  split at h
  · rename_i a0 b0 c0 d0 e0 f0 n0 g0
    have h_0 : isArg stpL n0 g0 := h
    cases h_0 with
    | no h => exact h.elim
    | mk s0 hn_0 e_0 =>
    subst e_0
    exact failsA ⟨⟨a0, b0⟩, ⟨c0, d0⟩, ⟨e0, f0⟩, n0, s0⟩
  · exact h.elim
def trialFailsWeak : V.Spec
  | [.agg [.int .i64 a0, .int .i64 b0, .int .i64 c0, .int .i64 d0, .int .i64 e0, .int .i64 f0, .slice none n0 g0]] => (some (((∀ i, i < n0 → g0 i = stpL (stpOf (g0 i))) ∧ n0 ≤ 9223372036854775807)), .bool true)
  | _ => bad
theorem trialFails_weak : SF Try.prog 6 trialFailsWeak := by
  refine sf_args trialFails_strong fun args h => ?_
  unfold trialFailsWeak at h ⊢
  split at h
  · rename_i a0 b0 c0 d0 e0 f0 n0 g0
    have h_0 : ((∀ i, i < n0 → g0 i = stpL (stpOf (g0 i))) ∧ n0 ≤ 9223372036854775807) := h
    refine ⟨[.agg [.int .i64 a0, .int .i64 b0, .int .i64 c0, .int .i64 d0, .int .i64 e0, .int .i64 f0, .slice none n0 fun i => stpL (stpOf (g0 i))]], rfl, fun i hi => ?_, .mk _ h_0.2 rfl, rfl⟩
    match i, hi with
    | 0, _ => exact PLe.aggL (.cons (.refl _) (.cons (.refl _) (.cons (.refl _) (.cons (.refl _) (.cons (.refl _) (.cons (.refl _) (.cons (.slice _ _ _ _ h_0.1) .nil)))))))
  · exact h.elim
theorem trialFails_holds : Rows.TrialFailsSaid := by
  refine trialFails_row trialFails_weak fun pvs h => ?_
  cases h with
  | cons g_0 h =>
  cases h
  obtain ⟨a0, b0, c0, d0, e0, f0, n0, g0, rfl, hm_0, hg_0⟩ := good_test g_0
  exact ⟨⟨hg_0, hm_0⟩, rfl⟩
#print axioms trialFails_holds
end Go.Proofs.Ytnjhbmcambofgaa
