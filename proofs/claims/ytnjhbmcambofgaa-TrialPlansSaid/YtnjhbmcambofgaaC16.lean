/- For any survey, division and set of wells, the law on plans answers true: the least plan makes all relations known, and no smaller set of wells does. No condition. -/
import Derived.Test.YtnjhbmcambofgaaVn
import Derived.Test.YtnjhbmcambofgaaR0
import Derived.Test.YtnjhbmcambofgaaRows
import Derived.Test.YtnjhbmcambofgaaA16
namespace Go.Proofs.Ytnjhbmcambofgaa
open Go.V Go.ChangeShapes Go.WideShapes Go.ChangeAt Go.RowKit
set_option linter.unusedVariables false

set_option maxRecDepth 100000 in
theorem trialPlans_lifted {sp : V.Spec} (hS : SF Try.prog 16 sp) (hsp : ∀ pvs, GoodAll [sSurvey, .one (.int .u64), .one (.int .u16)] pvs → (sp pvs).1.getD True ∧ (sp pvs).2 = .bool true) (os : Os) (started : os.Started) (H : Type) (enc : TypeId × Value → H) :
    ReturnsInHanded {} Try.checked os 16 .any (Rows.trialPlansSpec.pre6 enc Try.prog Try.f16 Rows.trialPlansRow.domain false) (Rows.trialPlansSpec.post enc Try.prog Try.f16 false true false false) := by
  refine returnsInHanded_of_change (C := Try.checked) own started (by kernel_rfl) Try.func16
    (ChangeSpec.witness6 (enc := enc) (C := Try.checked) false ⟨#[], #[.agg #[.int .i64 0, .int .i64 0, .slice none 0 0], .int .u64 0, .int .u16 0], []⟩ 8 (by kernel_rfl) (by kernel_rfl) (by kernel_rfl) (by kernel_rfl)) ?_
  intro W base args ds gs before hval hW _ _
  refine law_calls (shs := [sSurvey, .one (.int .u64), .one (.int .u16)]) (tb := 4) laidOut hS (by kernel_rfl) (by kernel_rfl) (by kernel_rfl) rfl (fun H ds h => ?_) hsp W base args ds gs before hval hW
  match ds, h with
  | [_, _, _], _ => rfl
theorem trialPlans_row {sp : V.Spec} (hS : SF Try.prog 16 sp) (hsp : ∀ pvs, GoodAll [sSurvey, .one (.int .u64), .one (.int .u16)] pvs → (sp pvs).1.getD True ∧ (sp pvs).2 = .bool true) : Rows.TrialPlansSaid :=
  OpenClaim.holds_of_wide 16 Try.f16 rfl rfl rfl rfl rfl rfl rfl ⟨rfl, rfl, rfl, rfl, rfl⟩ rfl rfl rfl rfl rfl (by kernel_rfl) Try.func16 (by kernel_rfl)
    (of_decide_eq_true (by kernel_rfl)) (by unfold Func.isWrapper; rw [if_neg (by decide +kernel)]; exact ⟨rfl, rfl⟩)
    (fun os started H enc _ => trialPlans_lifted hS hsp os started H enc)
inductive isArg {α : Type} (enc : α → List PV) (n : Nat) (get : Nat → List PV) : Prop
  | mk (s : Nat → α) (hn : n ≤ 9223372036854775807) (e : get = fun i => enc (s i))
  | no (h : False)
def trialPlansStrong : V.Spec
  | [.agg [.int .i64 a0, .int .i64 b0, .slice none n0 g0], .int .u64 a1, .int .u16 a2] => (some (isArg obsL n0 g0 ∧ (0 ≤ a1 ∧ a1 ≤ 18446744073709551615) ∧ (0 ≤ a2 ∧ a2 ≤ 65535)), .bool true)
  | _ => bad
theorem trialPlans_strong : SF Try.prog 16 trialPlansStrong := by
  refine sf_each ⟨_, _, Try.func16, by kernel_rfl, rfl⟩ fun args h => ?_
  unfold trialPlansStrong at h ⊢
  split at h
  · rename_i a0 b0 n0 g0 a1 a2
    obtain ⟨h_0, h_1, h_2⟩ : isArg obsL n0 g0 ∧ (0 ≤ a1 ∧ a1 ≤ 18446744073709551615) ∧ (0 ≤ a2 ∧ a2 ≤ 65535) := h
    cases h_0 with
    | no h => exact h.elim
    | mk s0 hn_0 e_0 =>
    subst e_0
    exact plansA ⟨a0, b0, n0, s0⟩ a1 h_1 a2 h_2
  · exact h.elim
def trialPlansWeak : V.Spec
  | [.agg [.int .i64 a0, .int .i64 b0, .slice none n0 g0], .int .u64 a1, .int .u16 a2] => (some (((∀ i, i < n0 → g0 i = obsL (obsOf (g0 i))) ∧ n0 ≤ 9223372036854775807) ∧ (0 ≤ a1 ∧ a1 ≤ 18446744073709551615) ∧ (0 ≤ a2 ∧ a2 ≤ 65535)), .bool true)
  | _ => bad
theorem trialPlans_weak : SF Try.prog 16 trialPlansWeak := by
  refine sf_args trialPlans_strong fun args h => ?_
  unfold trialPlansWeak at h ⊢
  split at h
  · rename_i a0 b0 n0 g0 a1 a2
    obtain ⟨h_0, h_1, h_2⟩ : ((∀ i, i < n0 → g0 i = obsL (obsOf (g0 i))) ∧ n0 ≤ 9223372036854775807) ∧ (0 ≤ a1 ∧ a1 ≤ 18446744073709551615) ∧ (0 ≤ a2 ∧ a2 ≤ 65535) := h
    refine ⟨[.agg [.int .i64 a0, .int .i64 b0, .slice none n0 fun i => obsL (obsOf (g0 i))], .int .u64 a1, .int .u16 a2], rfl, fun i hi => ?_, ⟨.mk _ h_0.2 rfl, h_1, h_2⟩, rfl⟩
    match i, hi with
    | 0, _ => exact PLe.aggL (.cons (.refl _) (.cons (.refl _) (.cons (.slice _ _ _ _ h_0.1) .nil)))
    | 1, _ => exact .refl _
    | 2, _ => exact .refl _
  · exact h.elim
theorem trialPlans_holds : Rows.TrialPlansSaid := by
  refine trialPlans_row trialPlans_weak fun pvs h => ?_
  cases h with
  | cons g_0 h =>
  cases h with
  | cons g_1 h =>
  cases h with
  | cons g_2 h =>
  cases h
  obtain ⟨a0, b0, n0, g0, rfl, hm_0, hg_0⟩ := good_survey g_0
  obtain ⟨a1, rfl, hr_1⟩ := good_u64 g_1
  obtain ⟨a2, rfl, hr_2⟩ := good_u16 g_2
  exact ⟨⟨⟨hg_0, hm_0⟩, hr_1, hr_2⟩, rfl⟩
#print axioms trialPlans_holds
end Go.Proofs.Ytnjhbmcambofgaa
