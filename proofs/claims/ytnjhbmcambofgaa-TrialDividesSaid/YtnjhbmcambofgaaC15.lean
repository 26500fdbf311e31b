/- For any survey and division, the law on divisions answers true: the groups fit without a clash, no division fits with one, and relations hold of all divisions that fit. No condition. -/
import Derived.Test.YtnjhbmcambofgaaVn
import Derived.Test.YtnjhbmcambofgaaR0
import Derived.Test.YtnjhbmcambofgaaRows
import Derived.Test.YtnjhbmcambofgaaA15
namespace Go.Proofs.Ytnjhbmcambofgaa
open Go.V Go.ChangeShapes Go.WideShapes Go.ChangeAt Go.RowKit
set_option linter.unusedVariables false

set_option maxRecDepth 100000 in
theorem trialDivides_lifted {sp : V.Spec} (hS : SF Try.prog 15 sp) (hsp : ∀ pvs, GoodAll [sSurvey, .one (.int .u64)] pvs → (sp pvs).1.getD True ∧ (sp pvs).2 = .bool true) (os : Os) (started : os.Started) (H : Type) (enc : TypeId × Value → H) :
    ReturnsInHanded {} Try.checked os 15 .any (Rows.trialDividesSpec.pre6 enc Try.prog Try.f15 Rows.trialDividesRow.domain false) (Rows.trialDividesSpec.post enc Try.prog Try.f15 false true false false) := by
  refine returnsInHanded_of_change (C := Try.checked) own started (by kernel_rfl) Try.func15
    (ChangeSpec.witness6 (enc := enc) (C := Try.checked) false ⟨#[], #[.agg #[.int .i64 0, .int .i64 0, .slice none 0 0], .int .u64 0], []⟩ 8 (by kernel_rfl) (by kernel_rfl) (by kernel_rfl) (by kernel_rfl)) ?_
  intro W base args ds gs before hval hW _ _
  refine law_calls (shs := [sSurvey, .one (.int .u64)]) (tb := 4) laidOut hS (by kernel_rfl) (by kernel_rfl) (by kernel_rfl) rfl (fun H ds h => ?_) hsp W base args ds gs before hval hW
  match ds, h with
  | [_, _], _ => rfl
theorem trialDivides_row {sp : V.Spec} (hS : SF Try.prog 15 sp) (hsp : ∀ pvs, GoodAll [sSurvey, .one (.int .u64)] pvs → (sp pvs).1.getD True ∧ (sp pvs).2 = .bool true) : Rows.TrialDividesSaid :=
  OpenClaim.holds_of_wide 15 Try.f15 rfl rfl rfl rfl rfl rfl rfl ⟨rfl, rfl, rfl, rfl, rfl⟩ rfl rfl rfl rfl rfl (by kernel_rfl) Try.func15 (by kernel_rfl)
    (of_decide_eq_true (by kernel_rfl)) (by unfold Func.isWrapper; rw [if_neg (by decide +kernel)]; exact ⟨rfl, rfl⟩)
    (fun os started H enc _ => trialDivides_lifted hS hsp os started H enc)
inductive isArg {α : Type} (enc : α → List PV) (n : Nat) (get : Nat → List PV) : Prop
  | mk (s : Nat → α) (hn : n ≤ 9223372036854775807) (e : get = fun i => enc (s i))
  | no (h : False)
def trialDividesStrong : V.Spec
  | [.agg [.int .i64 a0, .int .i64 b0, .slice none n0 g0], .int .u64 a1] => (some (isArg obsL n0 g0 ∧ (0 ≤ a1 ∧ a1 ≤ 18446744073709551615)), .bool true)
  | _ => bad
theorem trialDivides_strong : SF Try.prog 15 trialDividesStrong := by
  refine sf_each ⟨_, _, Try.func15, by kernel_rfl, rfl⟩ fun args h => ?_
  unfold trialDividesStrong at h ⊢
  split at h
  · rename_i a0 b0 n0 g0 a1
    obtain ⟨h_0, h_1⟩ : isArg obsL n0 g0 ∧ (0 ≤ a1 ∧ a1 ≤ 18446744073709551615) := h
    cases h_0 with
    | no h => exact h.elim
    | mk s0 hn_0 e_0 =>
    subst e_0
    exact dividesA ⟨a0, b0, n0, s0⟩ a1 h_1
  · exact h.elim
def trialDividesWeak : V.Spec
  | [.agg [.int .i64 a0, .int .i64 b0, .slice none n0 g0], .int .u64 a1] => (some (((∀ i, i < n0 → g0 i = obsL (obsOf (g0 i))) ∧ n0 ≤ 9223372036854775807) ∧ (0 ≤ a1 ∧ a1 ≤ 18446744073709551615)), .bool true)
  | _ => bad
theorem trialDivides_weak : SF Try.prog 15 trialDividesWeak := by
  refine sf_args trialDivides_strong fun args h => ?_
  unfold trialDividesWeak at h ⊢
  split at h
  · rename_i a0 b0 n0 g0 a1
    obtain ⟨h_0, h_1⟩ : ((∀ i, i < n0 → g0 i = obsL (obsOf (g0 i))) ∧ n0 ≤ 9223372036854775807) ∧ (0 ≤ a1 ∧ a1 ≤ 18446744073709551615) := h
    refine ⟨[.agg [.int .i64 a0, .int .i64 b0, .slice none n0 fun i => obsL (obsOf (g0 i))], .int .u64 a1], rfl, fun i hi => ?_, ⟨.mk _ h_0.2 rfl, h_1⟩, rfl⟩
    match i, hi with
    | 0, _ => exact PLe.aggL (.cons (.refl _) (.cons (.refl _) (.cons (.slice _ _ _ _ h_0.1) .nil)))
    | 1, _ => exact .refl _
  · exact h.elim
theorem trialDivides_holds : Rows.TrialDividesSaid := by
  refine trialDivides_row trialDivides_weak fun pvs h => ?_
  cases h with
  | cons g_0 h =>
  cases h with
  | cons g_1 h =>
  cases h
  obtain ⟨a0, b0, n0, g0, rfl, hm_0, hg_0⟩ := good_survey g_0
  obtain ⟨a1, rfl, hr_1⟩ := good_u64 g_1
  exact ⟨⟨⟨hg_0, hm_0⟩, hr_1⟩, rfl⟩
#print axioms trialDivides_holds
end Go.Proofs.Ytnjhbmcambofgaa
