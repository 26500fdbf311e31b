/- For any survey, the law on groups answers true: whether the survey is valid, its groups, and its first clash with the way, are as the document says. No condition. -/
import Derived.Test.YtnjhbmcambofgaaVn
import Derived.Test.YtnjhbmcambofgaaR0
import Derived.Test.YtnjhbmcambofgaaRows
import Derived.Test.YtnjhbmcambofgaaA8
namespace Go.Proofs.Ytnjhbmcambofgaa
open Go.V Go.ChangeShapes Go.WideShapes Go.ChangeAt Go.RowKit
set_option linter.unusedVariables false

set_option maxRecDepth 100000 in
theorem trialGroups_lifted {sp : V.Spec} (hS : SF Try.prog 8 sp) (hsp : ∀ pvs, GoodAll [sSurvey] pvs → (sp pvs).1.getD True ∧ (sp pvs).2 = .bool true) (os : Os) (started : os.Started) (H : Type) (enc : TypeId × Value → H) :
    ReturnsInHanded {} Try.checked os 8 .any (Rows.trialGroupsSpec.pre6 enc Try.prog Try.f8 Rows.trialGroupsRow.domain false) (Rows.trialGroupsSpec.post enc Try.prog Try.f8 false true false false) := by
  refine returnsInHanded_of_change (C := Try.checked) own started (by kernel_rfl) Try.func8
    (ChangeSpec.witness6 (enc := enc) (C := Try.checked) false ⟨#[], #[.agg #[.int .i64 0, .int .i64 0, .slice none 0 0]], []⟩ 8 (by kernel_rfl) (by kernel_rfl) (by kernel_rfl) (by kernel_rfl)) ?_
  intro W base args ds gs before hval hW _ _
  refine law_calls (shs := [sSurvey]) (tb := 4) laidOut hS (by kernel_rfl) (by kernel_rfl) (by kernel_rfl) rfl (fun H ds h => ?_) hsp W base args ds gs before hval hW
  match ds, h with
  | [_], _ => rfl
theorem trialGroups_row {sp : V.Spec} (hS : SF Try.prog 8 sp) (hsp : ∀ pvs, GoodAll [sSurvey] pvs → (sp pvs).1.getD True ∧ (sp pvs).2 = .bool true) : Rows.TrialGroupsSaid :=
  OpenClaim.holds_of_wide 8 Try.f8 rfl rfl rfl rfl rfl rfl rfl ⟨rfl, rfl, rfl, rfl, rfl⟩ rfl rfl rfl rfl rfl (by kernel_rfl) Try.func8 (by kernel_rfl)
    (of_decide_eq_true (by kernel_rfl)) (by unfold Func.isWrapper; rw [if_neg (by decide +kernel)]; exact ⟨rfl, rfl⟩)
    (fun os started H enc _ => trialGroups_lifted hS hsp os started H enc)
inductive isArg {α : Type} (enc : α → List PV) (n : Nat) (get : Nat → List PV) : Prop
  | mk (s : Nat → α) (hn : n ≤ 9223372036854775807) (e : get = fun i => enc (s i))
  | no (h : False)
def trialGroupsStrong : V.Spec
  | [.agg [.int .i64 a0, .int .i64 b0, .slice none n0 g0]] => (some (isArg obsL n0 g0), .bool true)
  | _ => bad
theorem trialGroups_strong : SF Try.prog 8 trialGroupsStrong := by
  refine sf_each ⟨_, _, Try.func8, by kernel_rfl, rfl⟩ fun args h => ?_
  unfold trialGroupsStrong at h ⊢
  split at h
  · rename_i a0 b0 n0 g0
    have h_0 : isArg obsL n0 g0 := h
    cases h_0 with
    | no h => exact h.elim
    | mk s0 hn_0 e_0 =>
    subst e_0
    exact groupsA ⟨a0, b0, n0, s0⟩
  · exact h.elim
def trialGroupsWeak : V.Spec
  | [.agg [.int .i64 a0, .int .i64 b0, .slice none n0 g0]] => (some (((∀ i, i < n0 → g0 i = obsL (obsOf (g0 i))) ∧ n0 ≤ 9223372036854775807)), .bool true)
  | _ => bad
theorem trialGroups_weak : SF Try.prog 8 trialGroupsWeak := by
  refine sf_args trialGroups_strong fun args h => ?_
  unfold trialGroupsWeak at h ⊢
  split at h
  · rename_i a0 b0 n0 g0
    have h_0 : ((∀ i, i < n0 → g0 i = obsL (obsOf (g0 i))) ∧ n0 ≤ 9223372036854775807) := h
    refine ⟨[.agg [.int .i64 a0, .int .i64 b0, .slice none n0 fun i => obsL (obsOf (g0 i))]], rfl, fun i hi => ?_, .mk _ h_0.2 rfl, rfl⟩
    match i, hi with
    | 0, _ => exact PLe.aggL (.cons (.refl _) (.cons (.refl _) (.cons (.slice _ _ _ _ h_0.1) .nil)))
  · exact h.elim
theorem trialGroups_holds : Rows.TrialGroupsSaid := by
  refine trialGroups_row trialGroups_weak fun pvs h => ?_
  cases h with
  | cons g_0 h =>
  cases h
  obtain ⟨a0, b0, n0, g0, rfl, hm_0, hg_0⟩ := good_survey g_0
  exact ⟨⟨hg_0, hm_0⟩, rfl⟩
#print axioms trialGroups_holds
end Go.Proofs.Ytnjhbmcambofgaa
