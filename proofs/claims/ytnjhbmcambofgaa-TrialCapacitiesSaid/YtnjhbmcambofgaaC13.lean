/- For any test, two limits and a flow, the law on what capacities promise answers true: up to the sure capacity no drawdown is above the limit, at the next flow one is; likewise for the other one; a greater limit gives no less. No condition. -/
import Derived.Test.YtnjhbmcambofgaaVn
import Derived.Test.YtnjhbmcambofgaaR1
import Derived.Test.YtnjhbmcambofgaaRows
import Derived.Test.YtnjhbmcambofgaaA13
namespace Go.Proofs.Ytnjhbmcambofgaa
open Go.V Go.ChangeShapes Go.WideShapes Go.ChangeAt Go.RowKit
set_option linter.unusedVariables false

set_option maxRecDepth 100000 in
theorem trialCapacities_lifted {sp : V.Spec} (hS : SF Try.prog 13 sp) (hsp : ∀ pvs, GoodAll [sTest, .one i1, .one i1, .one (.int .u16)] pvs → (sp pvs).1.getD True ∧ (sp pvs).2 = .bool true) (os : Os) (started : os.Started) (H : Type) (enc : TypeId × Value → H) :
    ReturnsInHanded {} Try.checked os 13 .any (Rows.trialCapacitiesSpec.pre6 enc Try.prog Try.f13 Rows.trialCapacitiesRow.domain false) (Rows.trialCapacitiesSpec.post enc Try.prog Try.f13 false true false false) := by
  refine returnsInHanded_of_change (C := Try.checked) own started (by kernel_rfl) Try.func13
    (ChangeSpec.witness6 (enc := enc) (C := Try.checked) false ⟨#[], #[.agg #[.int .i64 0, .int .i64 0, .int .i64 0, .int .i64 0, .int .i64 0, .int .i64 0, .slice none 0 0], .int .i64 0, .int .i64 0, .int .u16 0], []⟩ 8 (by kernel_rfl) (by kernel_rfl) (by kernel_rfl) (by kernel_rfl)) ?_
  intro W base args ds gs before hval hW _ _
  refine law_calls (shs := [sTest, .one i1, .one i1, .one (.int .u16)]) (tb := 4) laidOut hS (by kernel_rfl) (by kernel_rfl) (by kernel_rfl) rfl (fun H ds h => ?_) hsp W base args ds gs before hval hW
  match ds, h with
  | [_, _, _, _], _ => rfl
theorem trialCapacities_row {sp : V.Spec} (hS : SF Try.prog 13 sp) (hsp : ∀ pvs, GoodAll [sTest, .one i1, .one i1, .one (.int .u16)] pvs → (sp pvs).1.getD True ∧ (sp pvs).2 = .bool true) : Rows.TrialCapacitiesSaid :=
  OpenClaim.holds_of_wide 13 Try.f13 rfl rfl rfl rfl rfl rfl rfl ⟨rfl, rfl, rfl, rfl, rfl⟩ rfl rfl rfl rfl rfl (by kernel_rfl) Try.func13 (by kernel_rfl)
    (of_decide_eq_true (by kernel_rfl)) (by unfold Func.isWrapper; rw [if_neg (by decide +kernel)]; exact ⟨rfl, rfl⟩)
    (fun os started H enc _ => trialCapacities_lifted hS hsp os started H enc)
inductive isArg {α : Type} (enc : α → List PV) (n : Nat) (get : Nat → List PV) : Prop
  | mk (s : Nat → α) (hn : n ≤ 9223372036854775807) (e : get = fun i => enc (s i))
  | no (h : False)
def trialCapacitiesStrong : V.Spec
  | [.agg [.int .i64 a0, .int .i64 b0, .int .i64 c0, .int .i64 d0, .int .i64 e0, .int .i64 f0, .slice none n0 g0], .int .i64 a1, .int .i64 a2, .int .u16 a3] => (some (isArg stpL n0 g0 ∧ (0 ≤ a3 ∧ a3 ≤ 65535)), .bool true)
  | _ => bad
theorem trialCapacities_strong : SF Try.prog 13 trialCapacitiesStrong := by
  refine sf_each ⟨_, _, Try.func13, by kernel_rfl, rfl⟩ fun args h => ?_
  unfold trialCapacitiesStrong at h ⊢
  split at h
  · rename_i a0 b0 c0 d0 e0 f0 n0 g0 a1 a2 a3
    obtain ⟨h_0, h_1⟩ : isArg stpL n0 g0 ∧ (0 ≤ a3 ∧ a3 ≤ 65535) := h
    cases h_0 with
    | no h => exact h.elim
    | mk s0 hn_0 e_0 =>
    subst e_0
    exact capsA ⟨⟨a0, b0⟩, ⟨c0, d0⟩, ⟨e0, f0⟩, n0, s0⟩ a1 a2 a3 h_1
  · exact h.elim
def trialCapacitiesWeak : V.Spec
  | [.agg [.int .i64 a0, .int .i64 b0, .int .i64 c0, .int .i64 d0, .int .i64 e0, .int .i64 f0, .slice none n0 g0], .int .i64 a1, .int .i64 a2, .int .u16 a3] => (some (((∀ i, i < n0 → g0 i = stpL (stpOf (g0 i))) ∧ n0 ≤ 9223372036854775807) ∧ (0 ≤ a3 ∧ a3 ≤ 65535)), .bool true)
  | _ => bad
theorem trialCapacities_weak : SF Try.prog 13 trialCapacitiesWeak := by
  refine sf_args trialCapacities_strong fun args h => ?_
  unfold trialCapacitiesWeak at h ⊢
  split at h
  · rename_i a0 b0 c0 d0 e0 f0 n0 g0 a1 a2 a3
    obtain ⟨h_0, h_1⟩ : ((∀ i, i < n0 → g0 i = stpL (stpOf (g0 i))) ∧ n0 ≤ 9223372036854775807) ∧ (0 ≤ a3 ∧ a3 ≤ 65535) := h
    refine ⟨[.agg [.int .i64 a0, .int .i64 b0, .int .i64 c0, .int .i64 d0, .int .i64 e0, .int .i64 f0, .slice none n0 fun i => stpL (stpOf (g0 i))], .int .i64 a1, .int .i64 a2, .int .u16 a3], rfl, fun i hi => ?_, ⟨.mk _ h_0.2 rfl, h_1⟩, rfl⟩
    match i, hi with
    | 0, _ => exact PLe.aggL (.cons (.refl _) (.cons (.refl _) (.cons (.refl _) (.cons (.refl _) (.cons (.refl _) (.cons (.refl _) (.cons (.slice _ _ _ _ h_0.1) .nil)))))))
    | 1, _ => exact .refl _
    | 2, _ => exact .refl _
    | 3, _ => exact .refl _
  · exact h.elim
theorem trialCapacities_holds : Rows.TrialCapacitiesSaid := by
  refine trialCapacities_row trialCapacities_weak fun pvs h => ?_
  cases h with
  | cons g_0 h =>
  cases h with
  | cons g_1 h =>
  cases h with
  | cons g_2 h =>
  cases h with
  | cons g_3 h =>
  cases h
  obtain ⟨a0, b0, c0, d0, e0, f0, n0, g0, rfl, hm_0, hg_0⟩ := good_test g_0
  obtain ⟨a1, rfl⟩ := good_int1 g_1
  obtain ⟨a2, rfl⟩ := good_int1 g_2
  obtain ⟨a3, rfl, hr_3⟩ := good_u16 g_3
  exact ⟨⟨⟨hg_0, hm_0⟩, hr_3⟩, rfl⟩
#print axioms trialCapacities_holds
end Go.Proofs.Ytnjhbmcambofgaa
