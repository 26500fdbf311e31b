/- For any test and limit, the law on capacities answers true: both are as the document says. No condition. -/
import Derived.Test.YtnjhbmcambofgaaVn
import Derived.Test.YtnjhbmcambofgaaR1
import Derived.Test.YtnjhbmcambofgaaRows
import Derived.Test.YtnjhbmcambofgaaA5
namespace Go.Proofs.Ytnjhbmcambofgaa
open Go.V Go.ChangeShapes Go.WideShapes Go.ChangeAt Go.RowKit
set_option linter.unusedVariables false

set_option maxRecDepth 100000 in
theorem trialGives_lifted {sp : V.Spec} (hS : SF Try.prog 5 sp) (hsp : ∀ pvs, GoodAll [sTest, .one i1] pvs → (sp pvs).1.getD True ∧ (sp pvs).2 = .bool true) (os : Os) (started : os.Started) (H : Type) (enc : TypeId × Value → H) :
    ReturnsInHanded {} Try.checked os 5 .any (Rows.trialGivesSpec.pre6 enc Try.prog Try.f5 Rows.trialGivesRow.domain false) (Rows.trialGivesSpec.post enc Try.prog Try.f5 false true false false) := by
  refine returnsInHanded_of_change (C := Try.checked) own started (by kernel_rfl) Try.func5
    (ChangeSpec.witness6 (enc := enc) (C := Try.checked) false ⟨#[], #[.agg #[.int .i64 0, .int .i64 0, .int .i64 0, .int .i64 0, .int .i64 0, .int .i64 0, .slice none 0 0], .int .i64 0], []⟩ 8 (by kernel_rfl) (by kernel_rfl) (by kernel_rfl) (by kernel_rfl)) ?_
  intro W base args ds gs before hval hW _ _
  refine law_calls (shs := [sTest, .one i1]) (tb := 4) laidOut hS (by kernel_rfl) (by kernel_rfl) (by kernel_rfl) rfl (fun H ds h => ?_) hsp W base args ds gs before hval hW
  match ds, h with
  | [_, _], _ => rfl
theorem trialGives_row {sp : V.Spec} (hS : SF Try.prog 5 sp) (hsp : ∀ pvs, GoodAll [sTest, .one i1] pvs → (sp pvs).1.getD True ∧ (sp pvs).2 = .bool true) : Rows.TrialGivesSaid :=
  OpenClaim.holds_of_wide 5 Try.f5 rfl rfl rfl rfl rfl rfl rfl ⟨rfl, rfl, rfl, rfl, rfl⟩ rfl rfl rfl rfl rfl (by kernel_rfl) Try.func5 (by kernel_rfl)
    (of_decide_eq_true (by kernel_rfl)) (by unfold Func.isWrapper; rw [if_neg (by decide +kernel)]; exact ⟨rfl, rfl⟩)
    (fun os started H enc _ => trialGives_lifted hS hsp os started H enc)
inductive isArg {α : Type} (enc : α → List PV) (n : Nat) (get : Nat → List PV) : Prop
  | mk (s : Nat → α) (hn : n ≤ 9223372036854775807) (e : get = fun i => enc (s i))
  | no (h : False)
def trialGivesStrong : V.Spec
  | [.agg [.int .i64 a0, .int .i64 b0, .int .i64 c0, .int .i64 d0, .int .i64 e0, .int .i64 f0, .slice none n0 g0], .int .i64 a1] => (some (isArg stpL n0 g0), .bool true)
  | _ => bad
theorem trialGives_strong : SF Try.prog 5 trialGivesStrong := by
  refine sf_each ⟨_, _, Try.func5, by kernel_rfl, rfl⟩ fun args h => ?_
  unfold trialGivesStrong at h ⊢
  split at h
  · rename_i a0 b0 c0 d0 e0 f0 n0 g0 a1
    have h_0 : isArg stpL n0 g0 := h
    cases h_0 with
    | no h => exact h.elim
    | mk s0 hn_0 e_0 =>
    subst e_0
    exact givesA ⟨⟨a0, b0⟩, ⟨c0, d0⟩, ⟨e0, f0⟩, n0, s0⟩ a1
  · exact h.elim
def trialGivesWeak : V.Spec
  | [.agg [.int .i64 a0, .int .i64 b0, .int .i64 c0, .int .i64 d0, .int .i64 e0, .int .i64 f0, .slice none n0 g0], .int .i64 a1] => (some (((∀ i, i < n0 → g0 i = stpL (stpOf (g0 i))) ∧ n0 ≤ 9223372036854775807)), .bool true)
  | _ => bad
theorem trialGives_weak : SF Try.prog 5 trialGivesWeak := by
  refine sf_args trialGives_strong fun args h => ?_
  unfold trialGivesWeak at h ⊢
  split at h
  · rename_i a0 b0 c0 d0 e0 f0 n0 g0 a1
    have h_0 : ((∀ i, i < n0 → g0 i = stpL (stpOf (g0 i))) ∧ n0 ≤ 9223372036854775807) := h
    refine ⟨[.agg [.int .i64 a0, .int .i64 b0, .int .i64 c0, .int .i64 d0, .int .i64 e0, .int .i64 f0, .slice none n0 fun i => stpL (stpOf (g0 i))], .int .i64 a1], rfl, fun i hi => ?_, .mk _ h_0.2 rfl, rfl⟩
    match i, hi with
    | 0, _ => exact PLe.aggL (.cons (.refl _) (.cons (.refl _) (.cons (.refl _) (.cons (.refl _) (.cons (.refl _) (.cons (.refl _) (.cons (.slice _ _ _ _ h_0.1) .nil)))))))
    | 1, _ => exact .refl _
  · exact h.elim
theorem trialGives_holds : Rows.TrialGivesSaid := by
  refine trialGives_row trialGives_weak fun pvs h => ?_
  cases h with
  | cons g_0 h =>
  cases h with
  | cons g_1 h =>
  cases h
  obtain ⟨a0, b0, c0, d0, e0, f0, n0, g0, rfl, hm_0, hg_0⟩ := good_test g_0
  obtain ⟨a1, rfl⟩ := good_int1 g_1
  exact ⟨⟨hg_0, hm_0⟩, rfl⟩
#print axioms trialGives_holds
end Go.Proofs.Ytnjhbmcambofgaa
