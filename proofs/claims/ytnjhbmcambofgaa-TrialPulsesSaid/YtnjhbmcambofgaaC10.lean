/- For any survey, well and numbers, the law on pulses answers true: whether a division fits, and the survey behind a pulse, are as the document says. No condition. -/
import Derived.Test.YtnjhbmcambofgaaVn
import Derived.Test.YtnjhbmcambofgaaR1
import Derived.Test.YtnjhbmcambofgaaRows
import Derived.Test.YtnjhbmcambofgaaA10
namespace Go.Proofs.Ytnjhbmcambofgaa
open Go.V Go.ChangeShapes Go.WideShapes Go.ChangeAt Go.RowKit
set_option linter.unusedVariables false

set_option maxRecDepth 100000 in
theorem trialPulses_lifted {sp : V.Spec} (hS : SF Try.prog 10 sp) (hsp : ∀ pvs, GoodAll [sSurvey, .one i1, sInts] pvs → (sp pvs).1.getD True ∧ (sp pvs).2 = .bool true) (os : Os) (started : os.Started) (H : Type) (enc : TypeId × Value → H) :
    ReturnsInHanded {} Try.checked os 10 .any (Rows.trialPulsesSpec.pre6 enc Try.prog Try.f10 Rows.trialPulsesRow.domain false) (Rows.trialPulsesSpec.post enc Try.prog Try.f10 false true false false) := by
  refine returnsInHanded_of_change (C := Try.checked) own started (by kernel_rfl) Try.func10
    (ChangeSpec.witness6 (enc := enc) (C := Try.checked) false ⟨#[], #[.agg #[.int .i64 0, .int .i64 0, .slice none 0 0], .int .i64 0, .slice none 0 0], []⟩ 8 (by kernel_rfl) (by kernel_rfl) (by kernel_rfl) (by kernel_rfl)) ?_
  intro W base args ds gs before hval hW _ _
  refine law_calls (shs := [sSurvey, .one i1, sInts]) (tb := 4) laidOut hS (by kernel_rfl) (by kernel_rfl) (by kernel_rfl) rfl (fun H ds h => ?_) hsp W base args ds gs before hval hW
  match ds, h with
  | [_, _, _], _ => rfl
theorem trialPulses_row {sp : V.Spec} (hS : SF Try.prog 10 sp) (hsp : ∀ pvs, GoodAll [sSurvey, .one i1, sInts] pvs → (sp pvs).1.getD True ∧ (sp pvs).2 = .bool true) : Rows.TrialPulsesSaid :=
  OpenClaim.holds_of_wide 10 Try.f10 rfl rfl rfl rfl rfl rfl rfl ⟨rfl, rfl, rfl, rfl, rfl⟩ rfl rfl rfl rfl rfl (by kernel_rfl) Try.func10 (by kernel_rfl)
    (of_decide_eq_true (by kernel_rfl)) (by unfold Func.isWrapper; rw [if_neg (by decide +kernel)]; exact ⟨rfl, rfl⟩)
    (fun os started H enc _ => trialPulses_lifted hS hsp os started H enc)
inductive isArg {α : Type} (enc : α → List PV) (n : Nat) (get : Nat → List PV) : Prop
  | mk (s : Nat → α) (hn : n ≤ 9223372036854775807) (e : get = fun i => enc (s i))
  | no (h : False)
def trialPulsesStrong : V.Spec
  | [.agg [.int .i64 a0, .int .i64 b0, .slice none n0 g0], .int .i64 a1, .slice none n2 g2] => (some (isArg obsL n0 g0 ∧ isArg intL n2 g2), .bool true)
  | _ => bad
theorem trialPulses_strong : SF Try.prog 10 trialPulsesStrong := by
  refine sf_each ⟨_, _, Try.func10, by kernel_rfl, rfl⟩ fun args h => ?_
  unfold trialPulsesStrong at h ⊢
  split at h
  · rename_i a0 b0 n0 g0 a1 n2 g2
    obtain ⟨h_0, h_1⟩ : isArg obsL n0 g0 ∧ isArg intL n2 g2 := h
    cases h_0 with
    | no h => exact h.elim
    | mk s0 hn_0 e_0 =>
    subst e_0
    cases h_1 with
    | no h => exact h.elim
    | mk s2 hn_1 e_1 =>
    subst e_1
    exact pulsesA ⟨a0, b0, n0, s0⟩ a1 n2 s2
  · exact h.elim
def trialPulsesWeak : V.Spec
  | [.agg [.int .i64 a0, .int .i64 b0, .slice none n0 g0], .int .i64 a1, .slice none n2 g2] => (some (((∀ i, i < n0 → g0 i = obsL (obsOf (g0 i))) ∧ n0 ≤ 9223372036854775807) ∧ ((∀ i, i < n2 → g2 i = intL (intOf (g2 i))) ∧ n2 ≤ 9223372036854775807)), .bool true)
  | _ => bad
theorem trialPulses_weak : SF Try.prog 10 trialPulsesWeak := by
  refine sf_args trialPulses_strong fun args h => ?_
  unfold trialPulsesWeak at h ⊢
  split at h
  · rename_i a0 b0 n0 g0 a1 n2 g2
    obtain ⟨h_0, h_1⟩ : ((∀ i, i < n0 → g0 i = obsL (obsOf (g0 i))) ∧ n0 ≤ 9223372036854775807) ∧ ((∀ i, i < n2 → g2 i = intL (intOf (g2 i))) ∧ n2 ≤ 9223372036854775807) := h
    refine ⟨[.agg [.int .i64 a0, .int .i64 b0, .slice none n0 fun i => obsL (obsOf (g0 i))], .int .i64 a1, .slice none n2 fun i => intL (intOf (g2 i))], rfl, fun i hi => ?_, ⟨.mk _ h_0.2 rfl, .mk _ h_1.2 rfl⟩, rfl⟩
    match i, hi with
    | 0, _ => exact PLe.aggL (.cons (.refl _) (.cons (.refl _) (.cons (.slice _ _ _ _ h_0.1) .nil)))
    | 1, _ => exact .refl _
    | 2, _ => exact .slice _ _ _ _ h_1.1
  · exact h.elim
theorem trialPulses_holds : Rows.TrialPulsesSaid := by
  refine trialPulses_row trialPulses_weak fun pvs h => ?_
  cases h with
  | cons g_0 h =>
  cases h with
  | cons g_1 h =>
  cases h with
  | cons g_2 h =>
  cases h
  obtain ⟨a0, b0, n0, g0, rfl, hm_0, hg_0⟩ := good_survey g_0
  obtain ⟨a1, rfl⟩ := good_int1 g_1
  obtain ⟨n2, g2, rfl, hm_2, hg_2⟩ := good_ints g_2
  exact ⟨⟨⟨hg_0, hm_0⟩, ⟨hg_2, hm_2⟩⟩, rfl⟩
#print axioms trialPulses_holds
end Go.Proofs.Ytnjhbmcambofgaa
