/- For any test, list of pairs, and right list with a pair changed, the law on proofs of none answers true: whether it shows that no curve agrees is as the document says. No condition. -/
import Derived.Test.YtnjhbmcambofgaaVn
import Derived.Test.YtnjhbmcambofgaaR1
import Derived.Test.YtnjhbmcambofgaaRows
import Derived.Test.YtnjhbmcambofgaaA7
namespace Go.Proofs.Ytnjhbmcambofgaa
open Go.V Go.ChangeShapes Go.WideShapes Go.ChangeAt Go.RowKit
set_option linter.unusedVariables false

set_option maxRecDepth 100000 in
theorem trialProves_lifted {sp : V.Spec} (hS : SF Try.prog 7 sp) (hsp : ∀ pvs, GoodAll [sTest, .one (.slice [i1, i1]), .one .bool, .one i1, .agg [i1, i1]] pvs → (sp pvs).1.getD True ∧ (sp pvs).2 = .bool true) (os : Os) (started : os.Started) (H : Type) (enc : TypeId × Value → H) :
    ReturnsInHanded {} Try.checked os 7 .any (Rows.trialProvesSpec.pre6 enc Try.prog Try.f7 Rows.trialProvesRow.domain false) (Rows.trialProvesSpec.post enc Try.prog Try.f7 false true false false) := by
  refine returnsInHanded_of_change (C := Try.checked) own started (by kernel_rfl) Try.func7
    (ChangeSpec.witness6 (enc := enc) (C := Try.checked) false ⟨#[], #[.agg #[.int .i64 0, .int .i64 0, .int .i64 0, .int .i64 0, .int .i64 0, .int .i64 0, .slice none 0 0], .slice none 0 0, .bool false, .int .i64 0, .agg #[.int .i64 0, .int .i64 0]], []⟩ 8 (by kernel_rfl) (by kernel_rfl) (by kernel_rfl) (by kernel_rfl)) ?_
  intro W base args ds gs before hval hW _ _
  refine law_calls (shs := [sTest, .one (.slice [i1, i1]), .one .bool, .one i1, .agg [i1, i1]]) (tb := 4) laidOut hS (by kernel_rfl) (by kernel_rfl) (by kernel_rfl) rfl (fun H ds h => ?_) hsp W base args ds gs before hval hW
  match ds, h with
  | [_, _, _, _, _], _ => rfl
theorem trialProves_row {sp : V.Spec} (hS : SF Try.prog 7 sp) (hsp : ∀ pvs, GoodAll [sTest, .one (.slice [i1, i1]), .one .bool, .one i1, .agg [i1, i1]] pvs → (sp pvs).1.getD True ∧ (sp pvs).2 = .bool true) : Rows.TrialProvesSaid :=
  OpenClaim.holds_of_wide 7 Try.f7 rfl rfl rfl rfl rfl rfl rfl ⟨rfl, rfl, rfl, rfl, rfl⟩ rfl rfl rfl rfl rfl (by kernel_rfl) Try.func7 (by kernel_rfl)
    (of_decide_eq_true (by kernel_rfl)) (by unfold Func.isWrapper; rw [if_neg (by decide +kernel)]; exact ⟨rfl, rfl⟩)
    (fun os started H enc _ => trialProves_lifted hS hsp os started H enc)
inductive isArg {α : Type} (enc : α → List PV) (n : Nat) (get : Nat → List PV) : Prop
  | mk (s : Nat → α) (hn : n ≤ 9223372036854775807) (e : get = fun i => enc (s i))
  | no (h : False)
def trialProvesStrong : V.Spec
  | [.agg [.int .i64 a0, .int .i64 b0, .int .i64 c0, .int .i64 d0, .int .i64 e0, .int .i64 f0, .slice none n0 g0], .slice none n1 g1, .bool a2, .int .i64 a3, .agg [.int .i64 a4, .int .i64 b4]] => (some (isArg stpL n0 g0 ∧ isArg pairL n1 g1), .bool true)
  | _ => bad
theorem trialProves_strong : SF Try.prog 7 trialProvesStrong := by
  refine sf_each ⟨_, _, Try.func7, by kernel_rfl, rfl⟩ fun args h => ?_
  unfold trialProvesStrong at h ⊢
  split at h
  · rename_i a0 b0 c0 d0 e0 f0 n0 g0 n1 g1 a2 a3 a4 b4
    obtain ⟨h_0, h_1⟩ : isArg stpL n0 g0 ∧ isArg pairL n1 g1 := h
    cases h_0 with
    | no h => exact h.elim
    | mk s0 hn_0 e_0 =>
    subst e_0
    cases h_1 with
    | no h => exact h.elim
    | mk s1 hn_1 e_1 =>
    subst e_1
    exact prvA ⟨⟨a0, b0⟩, ⟨c0, d0⟩, ⟨e0, f0⟩, n0, s0⟩ n1 s1 a2 a3 a4 b4
  · exact h.elim
def trialProvesWeak : V.Spec
  | [.agg [.int .i64 a0, .int .i64 b0, .int .i64 c0, .int .i64 d0, .int .i64 e0, .int .i64 f0, .slice none n0 g0], .slice none n1 g1, .bool a2, .int .i64 a3, .agg [.int .i64 a4, .int .i64 b4]] => (some (((∀ i, i < n0 → g0 i = stpL (stpOf (g0 i))) ∧ n0 ≤ 9223372036854775807) ∧ ((∀ i, i < n1 → g1 i = pairL (pairOf (g1 i))) ∧ n1 ≤ 9223372036854775807)), .bool true)
  | _ => bad
theorem trialProves_weak : SF Try.prog 7 trialProvesWeak := by
  refine sf_args trialProves_strong fun args h => ?_
  unfold trialProvesWeak at h ⊢
  split at h
  · rename_i a0 b0 c0 d0 e0 f0 n0 g0 n1 g1 a2 a3 a4 b4
    obtain ⟨h_0, h_1⟩ : ((∀ i, i < n0 → g0 i = stpL (stpOf (g0 i))) ∧ n0 ≤ 9223372036854775807) ∧ ((∀ i, i < n1 → g1 i = pairL (pairOf (g1 i))) ∧ n1 ≤ 9223372036854775807) := h
    refine ⟨[.agg [.int .i64 a0, .int .i64 b0, .int .i64 c0, .int .i64 d0, .int .i64 e0, .int .i64 f0, .slice none n0 fun i => stpL (stpOf (g0 i))], .slice none n1 fun i => pairL (pairOf (g1 i)), .bool a2, .int .i64 a3, .agg [.int .i64 a4, .int .i64 b4]], rfl, fun i hi => ?_, ⟨.mk _ h_0.2 rfl, .mk _ h_1.2 rfl⟩, rfl⟩
    match i, hi with
    | 0, _ => exact PLe.aggL (.cons (.refl _) (.cons (.refl _) (.cons (.refl _) (.cons (.refl _) (.cons (.refl _) (.cons (.refl _) (.cons (.slice _ _ _ _ h_0.1) .nil)))))))
    | 1, _ => exact .slice _ _ _ _ h_1.1
    | 2, _ => exact .refl _
    | 3, _ => exact .refl _
    | 4, _ => exact .refl _
  · exact h.elim
theorem trialProves_holds : Rows.TrialProvesSaid := by
  refine trialProves_row trialProves_weak fun pvs h => ?_
  cases h with
  | cons g_0 h =>
  cases h with
  | cons g_1 h =>
  cases h with
  | cons g_2 h =>
  cases h with
  | cons g_3 h =>
  cases h with
  | cons g_4 h =>
  cases h
  obtain ⟨a0, b0, c0, d0, e0, f0, n0, g0, rfl, hm_0, hg_0⟩ := good_test g_0
  obtain ⟨n1, g1, rfl, hm_1, hg_1⟩ := good_pairs g_1
  obtain ⟨a2, rfl⟩ := good_bool1 g_2
  obtain ⟨a3, rfl⟩ := good_int1 g_3
  obtain ⟨a4, b4, rfl⟩ := good_pair g_4
  exact ⟨⟨⟨hg_0, hm_0⟩, ⟨hg_1, hm_1⟩⟩, rfl⟩
#print axioms trialProves_holds
end Go.Proofs.Ytnjhbmcambofgaa
