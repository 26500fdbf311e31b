/- For any test, flow and flows, the law on drawdowns answers true: the range of the drawdown, and which flow is widest, are as the document says. No condition. -/
import Derived.Test.YtnjhbmcambofgaaVn
import Derived.Test.YtnjhbmcambofgaaR0
import Derived.Test.YtnjhbmcambofgaaRows
import Derived.Test.YtnjhbmcambofgaaA4
namespace Go.Proofs.Ytnjhbmcambofgaa
open Go.V Go.ChangeShapes Go.WideShapes Go.ChangeAt Go.RowKit
set_option linter.unusedVariables false

set_option maxRecDepth 100000 in
theorem trialDrops_lifted {sp : V.Spec} (hS : SF Try.prog 4 sp) (hsp : ∀ pvs, GoodAll [sTest, .one i1, sInts] pvs → (sp pvs).1.getD True ∧ (sp pvs).2 = .bool true) (os : Os) (started : os.Started) (H : Type) (enc : TypeId × Value → H) :
    ReturnsInHanded {} Try.checked os 4 .any (Rows.trialDropsSpec.pre6 enc Try.prog Try.f4 Rows.trialDropsRow.domain false) (Rows.trialDropsSpec.post enc Try.prog Try.f4 false true false false) := by
  refine returnsInHanded_of_change (C := Try.checked) own started (by kernel_rfl) Try.func4
    (ChangeSpec.witness6 (enc := enc) (C := Try.checked) false ⟨#[], #[.agg #[.int .i64 0, .int .i64 0, .int .i64 0, .int .i64 0, .int .i64 0, .int .i64 0, .slice none 0 0], .int .i64 0, .slice none 0 0], []⟩ 8 (by kernel_rfl) (by kernel_rfl) (by kernel_rfl) (by kernel_rfl)) ?_
  intro W base args ds gs before hval hW _ _
  refine law_calls (shs := [sTest, .one i1, sInts]) (tb := 4) laidOut hS (by kernel_rfl) (by kernel_rfl) (by kernel_rfl) rfl (fun H ds h => ?_) hsp W base args ds gs before hval hW
  match ds, h with
  | [_, _, _], _ => rfl
theorem trialDrops_row {sp : V.Spec} (hS : SF Try.prog 4 sp) (hsp : ∀ pvs, GoodAll [sTest, .one i1, sInts] pvs → (sp pvs).1.getD True ∧ (sp pvs).2 = .bool true) : Rows.TrialDropsSaid :=
  OpenClaim.holds_of_wide 4 Try.f4 rfl rfl rfl rfl rfl rfl rfl ⟨rfl, rfl, rfl, rfl, rfl⟩ rfl rfl rfl rfl rfl (by kernel_rfl) Try.func4 (by kernel_rfl)
    (of_decide_eq_true (by kernel_rfl)) (by unfold Func.isWrapper; rw [if_neg (by decide +kernel)]; exact ⟨rfl, rfl⟩)
    (fun os started H enc _ => trialDrops_lifted hS hsp os started H enc)
inductive isArg {α : Type} (enc : α → List PV) (n : Nat) (get : Nat → List PV) : Prop
  | mk (s : Nat → α) (hn : n ≤ 9223372036854775807) (e : get = fun i => enc (s i))
  | no (h : False)
def trialDropsStrong : V.Spec
  | [.agg [.int .i64 a0, .int .i64 b0, .int .i64 c0, .int .i64 d0, .int .i64 e0, .int .i64 f0, .slice none n0 g0], .int .i64 a1, .slice none n2 g2] => (some (isArg stpL n0 g0 ∧ isArg intL n2 g2), .bool true)
  | _ => bad
theorem trialDrops_strong : SF Try.prog 4 trialDropsStrong := by
  refine sf_each ⟨_, _, Try.func4, by kernel_rfl, rfl⟩ fun args h => ?_
  unfold trialDropsStrong at h ⊢
  split at h
  · rename_i a0 b0 c0 d0 e0 f0 n0 g0 a1 n2 g2
    obtain ⟨h_0, h_1⟩ : isArg stpL n0 g0 ∧ isArg intL n2 g2 := h
    cases h_0 with
    | no h => exact h.elim
    | mk s0 hn_0 e_0 =>
    subst e_0
    cases h_1 with
    | no h => exact h.elim
    | mk s2 hn_1 e_1 =>
    subst e_1
    exact dropsA ⟨⟨a0, b0⟩, ⟨c0, d0⟩, ⟨e0, f0⟩, n0, s0⟩ a1 n2 s2
  · exact h.elim
def trialDropsWeak : V.Spec
  | [.agg [.int .i64 a0, .int .i64 b0, .int .i64 c0, .int .i64 d0, .int .i64 e0, .int .i64 f0, .slice none n0 g0], .int .i64 a1, .slice none n2 g2] => (some (((∀ i, i < n0 → g0 i = stpL (stpOf (g0 i))) ∧ n0 ≤ 9223372036854775807) ∧ ((∀ i, i < n2 → g2 i = intL (intOf (g2 i))) ∧ n2 ≤ 9223372036854775807)), .bool true)
  | _ => bad
theorem trialDrops_weak : SF Try.prog 4 trialDropsWeak := by
  refine sf_args trialDrops_strong fun args h => ?_
  unfold trialDropsWeak at h ⊢
  split at h
  · rename_i a0 b0 c0 d0 e0 f0 n0 g0 a1 n2 g2
    obtain ⟨h_0, h_1⟩ : ((∀ i, i < n0 → g0 i = stpL (stpOf (g0 i))) ∧ n0 ≤ 9223372036854775807) ∧ ((∀ i, i < n2 → g2 i = intL (intOf (g2 i))) ∧ n2 ≤ 9223372036854775807) := h
    refine ⟨[.agg [.int .i64 a0, .int .i64 b0, .int .i64 c0, .int .i64 d0, .int .i64 e0, .int .i64 f0, .slice none n0 fun i => stpL (stpOf (g0 i))], .int .i64 a1, .slice none n2 fun i => intL (intOf (g2 i))], rfl, fun i hi => ?_, ⟨.mk _ h_0.2 rfl, .mk _ h_1.2 rfl⟩, rfl⟩
    match i, hi with
    | 0, _ => exact PLe.aggL (.cons (.refl _) (.cons (.refl _) (.cons (.refl _) (.cons (.refl _) (.cons (.refl _) (.cons (.refl _) (.cons (.slice _ _ _ _ h_0.1) .nil)))))))
    | 1, _ => exact .refl _
    | 2, _ => exact .slice _ _ _ _ h_1.1
  · exact h.elim
theorem trialDrops_holds : Rows.TrialDropsSaid := by
  refine trialDrops_row trialDrops_weak fun pvs h => ?_
  cases h with
  | cons g_0 h =>
  cases h with
  | cons g_1 h =>
  cases h with
  | cons g_2 h =>
  cases h
  obtain ⟨a0, b0, c0, d0, e0, f0, n0, g0, rfl, hm_0, hg_0⟩ := good_test g_0
  obtain ⟨a1, rfl⟩ := good_int1 g_1
  obtain ⟨n2, g2, rfl, hm_2, hg_2⟩ := good_ints g_2
  exact ⟨⟨⟨hg_0, hm_0⟩, ⟨hg_2, hm_2⟩⟩, rfl⟩
#print axioms trialDrops_holds
end Go.Proofs.Ytnjhbmcambofgaa
