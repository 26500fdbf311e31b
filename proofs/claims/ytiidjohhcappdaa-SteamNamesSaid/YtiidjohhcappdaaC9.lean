/- The statement on the examples and errors answers true. No condition. -/
import Derived.Test.YtiidjohhcappdaaVn
import Derived.Test.YtiidjohhcappdaaR0
import Derived.Test.YtiidjohhcappdaaRows
import Derived.Test.YtiidjohhcappdaaX3
namespace Go.Proofs.Ytiidjohhcappdaa
open Go.V Go.ChangeShapes Go.WideShapes Go.ChangeAt Go.RowKit

set_option maxRecDepth 100000 in
theorem steamNames_lifted {sp : V.Spec} (hS : SF Try.prog 9 sp) (hsp : ∀ pvs, GoodAll [] pvs → (sp pvs).1.getD True ∧ (sp pvs).2 = .bool true) (os : Os) (started : os.Started) (H : Type) (enc : TypeId × Value → H) :
    ReturnsInHanded {} Try.checked os 9 .any (Rows.steamNamesSpec.pre6 enc Try.prog Try.f9 Rows.steamNamesRow.domain false) (Rows.steamNamesSpec.post enc Try.prog Try.f9 false true false false) := by
  refine returnsInHanded_of_change (C := Try.checked) own started (by kernel_rfl) Try.func9
    (ChangeSpec.witness6 (enc := enc) (C := Try.checked) false ⟨#[], #[], []⟩ 8 (by kernel_rfl) (by kernel_rfl) (by kernel_rfl) (by kernel_rfl)) ?_
  intro W base args ds gs before hval hW _ _
  refine law_calls (shs := []) (tb := 4) laidOut hS (by kernel_rfl) (by kernel_rfl) (by kernel_rfl) rfl (fun H ds h => ?_) hsp W base args ds gs before hval hW
  match ds, h with
  | [], _ => rfl
theorem steamNames_row {sp : V.Spec} (hS : SF Try.prog 9 sp) (hsp : ∀ pvs, GoodAll [] pvs → (sp pvs).1.getD True ∧ (sp pvs).2 = .bool true) : Rows.SteamNamesSaid :=
  OpenClaim.holds_of_wide 9 Try.f9 rfl rfl rfl rfl rfl rfl rfl ⟨rfl, rfl, rfl, rfl, rfl⟩ rfl rfl rfl rfl rfl (by kernel_rfl) Try.func9 (by kernel_rfl)
    (of_decide_eq_true (by kernel_rfl)) (by unfold Func.isWrapper; rw [if_neg (by decide +kernel)]; exact ⟨rfl, rfl⟩)
    (fun os started H enc _ => steamNames_lifted hS hsp os started H enc)

theorem steamNames_holds : Rows.SteamNamesSaid := by
  refine steamNames_row sf9 fun pvs h => ?_
  cases h
  exact ⟨rfl, rfl⟩
#print axioms steamNames_holds
end Go.Proofs.Ytiidjohhcappdaa
