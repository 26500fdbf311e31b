/- The row of SteamHeats, from what is said of the law's function. -/
import Derived.Test.YtiidjohhcappdaaVn
import Derived.Test.YtiidjohhcappdaaS1
import Derived.Test.YtiidjohhcappdaaRows
namespace Go.Proofs.Ytiidjohhcappdaa
open Go.V Go.ChangeShapes Go.WideShapes Go.ChangeAt Go.RowKit

theorem own : ownKnob Try.prog.godebug = none := by kernel_rfl
theorem laidOut : laidOutB Try.prog = true := by kernel_rfl
def i1 : Sh := .int .i64
def sStream : ASh := .agg [i1, i1, i1, i1]

set_option maxRecDepth 100000 in
theorem heats_lifted {sp : V.Spec} (hS : SF Try.prog 5 sp) (hsp : ∀ pvs, GoodAll [sStream, sStream, .one i1] pvs → (sp pvs).1.getD True ∧ (sp pvs).2 = .bool true) (os : Os) (started : os.Started) (H : Type) (enc : TypeId × Value → H) :
    ReturnsInHanded {} Try.checked os 5 .any (Rows.steamHeatsSpec.pre6 enc Try.prog Try.f5 Rows.steamHeatsRow.domain false) (Rows.steamHeatsSpec.post enc Try.prog Try.f5 false true false false) := by
  refine returnsInHanded_of_change (C := Try.checked) own started (by kernel_rfl) Try.func5
    (ChangeSpec.witness6 (enc := enc) (C := Try.checked) false ⟨#[], #[.agg #[.int .i64 0, .int .i64 0, .int .i64 0, .int .i64 0], .agg #[.int .i64 0, .int .i64 0, .int .i64 0, .int .i64 0], .int .i64 0], []⟩ 8 (by kernel_rfl) (by kernel_rfl) (by kernel_rfl) (by kernel_rfl)) ?_
  intro W base args ds gs before hval hW _ _
  refine law_calls (shs := [sStream, sStream, .one i1]) (tb := 4) laidOut hS (by kernel_rfl) (by kernel_rfl) (by kernel_rfl) rfl (fun H ds h => ?_) hsp W base args ds gs before hval hW
  match ds, h with
  | [_, _, _], _ => rfl
theorem heats_row {sp : V.Spec} (hS : SF Try.prog 5 sp) (hsp : ∀ pvs, GoodAll [sStream, sStream, .one i1] pvs → (sp pvs).1.getD True ∧ (sp pvs).2 = .bool true) : Rows.SteamHeatsSaid :=
  OpenClaim.holds_of_wide 5 Try.f5 rfl rfl rfl rfl rfl rfl rfl ⟨rfl, rfl, rfl, rfl, rfl⟩ rfl rfl rfl rfl rfl (by kernel_rfl) Try.func5 (by kernel_rfl)
    (of_decide_eq_true (by kernel_rfl)) (by unfold Func.isWrapper; rw [if_neg (by decide +kernel)]; exact ⟨rfl, rfl⟩)
    (fun os started H enc _ => heats_lifted hS hsp os started H enc)
end Go.Proofs.Ytiidjohhcappdaa
