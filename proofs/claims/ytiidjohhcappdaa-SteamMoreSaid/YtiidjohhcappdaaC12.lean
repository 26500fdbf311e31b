/- For any table, level, stream and amount of heat, the law on more heat answers true: with more heat there is not less steam, and what is left over is as it must be. No condition. -/
import Derived.Test.YtiidjohhcappdaaVn
import Derived.Test.YtiidjohhcappdaaR0
import Derived.Test.YtiidjohhcappdaaRows
import Derived.Test.YtiidjohhcappdaaA12
namespace Go.Proofs.Ytiidjohhcappdaa
open Go.V Go.ChangeShapes Go.WideShapes Go.ChangeAt Go.RowKit

set_option maxRecDepth 100000 in
theorem steamMore_lifted {sp : V.Spec} (hS : SF Try.prog 12 sp) (hsp : ∀ pvs, GoodAll [sTab, .one (.int .u8), sStream, .one (.int .u32)] pvs → (sp pvs).1.getD True ∧ (sp pvs).2 = .bool true) (os : Os) (started : os.Started) (H : Type) (enc : TypeId × Value → H) :
    ReturnsInHanded {} Try.checked os 12 .any (Rows.steamMoreSpec.pre6 enc Try.prog Try.f12 Rows.steamMoreRow.domain false) (Rows.steamMoreSpec.post enc Try.prog Try.f12 false true false false) := by
  refine returnsInHanded_of_change (C := Try.checked) own started (by kernel_rfl) Try.func12
    (ChangeSpec.witness6 (enc := enc) (C := Try.checked) false ⟨#[], #[.slice none 0 0, .int .u8 0, .agg #[.int .i64 0, .int .i64 0, .int .i64 0, .int .i64 0], .int .u32 0], []⟩ 8 (by kernel_rfl) (by kernel_rfl) (by kernel_rfl) (by kernel_rfl)) ?_
  intro W base args ds gs before hval hW _ _
  refine law_calls (shs := [sTab, .one (.int .u8), sStream, .one (.int .u32)]) (tb := 4) laidOut hS (by kernel_rfl) (by kernel_rfl) (by kernel_rfl) rfl (fun H ds h => ?_) hsp W base args ds gs before hval hW
  match ds, h with
  | [_, _, _, _], _ => rfl
theorem steamMore_row {sp : V.Spec} (hS : SF Try.prog 12 sp) (hsp : ∀ pvs, GoodAll [sTab, .one (.int .u8), sStream, .one (.int .u32)] pvs → (sp pvs).1.getD True ∧ (sp pvs).2 = .bool true) : Rows.SteamMoreSaid :=
  OpenClaim.holds_of_wide 12 Try.f12 rfl rfl rfl rfl rfl rfl rfl ⟨rfl, rfl, rfl, rfl, rfl⟩ rfl rfl rfl rfl rfl (by kernel_rfl) Try.func12 (by kernel_rfl)
    (of_decide_eq_true (by kernel_rfl)) (by unfold Func.isWrapper; rw [if_neg (by decide +kernel)]; exact ⟨rfl, rfl⟩)
    (fun os started H enc _ => steamMore_lifted hS hsp os started H enc)

inductive isMore (n : Nat) (get : Nat → List PV) (lv more : Int) : Prop
  | mk (t : Nat → Row) (hn : n ≤ 9223372036854775807) (hlv : 0 ≤ lv ∧ lv ≤ 255) (hmo : 0 ≤ more ∧ more ≤ 4294967295) (e : get = fun i => rowL (t i))
  | no (h : False)
def moreS : V.Spec
  | [.slice none n get, .int .u8 lv, .agg [.int .i64 _, .int .i64 _, .int .i64 _, .int .i64 _], .int .u32 more] => (some (isMore n get lv more), .bool true)
  | _ => bad
theorem sf12s : SF Try.prog 12 moreS := by
  refine sf_each ⟨_, _, Try.func12, by kernel_rfl, rfl⟩ fun args h => ?_
  unfold moreS at h ⊢
  split at h
  · rename_i n get lv a b c d more
    have h : isMore n get lv more := h
    cases h with
    | no h => exact h.elim
    | mk t hn hlv hmo e =>
    subst e
    show SF Try.prog 12 (V.atS [tab n t, .int .u8 lv, encS ⟨a, b, c, d⟩, .int .u32 more] (.bool true))
    cases hT : okTb n t
    · exact moreA n t lv a b c d more hn hT
    · cases hs : decide (okS ⟨a, b, c, d⟩)
      · exact moreB n t lv a b c d more hn hT hs
      · have hok : okT n t := @of_decide_eq_true _ (Classical.propDecidable _) hT
        have hn2 := hok.1
        have hl0 : 0 ≤ lv.tmod n := Int.tmod_nonneg _ (by omega)
        have hl1 : lv.tmod n < n := Int.tmod_lt_of_pos _ (by omega)
        have hrow : okR (t (lv.tmod n).toNat) := (hok.2.2.all (lv.tmod n).toNat (by omega)).1
        rcases flash_ways hrow (of_decide_eq_true hs) with ⟨ws, rs, sc, hP, h1, h2⟩ | ⟨h1, h2, ws, sc, hP⟩ | ⟨q, ws, rs, sc, hP, h1, h2, h3, h4, h5, h6, _⟩
        · exact moreC n t lv a b c d more hn hlv hmo hT hs _ rfl ws rs sc hP ⟨h1, h2⟩
        · exact moreD n t lv a b c d more hn hlv hmo hT hs _ rfl ws sc hP h1 h2
        · exact moreE n t lv a b c d more hn hlv hmo hT hs _ rfl q ws rs sc hP ⟨h1, h2⟩ ⟨h3, h4⟩ h5 h6
  · exact h.elim
def moreW : V.Spec
  | [.slice none n get, .int .u8 lv, .agg [.int .i64 _, .int .i64 _, .int .i64 _, .int .i64 _], .int .u32 more] => (some ((∀ i, i < n → get i = rowL (rowOf (get i))) ∧ n ≤ 9223372036854775807 ∧ (0 ≤ lv ∧ lv ≤ 255) ∧ 0 ≤ more ∧ more ≤ 4294967295), .bool true)
  | _ => bad
theorem sf12 : SF Try.prog 12 moreW := by
  refine sf_args sf12s fun args h => ?_
  unfold moreW at h ⊢
  split at h
  · rename_i n get lv a b c d more
    obtain ⟨h, hn, hlv, hmo⟩ : (∀ i, i < n → get i = rowL (rowOf (get i))) ∧ n ≤ 9223372036854775807 ∧ (0 ≤ lv ∧ lv ≤ 255) ∧ 0 ≤ more ∧ more ≤ 4294967295 := h
    refine ⟨[.slice none n fun i => rowL (rowOf (get i)), .int .u8 lv, .agg [.int .i64 a, .int .i64 b, .int .i64 c, .int .i64 d], .int .u32 more], rfl, fun i hi => ?_, .mk _ hn hlv hmo rfl, rfl⟩
    match i, hi with
    | 0, _ => exact tab_weak h
    | 1, _ => exact .refl _
    | 2, _ => exact .refl _
    | 3, _ => exact .refl _
  · exact h.elim
theorem steamMore_holds : Rows.SteamMoreSaid := by
  refine steamMore_row sf12 fun pvs h => ?_
  cases h with
  | cons h1 h =>
  cases h with
  | cons h2 h =>
  cases h with
  | cons h3 h =>
  cases h with
  | cons h4 h =>
  cases h
  obtain ⟨n, get, rfl, hn, hw⟩ := good_tab h1
  obtain ⟨lv, rfl, hlv⟩ := good_u8 h2
  obtain ⟨a, b, c, d, rfl⟩ := good_stream h3
  obtain ⟨more, rfl, hmo⟩ := good_u32 h4
  exact ⟨⟨hw, hn, hlv, hmo⟩, rfl⟩
#print axioms steamMore_holds
end Go.Proofs.Ytiidjohhcappdaa
