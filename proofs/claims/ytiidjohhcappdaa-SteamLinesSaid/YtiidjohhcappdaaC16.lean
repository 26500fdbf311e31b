/- For any table, level and two picks, the law on lines answers true: the saturation rises, and is that of a row at its temperature; a pressure of a row has its level, one less the level before. No condition. -/
import Derived.Test.YtiidjohhcappdaaVn
import Derived.Test.YtiidjohhcappdaaR0
import Derived.Test.YtiidjohhcappdaaRows
import Derived.Test.YtiidjohhcappdaaA16
namespace Go.Proofs.Ytiidjohhcappdaa
open Go.V Go.ChangeShapes Go.WideShapes Go.ChangeAt Go.RowKit

set_option maxRecDepth 100000 in
theorem steamLines_lifted {sp : V.Spec} (hS : SF Try.prog 16 sp) (hsp : ∀ pvs, GoodAll [sTab, .one (.int .u8), .one (.int .u16), .one (.int .u16)] pvs → (sp pvs).1.getD True ∧ (sp pvs).2 = .bool true) (os : Os) (started : os.Started) (H : Type) (enc : TypeId × Value → H) :
    ReturnsInHanded {} Try.checked os 16 .any (Rows.steamLinesSpec.pre6 enc Try.prog Try.f16 Rows.steamLinesRow.domain false) (Rows.steamLinesSpec.post enc Try.prog Try.f16 false true false false) := by
  refine returnsInHanded_of_change (C := Try.checked) own started (by kernel_rfl) Try.func16
    (ChangeSpec.witness6 (enc := enc) (C := Try.checked) false ⟨#[], #[.slice none 0 0, .int .u8 0, .int .u16 0, .int .u16 0], []⟩ 8 (by kernel_rfl) (by kernel_rfl) (by kernel_rfl) (by kernel_rfl)) ?_
  intro W base args ds gs before hval hW _ _
  refine law_calls (shs := [sTab, .one (.int .u8), .one (.int .u16), .one (.int .u16)]) (tb := 4) laidOut hS (by kernel_rfl) (by kernel_rfl) (by kernel_rfl) rfl (fun H ds h => ?_) hsp W base args ds gs before hval hW
  match ds, h with
  | [_, _, _, _], _ => rfl
theorem steamLines_row {sp : V.Spec} (hS : SF Try.prog 16 sp) (hsp : ∀ pvs, GoodAll [sTab, .one (.int .u8), .one (.int .u16), .one (.int .u16)] pvs → (sp pvs).1.getD True ∧ (sp pvs).2 = .bool true) : Rows.SteamLinesSaid :=
  OpenClaim.holds_of_wide 16 Try.f16 rfl rfl rfl rfl rfl rfl rfl ⟨rfl, rfl, rfl, rfl, rfl⟩ rfl rfl rfl rfl rfl (by kernel_rfl) Try.func16 (by kernel_rfl)
    (of_decide_eq_true (by kernel_rfl)) (by unfold Func.isWrapper; rw [if_neg (by decide +kernel)]; exact ⟨rfl, rfl⟩)
    (fun os started H enc _ => steamLines_lifted hS hsp os started H enc)

inductive isLine (n : Nat) (get : Nat → List PV) (lv u v : Int) : Prop
  | mk (t : Nat → Row) (hn : n ≤ 9223372036854775807) (hlv : 0 ≤ lv ∧ lv ≤ 255) (hu : 0 ≤ u ∧ u ≤ 65535) (hv : 0 ≤ v ∧ v ≤ 65535) (e : get = fun i => rowL (t i))
  | no (h : False)
def linesS : V.Spec
  | [.slice none n get, .int .u8 lv, .int .u16 u, .int .u16 v] => (some (isLine n get lv u v), .bool true)
  | _ => bad
theorem sf16s : SF Try.prog 16 linesS := by
  refine sf_each ⟨_, _, Try.func16, by kernel_rfl, rfl⟩ fun args h => ?_
  unfold linesS at h ⊢
  split at h
  · rename_i n get lv u v
    have h : isLine n get lv u v := h
    cases h with
    | no h => exact h.elim
    | mk t hn hlv hu hv e =>
    subst e
    show SF Try.prog 16 (V.atS [tab n t, .int .u8 lv, .int .u16 u, .int .u16 v] (.bool true))
    cases hT : okTb n t
    · exact linesA n t lv u v hn hT
    · have hok : okT n t := @of_decide_eq_true _ (Classical.propDecidable _) hT
      have hn2 := hok.1
      have hl0 : 0 ≤ lv.tmod n := Int.tmod_nonneg _ (by omega)
      have hl1 : lv.tmod n < n := Int.tmod_lt_of_pos _ (by omega)
      obtain ⟨K, hK⟩ := Int.eq_ofNat_of_zero_le hl0
      have hKn : K < n := by omega
      by_cases h0 : K = 0
      · rcases Int.lt_trichotomy ((t 0).T + u.tmod ((t (n - 1)).T - (t 0).T + 1)) ((t 0).T + v.tmod ((t (n - 1)).T - (t 0).T + 1)) with hab | hab | hab
        · exact linesZL n t lv u v hn hlv hu hv hT K hK hKn h0 _ _ rfl rfl hab
        · exact linesZE n t lv u v hn hlv hu hv hT K hK hKn h0 _ _ rfl rfl hab
        · exact linesZG n t lv u v hn hlv hu hv hT K hK hKn h0 _ _ rfl rfl hab
      · rcases Int.lt_trichotomy ((t 0).T + u.tmod ((t (n - 1)).T - (t 0).T + 1)) ((t 0).T + v.tmod ((t (n - 1)).T - (t 0).T + 1)) with hab | hab | hab
        · exact linesPL n t lv u v hn hlv hu hv hT K hK hKn (by omega) _ _ rfl rfl hab
        · exact linesPE n t lv u v hn hlv hu hv hT K hK hKn (by omega) _ _ rfl rfl hab
        · exact linesPG n t lv u v hn hlv hu hv hT K hK hKn (by omega) _ _ rfl rfl hab
  · exact h.elim
def linesW : V.Spec
  | [.slice none n get, .int .u8 lv, .int .u16 u, .int .u16 v] => (some ((∀ i, i < n → get i = rowL (rowOf (get i))) ∧ n ≤ 9223372036854775807 ∧ (0 ≤ lv ∧ lv ≤ 255) ∧ (0 ≤ u ∧ u ≤ 65535) ∧ 0 ≤ v ∧ v ≤ 65535), .bool true)
  | _ => bad
theorem sf16 : SF Try.prog 16 linesW := by
  refine sf_args sf16s fun args h => ?_
  unfold linesW at h ⊢
  split at h
  · rename_i n get lv u v
    obtain ⟨h, hn, hlv, hu, hv⟩ : (∀ i, i < n → get i = rowL (rowOf (get i))) ∧ n ≤ 9223372036854775807 ∧ (0 ≤ lv ∧ lv ≤ 255) ∧ (0 ≤ u ∧ u ≤ 65535) ∧ 0 ≤ v ∧ v ≤ 65535 := h
    refine ⟨[.slice none n fun i => rowL (rowOf (get i)), .int .u8 lv, .int .u16 u, .int .u16 v], rfl, fun i hi => ?_, .mk _ hn hlv hu hv rfl, rfl⟩
    match i, hi with
    | 0, _ => exact tab_weak h
    | 1, _ => exact .refl _
    | 2, _ => exact .refl _
    | 3, _ => exact .refl _
  · exact h.elim
theorem steamLines_holds : Rows.SteamLinesSaid := by
  refine steamLines_row sf16 fun pvs h => ?_
  cases h with
  | cons g1 h =>
  cases h with
  | cons g2 h =>
  cases h with
  | cons g3 h =>
  cases h with
  | cons g4 h =>
  cases h
  obtain ⟨n, get, rfl, hn, hw⟩ := good_tab g1
  obtain ⟨lv, rfl, hlv⟩ := good_u8 g2
  obtain ⟨u, rfl, hu⟩ := good_u16 g3
  obtain ⟨v, rfl, hv⟩ := good_u16 g4
  exact ⟨⟨hw, hn, hlv, hu, hv⟩, rfl⟩
#print axioms steamLines_holds
end Go.Proofs.Ytiidjohhcappdaa
