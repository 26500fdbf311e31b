/- For any table, level, mass and ranges of heat and silica, the law on bounds answers true: the bounds of steam and scale are as the document says, or the error is. No condition. -/
import Derived.Test.YtiidjohhcappdaaVn
import Derived.Test.YtiidjohhcappdaaR0
import Derived.Test.YtiidjohhcappdaaRows
import Derived.Test.YtiidjohhcappdaaA8
namespace Go.Proofs.Ytiidjohhcappdaa
open Go.V Go.ChangeShapes Go.WideShapes Go.ChangeAt Go.RowKit

set_option maxRecDepth 100000 in
theorem steamBounds_lifted {sp : V.Spec} (hS : SF Try.prog 8 sp) (hsp : ∀ pvs, GoodAll [sTab, .one i1, .one i1, .agg [i1, i1], .agg [i1, i1]] pvs → (sp pvs).1.getD True ∧ (sp pvs).2 = .bool true) (os : Os) (started : os.Started) (H : Type) (enc : TypeId × Value → H) :
    ReturnsInHanded {} Try.checked os 8 .any (Rows.steamBoundsSpec.pre6 enc Try.prog Try.f8 Rows.steamBoundsRow.domain false) (Rows.steamBoundsSpec.post enc Try.prog Try.f8 false true false false) := by
  refine returnsInHanded_of_change (C := Try.checked) own started (by kernel_rfl) Try.func8
    (ChangeSpec.witness6 (enc := enc) (C := Try.checked) false ⟨#[], #[.slice none 0 0, .int .i64 0, .int .i64 0, .agg #[.int .i64 0, .int .i64 0], .agg #[.int .i64 0, .int .i64 0]], []⟩ 8 (by kernel_rfl) (by kernel_rfl) (by kernel_rfl) (by kernel_rfl)) ?_
  intro W base args ds gs before hval hW _ _
  refine law_calls (shs := [sTab, .one i1, .one i1, .agg [i1, i1], .agg [i1, i1]]) (tb := 4) laidOut hS (by kernel_rfl) (by kernel_rfl) (by kernel_rfl) rfl (fun H ds h => ?_) hsp W base args ds gs before hval hW
  match ds, h with
  | [_, _, _, _, _], _ => rfl
theorem steamBounds_row {sp : V.Spec} (hS : SF Try.prog 8 sp) (hsp : ∀ pvs, GoodAll [sTab, .one i1, .one i1, .agg [i1, i1], .agg [i1, i1]] pvs → (sp pvs).1.getD True ∧ (sp pvs).2 = .bool true) : Rows.SteamBoundsSaid :=
  OpenClaim.holds_of_wide 8 Try.f8 rfl rfl rfl rfl rfl rfl rfl ⟨rfl, rfl, rfl, rfl, rfl⟩ rfl rfl rfl rfl rfl (by kernel_rfl) Try.func8 (by kernel_rfl)
    (of_decide_eq_true (by kernel_rfl)) (by unfold Func.isWrapper; rw [if_neg (by decide +kernel)]; exact ⟨rfl, rfl⟩)
    (fun os started H enc _ => steamBounds_lifted hS hsp os started H enc)

inductive isTabU (n : Nat) (get : Nat → List PV) : Prop
  | mk (t : Nat → Row) (e : get = fun i => rowL (t i))
  | no (h : False)
def boundsS : V.Spec
  | [.slice none n get, .int .i64 _, .int .i64 _, .agg [.int .i64 _, .int .i64 _], .agg [.int .i64 _, .int .i64 _]] => (some (isTabU n get), .bool true)
  | _ => bad
theorem sf8s : SF Try.prog 8 boundsS := by
  refine sf_each ⟨_, _, Try.func8, by kernel_rfl, rfl⟩ fun args h => ?_
  unfold boundsS at h ⊢
  split at h
  · rename_i n get lv m h0 h1 s0 s1
    have h : isTabU n get := h
    cases h with
    | no h => exact h.elim
    | mk t e =>
    subst e
    show SF Try.prog 8 (V.atS [tab n t, I lv, I m, .agg [I h0, I h1], .agg [I s0, I s1]] (.bool true))
    by_cases hn : n ≤ 30
    · cases hT : okTb n t
      · exact boundsB n t lv m h0 h1 s0 s1 hn hT
      · cases hl : decide (0 ≤ lv ∧ lv ≤ (n : Int) - 1)
        · exact boundsC n t lv m h0 h1 s0 s1 hn hT hl
        · cases hm : decide (0 ≤ m ∧ m ≤ 1000000)
          · exact boundsD n t lv m h0 h1 s0 s1 hn hT hl hm
          · cases hh : decide (0 ≤ h0 ∧ h0 ≤ h1 ∧ h1 ≤ 4000 * m)
            · exact boundsE n t lv m h0 h1 s0 s1 hn hT hl hm hh
            · cases hs : decide (0 ≤ s0 ∧ s0 ≤ s1 ∧ s1 ≤ 10000 * m)
              · exact boundsF n t lv m h0 h1 s0 s1 hn hT hl hm hh hs
              · exact boundsG n t lv m h0 h1 s0 s1 hn hT hl hm hh hs
    · exact boundsA n t lv m h0 h1 s0 s1 (by omega)
  · exact h.elim
def boundsW : V.Spec
  | [.slice none n get, .int .i64 _, .int .i64 _, .agg [.int .i64 _, .int .i64 _], .agg [.int .i64 _, .int .i64 _]] => (some (∀ i, i < n → get i = rowL (rowOf (get i))), .bool true)
  | _ => bad
theorem sf8 : SF Try.prog 8 boundsW := by
  refine sf_args sf8s fun args h => ?_
  unfold boundsW at h ⊢
  split at h
  · rename_i n get lv m h0 h1 s0 s1
    have h : ∀ i, i < n → get i = rowL (rowOf (get i)) := h
    refine ⟨[.slice none n fun i => rowL (rowOf (get i)), .int .i64 lv, .int .i64 m, .agg [.int .i64 h0, .int .i64 h1], .agg [.int .i64 s0, .int .i64 s1]], rfl, fun i hi => ?_, .mk _ rfl, rfl⟩
    match i, hi with
    | 0, _ => exact tab_weak h
    | 1, _ => exact .refl _
    | 2, _ => exact .refl _
    | 3, _ => exact .refl _
    | 4, _ => exact .refl _
  · exact h.elim
theorem good_range {pv : PV} (h : GoodA (.agg [i1, i1]) pv) : ∃ a b, pv = .agg [.int .i64 a, .int .i64 b] := by
  cases h with
  | agg l cs hl hg =>
    match cs, hl, hg with
    | [x, y], _, hg =>
      obtain ⟨a, ha⟩ := good_int (hg 0 (by decide))
      obtain ⟨b, hb⟩ := good_int (hg 1 (by decide))
      have ha : x = _ := ha
      have hb : y = _ := hb
      subst ha hb
      exact ⟨a, b, rfl⟩
theorem steamBounds_holds : Rows.SteamBoundsSaid := by
  refine steamBounds_row sf8 fun pvs h => ?_
  cases h with
  | cons g1 h =>
  cases h with
  | cons g2 h =>
  cases h with
  | cons g3 h =>
  cases h with
  | cons g4 h =>
  cases h with
  | cons g5 h =>
  cases h
  obtain ⟨n, get, rfl, _, hw⟩ := good_tab g1
  obtain ⟨lv, rfl⟩ := good_int1 g2
  obtain ⟨m, rfl⟩ := good_int1 g3
  obtain ⟨h0, h1, rfl⟩ := good_range g4
  obtain ⟨s0, s1, rfl⟩ := good_range g5
  exact ⟨hw, rfl⟩
#print axioms steamBounds_holds
end Go.Proofs.Ytiidjohhcappdaa
