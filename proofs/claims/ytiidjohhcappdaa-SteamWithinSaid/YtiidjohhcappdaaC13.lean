/- For any table, level, mass, ranges of heat and silica and any pick in them, the law on bounds answers true: steam and scale lie within the bounds, and both ends are reached. No condition. -/
import Derived.Test.YtiidjohhcappdaaVn
import Derived.Test.YtiidjohhcappdaaR0
import Derived.Test.YtiidjohhcappdaaRows
import Derived.Test.YtiidjohhcappdaaA13
namespace Go.Proofs.Ytiidjohhcappdaa
open Go.V Go.ChangeShapes Go.WideShapes Go.ChangeAt Go.RowKit

set_option maxRecDepth 100000 in
theorem steamWithin_lifted {sp : V.Spec} (hS : SF Try.prog 13 sp) (hsp : ∀ pvs, GoodAll [sTab, .one (.int .u8), .one i1, .agg [i1, i1], .agg [i1, i1], .one (.int .u32), .one (.int .u32)] pvs → (sp pvs).1.getD True ∧ (sp pvs).2 = .bool true) (os : Os) (started : os.Started) (H : Type) (enc : TypeId × Value → H) :
    ReturnsInHanded {} Try.checked os 13 .any (Rows.steamWithinSpec.pre6 enc Try.prog Try.f13 Rows.steamWithinRow.domain false) (Rows.steamWithinSpec.post enc Try.prog Try.f13 false true false false) := by
  refine returnsInHanded_of_change (C := Try.checked) own started (by kernel_rfl) Try.func13
    (ChangeSpec.witness6 (enc := enc) (C := Try.checked) false ⟨#[], #[.slice none 0 0, .int .u8 0, .int .i64 0, .agg #[.int .i64 0, .int .i64 0], .agg #[.int .i64 0, .int .i64 0], .int .u32 0, .int .u32 0], []⟩ 8 (by kernel_rfl) (by kernel_rfl) (by kernel_rfl) (by kernel_rfl)) ?_
  intro W base args ds gs before hval hW _ _
  refine law_calls (shs := [sTab, .one (.int .u8), .one i1, .agg [i1, i1], .agg [i1, i1], .one (.int .u32), .one (.int .u32)]) (tb := 4) laidOut hS (by kernel_rfl) (by kernel_rfl) (by kernel_rfl) rfl (fun H ds h => ?_) hsp W base args ds gs before hval hW
  match ds, h with
  | [_, _, _, _, _, _, _], _ => rfl
theorem steamWithin_row {sp : V.Spec} (hS : SF Try.prog 13 sp) (hsp : ∀ pvs, GoodAll [sTab, .one (.int .u8), .one i1, .agg [i1, i1], .agg [i1, i1], .one (.int .u32), .one (.int .u32)] pvs → (sp pvs).1.getD True ∧ (sp pvs).2 = .bool true) : Rows.SteamWithinSaid :=
  OpenClaim.holds_of_wide 13 Try.f13 rfl rfl rfl rfl rfl rfl rfl ⟨rfl, rfl, rfl, rfl, rfl⟩ rfl rfl rfl rfl rfl (by kernel_rfl) Try.func13 (by kernel_rfl)
    (of_decide_eq_true (by kernel_rfl)) (by unfold Func.isWrapper; rw [if_neg (by decide +kernel)]; exact ⟨rfl, rfl⟩)
    (fun os started H enc _ => steamWithin_lifted hS hsp os started H enc)

inductive isWith (n : Nat) (get : Nat → List PV) (lv u v : Int) : Prop
  | mk (t : Nat → Row) (hn : n ≤ 9223372036854775807) (hlv : 0 ≤ lv ∧ lv ≤ 255) (hu : 0 ≤ u ∧ u ≤ 4294967295) (hv : 0 ≤ v ∧ v ≤ 4294967295) (e : get = fun i => rowL (t i))
  | no (h : False)
def withinS : V.Spec
  | [.slice none n get, .int .u8 lv, .int .i64 _, .agg [.int .i64 _, .int .i64 _], .agg [.int .i64 _, .int .i64 _], .int .u32 u, .int .u32 v] => (some (isWith n get lv u v), .bool true)
  | _ => bad
theorem sf13s : SF Try.prog 13 withinS := by
  refine sf_each ⟨_, _, Try.func13, by kernel_rfl, rfl⟩ fun args h => ?_
  unfold withinS at h ⊢
  split at h
  · rename_i n get lv m h0 h1 s0 s1 u v
    have h : isWith n get lv u v := h
    cases h with
    | no h => exact h.elim
    | mk t hn hlv hu hv e =>
    subst e
    show SF Try.prog 13 (V.atS [tab n t, .int .u8 lv, I m, .agg [I h0, I h1], .agg [I s0, I s1], .int .u32 u, .int .u32 v] (.bool true))
    cases hT : okTb n t
    · exact withinA n t lv m h0 h1 s0 s1 u v hn hT
    · cases hm : decide (0 ≤ m ∧ m ≤ 1000000)
      · exact withinB n t lv m h0 h1 s0 s1 u v hn hT hm
      · cases hh : decide (0 ≤ h0 ∧ h0 ≤ h1 ∧ h1 ≤ 4000 * m)
        · exact withinC n t lv m h0 h1 s0 s1 u v hn hT hm hh
        · cases hs : decide (0 ≤ s0 ∧ s0 ≤ s1 ∧ s1 ≤ 10000 * m)
          · exact withinD n t lv m h0 h1 s0 s1 u v hn hT hm hh hs
          · exact withinE n t lv m h0 h1 s0 s1 u v hn hlv hu hv hT hm hh hs
  · exact h.elim
def withinW : V.Spec
  | [.slice none n get, .int .u8 lv, .int .i64 _, .agg [.int .i64 _, .int .i64 _], .agg [.int .i64 _, .int .i64 _], .int .u32 u, .int .u32 v] =>
    (some ((∀ i, i < n → get i = rowL (rowOf (get i))) ∧ n ≤ 9223372036854775807 ∧ (0 ≤ lv ∧ lv ≤ 255) ∧ (0 ≤ u ∧ u ≤ 4294967295) ∧ 0 ≤ v ∧ v ≤ 4294967295), .bool true)
  | _ => bad
theorem sf13 : SF Try.prog 13 withinW := by
  refine sf_args sf13s fun args h => ?_
  unfold withinW at h ⊢
  split at h
  · rename_i n get lv m h0 h1 s0 s1 u v
    obtain ⟨h, hn, hlv, hu, hv⟩ : (∀ i, i < n → get i = rowL (rowOf (get i))) ∧ n ≤ 9223372036854775807 ∧ (0 ≤ lv ∧ lv ≤ 255) ∧ (0 ≤ u ∧ u ≤ 4294967295) ∧ 0 ≤ v ∧ v ≤ 4294967295 := h
    refine ⟨[.slice none n fun i => rowL (rowOf (get i)), .int .u8 lv, .int .i64 m, .agg [.int .i64 h0, .int .i64 h1], .agg [.int .i64 s0, .int .i64 s1], .int .u32 u, .int .u32 v], rfl, fun i hi => ?_, .mk _ hn hlv hu hv rfl, rfl⟩
    match i, hi with
    | 0, _ => exact tab_weak h
    | 1, _ => exact .refl _
    | 2, _ => exact .refl _
    | 3, _ => exact .refl _
    | 4, _ => exact .refl _
    | 5, _ => exact .refl _
    | 6, _ => exact .refl _
  · exact h.elim
theorem good_range {pv : PV} (h : GoodA (.agg [i1, i1]) pv) : ∃ a b, pv = .agg [.int .i64 a, .int .i64 b] := by
  cases h with
  | agg l cs hl hg =>
    match cs, hl, hg with
    | [x, y], _, hg =>
      obtain ⟨a, ha⟩ := good_int (hg 0 (by decide))
      obtain ⟨b, hb⟩ := good_int (hg 1 (by decide))
      have ha : x = _ := ha
      have hb : y = _ := hb
      subst ha hb
      exact ⟨a, b, rfl⟩
theorem steamWithin_holds : Rows.SteamWithinSaid := by
  refine steamWithin_row sf13 fun pvs h => ?_
  cases h with
  | cons g1 h =>
  cases h with
  | cons g2 h =>
  cases h with
  | cons g3 h =>
  cases h with
  | cons g4 h =>
  cases h with
  | cons g5 h =>
  cases h with
  | cons g6 h =>
  cases h with
  | cons g7 h =>
  cases h
  obtain ⟨n, get, rfl, hn, hw⟩ := good_tab g1
  obtain ⟨lv, rfl, hlv⟩ := good_u8 g2
  obtain ⟨m, rfl⟩ := good_int1 g3
  obtain ⟨h0, h1, rfl⟩ := good_range g4
  obtain ⟨s0, s1, rfl⟩ := good_range g5
  obtain ⟨u, rfl, hu⟩ := good_u32 g6
  obtain ⟨v, rfl, hv⟩ := good_u32 g7
  exact ⟨⟨hw, hn, hlv, hu, hv⟩, rfl⟩
#print axioms steamWithin_holds
end Go.Proofs.Ytiidjohhcappdaa
