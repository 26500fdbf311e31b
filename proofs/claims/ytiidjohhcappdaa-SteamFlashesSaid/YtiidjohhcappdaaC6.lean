/- For any table, level, levels and stream, the law on flashes and trains answers true: the flash and the train are the document's, or the error is. No condition. -/
import Derived.Test.YtiidjohhcappdaaVn
import Derived.Test.YtiidjohhcappdaaR0
import Derived.Test.YtiidjohhcappdaaRows
import Derived.Test.YtiidjohhcappdaaA6
namespace Go.Proofs.Ytiidjohhcappdaa
open Go.V Go.ChangeShapes Go.WideShapes Go.ChangeAt Go.RowKit

set_option maxRecDepth 100000 in
theorem steamFlashes_lifted {sp : V.Spec} (hS : SF Try.prog 6 sp) (hsp : ∀ pvs, GoodAll [sTab, .one i1, .one (.slice [i1]), sStream] pvs → (sp pvs).1.getD True ∧ (sp pvs).2 = .bool true) (os : Os) (started : os.Started) (H : Type) (enc : TypeId × Value → H) :
    ReturnsInHanded {} Try.checked os 6 .any (Rows.steamFlashesSpec.pre6 enc Try.prog Try.f6 Rows.steamFlashesRow.domain false) (Rows.steamFlashesSpec.post enc Try.prog Try.f6 false true false false) := by
  refine returnsInHanded_of_change (C := Try.checked) own started (by kernel_rfl) Try.func6
    (ChangeSpec.witness6 (enc := enc) (C := Try.checked) false ⟨#[], #[.slice none 0 0, .int .i64 0, .slice none 0 0, .agg #[.int .i64 0, .int .i64 0, .int .i64 0, .int .i64 0]], []⟩ 8 (by kernel_rfl) (by kernel_rfl) (by kernel_rfl) (by kernel_rfl)) ?_
  intro W base args ds gs before hval hW _ _
  refine law_calls (shs := [sTab, .one i1, .one (.slice [i1]), sStream]) (tb := 4) laidOut hS (by kernel_rfl) (by kernel_rfl) (by kernel_rfl) rfl (fun H ds h => ?_) hsp W base args ds gs before hval hW
  match ds, h with
  | [_, _, _, _], _ => rfl
theorem steamFlashes_row {sp : V.Spec} (hS : SF Try.prog 6 sp) (hsp : ∀ pvs, GoodAll [sTab, .one i1, .one (.slice [i1]), sStream] pvs → (sp pvs).1.getD True ∧ (sp pvs).2 = .bool true) : Rows.SteamFlashesSaid :=
  OpenClaim.holds_of_wide 6 Try.f6 rfl rfl rfl rfl rfl rfl rfl ⟨rfl, rfl, rfl, rfl, rfl⟩ rfl rfl rfl rfl rfl (by kernel_rfl) Try.func6 (by kernel_rfl)
    (of_decide_eq_true (by kernel_rfl)) (by unfold Func.isWrapper; rw [if_neg (by decide +kernel)]; exact ⟨rfl, rfl⟩)
    (fun os started H enc _ => steamFlashes_lifted hS hsp os started H enc)

inductive isFl (n : Nat) (get : Nat → List PV) (m : Nat) (lget : Nat → List PV) : Prop
  | mk (t : Nat → Row) (l : Nat → Int) (hn : n ≤ 9223372036854775807) (e : get = fun i => rowL (t i)) (e' : lget = fun i => intL (l i))
  | no (h : False)
def flLS : V.Spec
  | [.slice none n get, .int .i64 _, .slice none m lget, .agg [.int .i64 _, .int .i64 _, .int .i64 _, .int .i64 _]] => (some (isFl n get m lget), .bool true)
  | _ => bad
theorem sf6s : SF Try.prog 6 flLS := by
  refine sf_each ⟨_, _, Try.func6, by kernel_rfl, rfl⟩ fun args h => ?_
  unfold flLS at h ⊢
  split at h
  · rename_i n get lv m lget a b c d
    have h : isFl n get m lget := h
    cases h with
    | no h => exact h.elim
    | mk t l hn e e' =>
    subst e e'
    show SF Try.prog 6 (V.atS [tab n t, I lv, .slice none m (fun i => intL (l i)), encS ⟨a, b, c, d⟩] (.bool true))
    by_cases h30 : n ≤ 30
    · by_cases hm : m ≤ 30
      · cases hT : okTb n t
        · exact flC n t lv m l a b c d hn h30 hm hT
        · cases hl : decide (0 ≤ lv ∧ lv ≤ (n : Int) - 1) <;> cases hL : lvB n m l <;> cases hx : decide (okS ⟨a, b, c, d⟩)
          · exact fl000 n t lv m l a b c d hn h30 hm hT hl hL hx
          · exact fl001 n t lv m l a b c d hn h30 hm hT hl hL hx
          · exact fl010 n t lv m l a b c d hn h30 hm hT hl hL hx
          · exact fl011 n t lv m l a b c d hn h30 hm hT hl hL hx
          · exact fl100 n t lv m l a b c d hn h30 hm hT hl hL hx
          · exact fl101 n t lv m l a b c d hn h30 hm hT hl hL hx
          · exact fl110 n t lv m l a b c d hn h30 hm hT hl hL hx
          · exact fl111 n t lv m l a b c d hn h30 hm hT hl hL hx
      · exact flB n t lv m l a b c d hn h30 (by omega)
    · exact flA n t lv m l a b c d hn (by omega)
  · exact h.elim
def flW : V.Spec
  | [.slice none n get, .int .i64 _, .slice none m lget, .agg [.int .i64 _, .int .i64 _, .int .i64 _, .int .i64 _]] => (some ((∀ i, i < n → get i = rowL (rowOf (get i))) ∧ (∀ i, i < m → lget i = intL (intOf (lget i))) ∧ n ≤ 9223372036854775807), .bool true)
  | _ => bad
theorem sf6 : SF Try.prog 6 flW := by
  refine sf_args sf6s fun args h => ?_
  unfold flW at h ⊢
  split at h
  · rename_i n get lv m lget a b c d
    obtain ⟨h, h', hn⟩ : (∀ i, i < n → get i = rowL (rowOf (get i))) ∧ (∀ i, i < m → lget i = intL (intOf (lget i))) ∧ n ≤ 9223372036854775807 := h
    refine ⟨[.slice none n fun i => rowL (rowOf (get i)), .int .i64 lv, .slice none m fun i => intL (intOf (lget i)), .agg [.int .i64 a, .int .i64 b, .int .i64 c, .int .i64 d]], rfl, fun i hi => ?_, .mk _ _ hn rfl rfl, rfl⟩
    match i, hi with
    | 0, _ => exact tab_weak h
    | 1, _ => exact .refl _
    | 2, _ => exact .slice _ _ _ _ h'
    | 3, _ => exact .refl _
  · exact h.elim
theorem good_ints {pv : PV} (h : GoodA (.one (.slice [i1])) pv) : ∃ n get, pv = .slice none n get ∧ n ≤ maxLen ∧ ∀ i, i < n → get i = intL (intOf (get i)) := by
  cases h with
  | one s pv h =>
    cases h with
    | slice l n get hn hl hg =>
      refine ⟨n, get, rfl, hn, fun i hi => ?_⟩
      have h5 := hl i hi
      have hg := hg i hi
      match hq : get i, h5 with
      | [x], _ =>
        rw [hq] at hg
        obtain ⟨a, ha⟩ := good_int (hg 0 (by decide))
        have ha : x = _ := ha
        subst ha
        rfl
theorem steamFlashes_holds : Rows.SteamFlashesSaid := by
  refine steamFlashes_row sf6 fun pvs h => ?_
  cases h with
  | cons g1 h =>
  cases h with
  | cons g2 h =>
  cases h with
  | cons g3 h =>
  cases h with
  | cons g4 h =>
  cases h
  obtain ⟨n, get, rfl, hn, hw⟩ := good_tab g1
  obtain ⟨lv, rfl⟩ := good_int1 g2
  obtain ⟨m, lget, rfl, hm, hw'⟩ := good_ints g3
  obtain ⟨a, b, c, d, rfl⟩ := good_stream g4
  exact ⟨⟨hw, hw', hn⟩, rfl⟩
#print axioms steamFlashes_holds
end Go.Proofs.Ytiidjohhcappdaa
