/- For any table, any stream and any two numbers, the law on tables answers true: validity, levels and saturation are as the document says, or the error is. No condition. -/
import Derived.Test.YtiidjohhcappdaaVn
import Derived.Test.YtiidjohhcappdaaR0
import Derived.Test.YtiidjohhcappdaaRows
import Derived.Test.YtiidjohhcappdaaA3
namespace Go.Proofs.Ytiidjohhcappdaa
open Go.V Go.ChangeShapes Go.WideShapes Go.ChangeAt Go.RowKit

set_option maxRecDepth 100000 in
theorem steamTables_lifted {sp : V.Spec} (hS : SF Try.prog 3 sp) (hsp : ∀ pvs, GoodAll [sTab, sStream, .one i1, .one i1] pvs → (sp pvs).1.getD True ∧ (sp pvs).2 = .bool true) (os : Os) (started : os.Started) (H : Type) (enc : TypeId × Value → H) :
    ReturnsInHanded {} Try.checked os 3 .any (Rows.steamTablesSpec.pre6 enc Try.prog Try.f3 Rows.steamTablesRow.domain false) (Rows.steamTablesSpec.post enc Try.prog Try.f3 false true false false) := by
  refine returnsInHanded_of_change (C := Try.checked) own started (by kernel_rfl) Try.func3
    (ChangeSpec.witness6 (enc := enc) (C := Try.checked) false ⟨#[], #[.slice none 0 0, .agg #[.int .i64 0, .int .i64 0, .int .i64 0, .int .i64 0], .int .i64 0, .int .i64 0], []⟩ 8 (by kernel_rfl) (by kernel_rfl) (by kernel_rfl) (by kernel_rfl)) ?_
  intro W base args ds gs before hval hW _ _
  refine law_calls (shs := [sTab, sStream, .one i1, .one i1]) (tb := 4) laidOut hS (by kernel_rfl) (by kernel_rfl) (by kernel_rfl) rfl (fun H ds h => ?_) hsp W base args ds gs before hval hW
  match ds, h with
  | [_, _, _, _], _ => rfl
theorem steamTables_row {sp : V.Spec} (hS : SF Try.prog 3 sp) (hsp : ∀ pvs, GoodAll [sTab, sStream, .one i1, .one i1] pvs → (sp pvs).1.getD True ∧ (sp pvs).2 = .bool true) : Rows.SteamTablesSaid :=
  OpenClaim.holds_of_wide 3 Try.f3 rfl rfl rfl rfl rfl rfl rfl ⟨rfl, rfl, rfl, rfl, rfl⟩ rfl rfl rfl rfl rfl (by kernel_rfl) Try.func3 (by kernel_rfl)
    (of_decide_eq_true (by kernel_rfl)) (by unfold Func.isWrapper; rw [if_neg (by decide +kernel)]; exact ⟨rfl, rfl⟩)
    (fun os started H enc _ => steamTables_lifted hS hsp os started H enc)

inductive isTabU (n : Nat) (get : Nat → List PV) : Prop
  | mk (t : Nat → Row) (e : get = fun i => rowL (t i))
  | no (h : False)
def tablesS : V.Spec
  | [.slice none n get, .agg [.int .i64 _, .int .i64 _, .int .i64 _, .int .i64 _], .int .i64 _, .int .i64 _] => (some (isTabU n get), .bool true)
  | _ => bad
theorem sf3s : SF Try.prog 3 tablesS := by
  refine sf_each ⟨_, _, Try.func3, by kernel_rfl, rfl⟩ fun args h => ?_
  unfold tablesS at h ⊢
  split at h
  · rename_i n get a b c d p x
    have h : isTabU n get := h
    cases h with
    | no h => exact h.elim
    | mk t e =>
    subst e
    show SF Try.prog 3 (V.atS [tab n t, encS ⟨a, b, c, d⟩, I p, I x] (.bool true))
    by_cases hn : n ≤ 30
    · cases hs : decide (okS ⟨a, b, c, d⟩) <;> cases hT : okTb n t
      · exact tablesBf n t a b c d p x hn hT hs
      · have hl := lev_lt t p n
        by_cases h1 : lev t p n = -1 <;> by_cases hx : (t 0).T ≤ x ∧ x ≤ (t (n - 1)).T
        · exact tablesCfmi n t a b c d p x hn hT hs h1 hx
        · exact tablesCfmo n t a b c d p x hn hT hs h1 hx
        · exact tablesCfpi n t a b c d p x hn hT hs (by omega) hx
        · exact tablesCfpo n t a b c d p x hn hT hs (by omega) hx
      · exact tablesBt n t a b c d p x hn hT hs
      · have hl := lev_lt t p n
        by_cases h1 : lev t p n = -1 <;> by_cases hx : (t 0).T ≤ x ∧ x ≤ (t (n - 1)).T
        · exact tablesCtmi n t a b c d p x hn hT hs h1 hx
        · exact tablesCtmo n t a b c d p x hn hT hs h1 hx
        · exact tablesCtpi n t a b c d p x hn hT hs (by omega) hx
        · exact tablesCtpo n t a b c d p x hn hT hs (by omega) hx
    · exact tablesA n t a b c d p x (by omega)
  · exact h.elim
def tablesW : V.Spec
  | [.slice none n get, .agg [.int .i64 _, .int .i64 _, .int .i64 _, .int .i64 _], .int .i64 _, .int .i64 _] => (some (∀ i, i < n → get i = rowL (rowOf (get i))), .bool true)
  | _ => bad
theorem sf3 : SF Try.prog 3 tablesW := by
  refine sf_args sf3s fun args h => ?_
  unfold tablesW at h ⊢
  split at h
  · rename_i n get a b c d p x
    have h : ∀ i, i < n → get i = rowL (rowOf (get i)) := h
    refine ⟨[.slice none n fun i => rowL (rowOf (get i)), .agg [.int .i64 a, .int .i64 b, .int .i64 c, .int .i64 d], .int .i64 p, .int .i64 x], rfl, fun i hi => ?_, .mk _ rfl, rfl⟩
    match i, hi with
    | 0, _ => exact tab_weak h
    | 1, _ => exact .refl _
    | 2, _ => exact .refl _
    | 3, _ => exact .refl _
  · exact h.elim
theorem steamTables_holds : Rows.SteamTablesSaid := by
  refine steamTables_row sf3 fun pvs h => ?_
  cases h with
  | cons h1 h =>
  cases h with
  | cons h2 h =>
  cases h with
  | cons h3 h =>
  cases h with
  | cons h4 h =>
  cases h
  obtain ⟨n, get, rfl, _, hw⟩ := good_tab h1
  obtain ⟨a, b, c, d, rfl⟩ := good_stream h2
  obtain ⟨p, rfl⟩ := good_int1 h3
  obtain ⟨x, rfl⟩ := good_int1 h4
  exact ⟨hw, rfl⟩
#print axioms steamTables_holds
end Go.Proofs.Ytiidjohhcappdaa
