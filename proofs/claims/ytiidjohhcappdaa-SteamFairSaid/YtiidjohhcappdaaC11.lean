/- For any stream and weights, the law on shares answers true: nothing is lost but what rounding leaves, and no part is a kilogram off. No condition. -/
import Derived.Test.YtiidjohhcappdaaVn
import Derived.Test.YtiidjohhcappdaaR0
import Derived.Test.YtiidjohhcappdaaRows
import Derived.Test.YtiidjohhcappdaaA11
namespace Go.Proofs.Ytiidjohhcappdaa
open Go.V Go.ChangeShapes Go.WideShapes Go.ChangeAt Go.RowKit

set_option maxRecDepth 100000 in
theorem steamFair_lifted {sp : V.Spec} (hS : SF Try.prog 11 sp) (hsp : ∀ pvs, GoodAll [sStream, .one (.slice [i1])] pvs → (sp pvs).1.getD True ∧ (sp pvs).2 = .bool true) (os : Os) (started : os.Started) (H : Type) (enc : TypeId × Value → H) :
    ReturnsInHanded {} Try.checked os 11 .any (Rows.steamFairSpec.pre6 enc Try.prog Try.f11 Rows.steamFairRow.domain false) (Rows.steamFairSpec.post enc Try.prog Try.f11 false true false false) := by
  refine returnsInHanded_of_change (C := Try.checked) own started (by kernel_rfl) Try.func11
    (ChangeSpec.witness6 (enc := enc) (C := Try.checked) false ⟨#[], #[.agg #[.int .i64 0, .int .i64 0, .int .i64 0, .int .i64 0], .slice none 0 0], []⟩ 8 (by kernel_rfl) (by kernel_rfl) (by kernel_rfl) (by kernel_rfl)) ?_
  intro W base args ds gs before hval hW _ _
  refine law_calls (shs := [sStream, .one (.slice [i1])]) (tb := 4) laidOut hS (by kernel_rfl) (by kernel_rfl) (by kernel_rfl) rfl (fun H ds h => ?_) hsp W base args ds gs before hval hW
  match ds, h with
  | [_, _], _ => rfl
theorem steamFair_row {sp : V.Spec} (hS : SF Try.prog 11 sp) (hsp : ∀ pvs, GoodAll [sStream, .one (.slice [i1])] pvs → (sp pvs).1.getD True ∧ (sp pvs).2 = .bool true) : Rows.SteamFairSaid :=
  OpenClaim.holds_of_wide 11 Try.f11 rfl rfl rfl rfl rfl rfl rfl ⟨rfl, rfl, rfl, rfl, rfl⟩ rfl rfl rfl rfl rfl (by kernel_rfl) Try.func11 (by kernel_rfl)
    (of_decide_eq_true (by kernel_rfl)) (by unfold Func.isWrapper; rw [if_neg (by decide +kernel)]; exact ⟨rfl, rfl⟩)
    (fun os started H enc _ => steamFair_lifted hS hsp os started H enc)

inductive isFair (n : Nat) (get : Nat → List PV) : Prop
  | mk (w : Nat → Int) (hn : n ≤ 9223372036854775807) (e : get = fun i => intL (w i))
  | no (h : False)
def fairLS : V.Spec
  | [.agg [.int .i64 _, .int .i64 _, .int .i64 _, .int .i64 _], .slice none n get] => (some (isFair n get), .bool true)
  | _ => bad
theorem sf11s : SF Try.prog 11 fairLS := by
  refine sf_each ⟨_, _, Try.func11, by kernel_rfl, rfl⟩ fun args h => ?_
  unfold fairLS at h ⊢
  split at h
  · rename_i a b c d n get
    have h : isFair n get := h
    cases h with
    | no h => exact h.elim
    | mk w hn e =>
    subst e
    show SF Try.prog 11 (V.atS (FARGS a b c d n w) (.bool true))
    by_cases hv : okS ⟨a, b, c, d⟩ ∧ wtB n w = true
    · exact fairV a b c d n w hv.1 hv.2
    · exact fairN a b c d n w hn hv
  · exact h.elim
def fairW : V.Spec
  | [.agg [.int .i64 _, .int .i64 _, .int .i64 _, .int .i64 _], .slice none n get] => (some ((∀ i, i < n → get i = intL (intOf (get i))) ∧ n ≤ 9223372036854775807), .bool true)
  | _ => bad
theorem sf11 : SF Try.prog 11 fairW := by
  refine sf_args sf11s fun args h => ?_
  unfold fairW at h ⊢
  split at h
  · rename_i a b c d n get
    obtain ⟨h', hn⟩ : (∀ i, i < n → get i = intL (intOf (get i))) ∧ n ≤ 9223372036854775807 := h
    refine ⟨[.agg [.int .i64 a, .int .i64 b, .int .i64 c, .int .i64 d], .slice none n fun i => intL (intOf (get i))], rfl, fun i hi => ?_, .mk _ hn rfl, rfl⟩
    match i, hi with
    | 0, _ => exact .refl _
    | 1, _ => exact .slice _ _ _ _ h'
  · exact h.elim
theorem good_ints {pv : PV} (h : GoodA (.one (.slice [i1])) pv) : ∃ n get, pv = .slice none n get ∧ n ≤ maxLen ∧ ∀ i, i < n → get i = intL (intOf (get i)) := by
  cases h with
  | one s pv h =>
    cases h with
    | slice l n get hn hl hg =>
      refine ⟨n, get, rfl, hn, fun i hi => ?_⟩
      have h5 := hl i hi
      have hg := hg i hi
      match hq : get i, h5 with
      | [x], _ =>
        rw [hq] at hg
        obtain ⟨a, ha⟩ := good_int (hg 0 (by decide))
        have ha : x = _ := ha
        subst ha
        rfl
theorem steamFair_holds : Rows.SteamFairSaid := by
  refine steamFair_row sf11 fun pvs h => ?_
  cases h with
  | cons g1 h =>
  cases h with
  | cons g2 h =>
  cases h
  obtain ⟨a, b, c, d, rfl⟩ := good_stream g1
  obtain ⟨m, lget, rfl, hm, hw'⟩ := good_ints g2
  exact ⟨⟨hw', hm⟩, rfl⟩
#print axioms steamFair_holds
end Go.Proofs.Ytiidjohhcappdaa
