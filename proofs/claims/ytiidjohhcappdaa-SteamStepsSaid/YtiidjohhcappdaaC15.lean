/- For any table, levels, stream and number, the law on trains answers true: a train of one level is the flash, and a train is the train of its first levels and that of the others with the water that is left. No condition. -/
import Derived.Test.YtiidjohhcappdaaVn
import Derived.Test.YtiidjohhcappdaaR0
import Derived.Test.YtiidjohhcappdaaRows
import Derived.Test.YtiidjohhcappdaaA15
namespace Go.Proofs.Ytiidjohhcappdaa
open Go.V Go.ChangeShapes Go.WideShapes Go.ChangeAt Go.RowKit

set_option maxRecDepth 100000 in
theorem steamSteps_lifted {sp : V.Spec} (hS : SF Try.prog 15 sp) (hsp : ∀ pvs, GoodAll [sTab, .one (.slice [i1]), sStream, .one (.int .u8)] pvs → (sp pvs).1.getD True ∧ (sp pvs).2 = .bool true) (os : Os) (started : os.Started) (H : Type) (enc : TypeId × Value → H) :
    ReturnsInHanded {} Try.checked os 15 .any (Rows.steamStepsSpec.pre6 enc Try.prog Try.f15 Rows.steamStepsRow.domain false) (Rows.steamStepsSpec.post enc Try.prog Try.f15 false true false false) := by
  refine returnsInHanded_of_change (C := Try.checked) own started (by kernel_rfl) Try.func15
    (ChangeSpec.witness6 (enc := enc) (C := Try.checked) false ⟨#[], #[.slice none 0 0, .slice none 0 0, .agg #[.int .i64 0, .int .i64 0, .int .i64 0, .int .i64 0], .int .u8 0], []⟩ 8 (by kernel_rfl) (by kernel_rfl) (by kernel_rfl) (by kernel_rfl)) ?_
  intro W base args ds gs before hval hW _ _
  refine law_calls (shs := [sTab, .one (.slice [i1]), sStream, .one (.int .u8)]) (tb := 4) laidOut hS (by kernel_rfl) (by kernel_rfl) (by kernel_rfl) rfl (fun H ds h => ?_) hsp W base args ds gs before hval hW
  match ds, h with
  | [_, _, _, _], _ => rfl
theorem steamSteps_row {sp : V.Spec} (hS : SF Try.prog 15 sp) (hsp : ∀ pvs, GoodAll [sTab, .one (.slice [i1]), sStream, .one (.int .u8)] pvs → (sp pvs).1.getD True ∧ (sp pvs).2 = .bool true) : Rows.SteamStepsSaid :=
  OpenClaim.holds_of_wide 15 Try.f15 rfl rfl rfl rfl rfl rfl rfl ⟨rfl, rfl, rfl, rfl, rfl⟩ rfl rfl rfl rfl rfl (by kernel_rfl) Try.func15 (by kernel_rfl)
    (of_decide_eq_true (by kernel_rfl)) (by unfold Func.isWrapper; rw [if_neg (by decide +kernel)]; exact ⟨rfl, rfl⟩)
    (fun os started H enc _ => steamSteps_lifted hS hsp os started H enc)

inductive isSteps (n : Nat) (get : Nat → List PV) (m : Nat) (lget : Nat → List PV) (f : Int) : Prop
  | mk (t : Nat → Row) (l : Nat → Int) (hn : n ≤ 9223372036854775807) (hm : m ≤ 9223372036854775807) (hf : 0 ≤ f ∧ f ≤ 255) (e : get = fun i => rowL (t i)) (e' : lget = fun i => intL (l i))
  | no (h : False)
def stepsLS : V.Spec
  | [.slice none n get, .slice none m lget, .agg [.int .i64 _, .int .i64 _, .int .i64 _, .int .i64 _], .int .u8 f] => (some (isSteps n get m lget f), .bool true)
  | _ => bad
theorem sf15s : SF Try.prog 15 stepsLS := by
  refine sf_each ⟨_, _, Try.func15, by kernel_rfl, rfl⟩ fun args h => ?_
  unfold stepsLS at h ⊢
  split at h
  · rename_i n get m lget a b c d f
    have h : isSteps n get m lget f := h
    cases h with
    | no h => exact h.elim
    | mk t l hn hm hf e e' =>
    subst e e'
    show SF Try.prog 15 (V.atS [tab n t, .slice none m (fun i => intL (l i)), encS ⟨a, b, c, d⟩, .int .u8 f] (.bool true))
    cases hT : okTb n t
    · exact stepsA n t m l a b c d f hn hT
    · cases hL : lvB n m l
      · exact stepsB n t m l a b c d f hn hm hT hL
      · cases hx : decide (okS ⟨a, b, c, d⟩)
        · exact stepsC n t m l a b c d f hn hm hT hL hx
        · have h0 : 0 ≤ f.tmod (m : Int) := Int.tmod_nonneg _ hf.1
          obtain ⟨k, hk⟩ : ∃ k : Nat, 1 + f.tmod (m : Int) = (k : Int) := ⟨(1 + f.tmod (m : Int)).toNat, by omega⟩
          exact stepsD n t m l a b c d f hn hm hf hT hL hx k hk
  · exact h.elim
def stepsW : V.Spec
  | [.slice none n get, .slice none m lget, .agg [.int .i64 _, .int .i64 _, .int .i64 _, .int .i64 _], .int .u8 f] => (some ((∀ i, i < n → get i = rowL (rowOf (get i))) ∧ (∀ i, i < m → lget i = intL (intOf (lget i))) ∧ n ≤ 9223372036854775807 ∧ m ≤ 9223372036854775807 ∧ 0 ≤ f ∧ f ≤ 255), .bool true)
  | _ => bad
theorem sf15 : SF Try.prog 15 stepsW := by
  refine sf_args sf15s fun args h => ?_
  unfold stepsW at h ⊢
  split at h
  · rename_i n get m lget a b c d f
    obtain ⟨h, h', hn, hm, hf⟩ : (∀ i, i < n → get i = rowL (rowOf (get i))) ∧ (∀ i, i < m → lget i = intL (intOf (lget i))) ∧ n ≤ 9223372036854775807 ∧ m ≤ 9223372036854775807 ∧ 0 ≤ f ∧ f ≤ 255 := h
    refine ⟨[.slice none n fun i => rowL (rowOf (get i)), .slice none m fun i => intL (intOf (lget i)), .agg [.int .i64 a, .int .i64 b, .int .i64 c, .int .i64 d], .int .u8 f], rfl, fun i hi => ?_, .mk _ _ hn hm hf rfl rfl, rfl⟩
    match i, hi with
    | 0, _ => exact tab_weak h
    | 1, _ => exact .slice _ _ _ _ h'
    | 2, _ => exact .refl _
    | 3, _ => exact .refl _
  · exact h.elim
theorem good_ints {pv : PV} (h : GoodA (.one (.slice [i1])) pv) : ∃ n get, pv = .slice none n get ∧ n ≤ maxLen ∧ ∀ i, i < n → get i = intL (intOf (get i)) := by
  cases h with
  | one s pv h =>
    cases h with
    | slice l n get hn hl hg =>
      refine ⟨n, get, rfl, hn, fun i hi => ?_⟩
      have h5 := hl i hi
      have hg := hg i hi
      match hq : get i, h5 with
      | [x], _ =>
        rw [hq] at hg
        obtain ⟨a, ha⟩ := good_int (hg 0 (by decide))
        have ha : x = _ := ha
        subst ha
        rfl
theorem steamSteps_holds : Rows.SteamStepsSaid := by
  refine steamSteps_row sf15 fun pvs h => ?_
  cases h with
  | cons g1 h =>
  cases h with
  | cons g2 h =>
  cases h with
  | cons g3 h =>
  cases h with
  | cons g4 h =>
  cases h
  obtain ⟨n, get, rfl, hn, hw⟩ := good_tab g1
  obtain ⟨m, lget, rfl, hm, hw'⟩ := good_ints g2
  obtain ⟨a, b, c, d, rfl⟩ := good_stream g3
  obtain ⟨f, rfl, hf⟩ := good_u8 g4
  exact ⟨⟨hw, hw', hn, hm, hf⟩, rfl⟩
#print axioms steamSteps_holds
end Go.Proofs.Ytiidjohhcappdaa
