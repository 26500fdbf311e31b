/- For any table and any streams, the law on the deepest level answers true: the deepest level is as the document says, or the error is. No condition. -/
import Derived.Test.YtiidjohhcappdaaVn
import Derived.Test.YtiidjohhcappdaaR0
import Derived.Test.YtiidjohhcappdaaRows
import Derived.Test.YtiidjohhcappdaaA7
namespace Go.Proofs.Ytiidjohhcappdaa
open Go.V Go.ChangeShapes Go.WideShapes Go.ChangeAt Go.RowKit

set_option maxRecDepth 100000 in
theorem steamDeepest_lifted {sp : V.Spec} (hS : SF Try.prog 7 sp) (hsp : ∀ pvs, GoodAll [sTab, .one (.slice [i1, i1, i1, i1])] pvs → (sp pvs).1.getD True ∧ (sp pvs).2 = .bool true) (os : Os) (started : os.Started) (H : Type) (enc : TypeId × Value → H) :
    ReturnsInHanded {} Try.checked os 7 .any (Rows.steamDeepestSpec.pre6 enc Try.prog Try.f7 Rows.steamDeepestRow.domain false) (Rows.steamDeepestSpec.post enc Try.prog Try.f7 false true false false) := by
  refine returnsInHanded_of_change (C := Try.checked) own started (by kernel_rfl) Try.func7
    (ChangeSpec.witness6 (enc := enc) (C := Try.checked) false ⟨#[], #[.slice none 0 0, .slice none 0 0], []⟩ 8 (by kernel_rfl) (by kernel_rfl) (by kernel_rfl) (by kernel_rfl)) ?_
  intro W base args ds gs before hval hW _ _
  refine law_calls (shs := [sTab, .one (.slice [i1, i1, i1, i1])]) (tb := 4) laidOut hS (by kernel_rfl) (by kernel_rfl) (by kernel_rfl) rfl (fun H ds h => ?_) hsp W base args ds gs before hval hW
  match ds, h with
  | [_, _], _ => rfl
theorem steamDeepest_row {sp : V.Spec} (hS : SF Try.prog 7 sp) (hsp : ∀ pvs, GoodAll [sTab, .one (.slice [i1, i1, i1, i1])] pvs → (sp pvs).1.getD True ∧ (sp pvs).2 = .bool true) : Rows.SteamDeepestSaid :=
  OpenClaim.holds_of_wide 7 Try.f7 rfl rfl rfl rfl rfl rfl rfl ⟨rfl, rfl, rfl, rfl, rfl⟩ rfl rfl rfl rfl rfl (by kernel_rfl) Try.func7 (by kernel_rfl)
    (of_decide_eq_true (by kernel_rfl)) (by unfold Func.isWrapper; rw [if_neg (by decide +kernel)]; exact ⟨rfl, rfl⟩)
    (fun os started H enc _ => steamDeepest_lifted hS hsp os started H enc)

inductive isDeep (n : Nat) (get : Nat → List PV) (m : Nat) (lget : Nat → List PV) : Prop
  | mk (t : Nat → Row) (l : Nat → Stream) (e : get = fun i => rowL (t i)) (e' : lget = fun i => strL (l i))
  | no (h : False)
def deepLS : V.Spec
  | [.slice none n get, .slice none m lget] => (some (isDeep n get m lget), .bool true)
  | _ => bad
theorem sf7s : SF Try.prog 7 deepLS := by
  refine sf_each ⟨_, _, Try.func7, by kernel_rfl, rfl⟩ fun args h => ?_
  unfold deepLS at h ⊢
  split at h
  · rename_i n get m lget
    have h : isDeep n get m lget := h
    cases h with
    | no h => exact h.elim
    | mk t l e e' =>
    subst e e'
    show SF Try.prog 7 (V.atS [tab n t, strs m l] (.bool true))
    by_cases hn : n ≤ 30
    · by_cases hm : m ≤ 45
      · cases hT : okTb n t
        · exact deepC n t m l hn hm hT
        · by_cases h40 : m ≤ 40
          · by_cases h0 : m = 0
            · subst h0
              exact deepZ n t l hn hT
            · cases hA : allB m fun i => okS (l i)
              · exact deepF n t m l hn h40 (by omega) hT hA
              · by_cases hD : dp t m l n = n
                · exact deepG n t m l hn h40 (by omega) hT hA hD
                · exact deepH n t m l hn h40 (by omega) hT hA hD
          · exact deepD n t m l hn hm hT (by omega)
      · exact deepB n t m l hn (by omega)
    · exact deepA n t m l (by omega)
  · exact h.elim
def deepLW : V.Spec
  | [.slice none n get, .slice none m lget] => (some ((∀ i, i < n → get i = rowL (rowOf (get i))) ∧ ∀ i, i < m → lget i = strL (strOf (lget i))), .bool true)
  | _ => bad
theorem sf7 : SF Try.prog 7 deepLW := by
  refine sf_args sf7s fun args h => ?_
  unfold deepLW at h ⊢
  split at h
  · rename_i n get m lget
    obtain ⟨h, h'⟩ : (∀ i, i < n → get i = rowL (rowOf (get i))) ∧ ∀ i, i < m → lget i = strL (strOf (lget i)) := h
    refine ⟨[.slice none n fun i => rowL (rowOf (get i)), .slice none m fun i => strL (strOf (lget i))], rfl, fun i hi => ?_, .mk _ _ rfl rfl, rfl⟩
    match i, hi with
    | 0, _ => exact tab_weak h
    | 1, _ => exact .slice _ _ _ _ h'
  · exact h.elim
theorem good_strs {pv : PV} (h : GoodA (.one (.slice [i1, i1, i1, i1])) pv) : ∃ n get, pv = .slice none n get ∧ n ≤ maxLen ∧ ∀ i, i < n → get i = strL (strOf (get i)) := by
  cases h with
  | one s pv h =>
    cases h with
    | slice l n get hn hl hg =>
      refine ⟨n, get, rfl, hn, fun i hi => ?_⟩
      have h5 := hl i hi
      have hg := hg i hi
      match hq : get i, h5 with
      | [x, y, z, u], _ =>
        rw [hq] at hg
        obtain ⟨a, ha⟩ := good_int (hg 0 (by decide))
        obtain ⟨b, hb⟩ := good_int (hg 1 (by decide))
        obtain ⟨c, hc⟩ := good_int (hg 2 (by decide))
        obtain ⟨d, hd⟩ := good_int (hg 3 (by decide))
        have ha : x = _ := ha
        have hb : y = _ := hb
        have hc : z = _ := hc
        have hd : u = _ := hd
        subst ha hb hc hd
        rfl
theorem steamDeepest_holds : Rows.SteamDeepestSaid := by
  refine steamDeepest_row sf7 fun pvs h => ?_
  cases h with
  | cons g1 h =>
  cases h with
  | cons g2 h =>
  cases h
  obtain ⟨n, get, rfl, _, hw⟩ := good_tab g1
  obtain ⟨m, lget, rfl, _, hw'⟩ := good_strs g2
  exact ⟨⟨hw, hw'⟩, rfl⟩
#print axioms steamDeepest_holds
end Go.Proofs.Ytiidjohhcappdaa
