/- For any table, levels, streams and number, the law on what is kept answers true: mass, heat, silica and gas are kept by a train, with its scales, by a sum, and by an exchange. No condition. -/
import Derived.Test.YtiidjohhcappdaaVn
import Derived.Test.YtiidjohhcappdaaR0
import Derived.Test.YtiidjohhcappdaaRows
import Derived.Test.YtiidjohhcappdaaA10
namespace Go.Proofs.Ytiidjohhcappdaa
open Go.V Go.ChangeShapes Go.WideShapes Go.ChangeAt Go.RowKit

set_option maxRecDepth 100000 in
theorem steamKeeps_lifted {sp : V.Spec} (hS : SF Try.prog 10 sp) (hsp : ∀ pvs, GoodAll [sTab, .one (.slice [i1]), .one (.slice [i1, i1, i1, i1]), .one (.int .u32)] pvs → (sp pvs).1.getD True ∧ (sp pvs).2 = .bool true) (os : Os) (started : os.Started) (H : Type) (enc : TypeId × Value → H) :
    ReturnsInHanded {} Try.checked os 10 .any (Rows.steamKeepsSpec.pre6 enc Try.prog Try.f10 Rows.steamKeepsRow.domain false) (Rows.steamKeepsSpec.post enc Try.prog Try.f10 false true false false) := by
  refine returnsInHanded_of_change (C := Try.checked) own started (by kernel_rfl) Try.func10
    (ChangeSpec.witness6 (enc := enc) (C := Try.checked) false ⟨#[], #[.slice none 0 0, .slice none 0 0, .slice none 0 0, .int .u32 0], []⟩ 8 (by kernel_rfl) (by kernel_rfl) (by kernel_rfl) (by kernel_rfl)) ?_
  intro W base args ds gs before hval hW _ _
  refine law_calls (shs := [sTab, .one (.slice [i1]), .one (.slice [i1, i1, i1, i1]), .one (.int .u32)]) (tb := 4) laidOut hS (by kernel_rfl) (by kernel_rfl) (by kernel_rfl) rfl (fun H ds h => ?_) hsp W base args ds gs before hval hW
  match ds, h with
  | [_, _, _, _], _ => rfl
theorem steamKeeps_row {sp : V.Spec} (hS : SF Try.prog 10 sp) (hsp : ∀ pvs, GoodAll [sTab, .one (.slice [i1]), .one (.slice [i1, i1, i1, i1]), .one (.int .u32)] pvs → (sp pvs).1.getD True ∧ (sp pvs).2 = .bool true) : Rows.SteamKeepsSaid :=
  OpenClaim.holds_of_wide 10 Try.f10 rfl rfl rfl rfl rfl rfl rfl ⟨rfl, rfl, rfl, rfl, rfl⟩ rfl rfl rfl rfl rfl (by kernel_rfl) Try.func10 (by kernel_rfl)
    (of_decide_eq_true (by kernel_rfl)) (by unfold Func.isWrapper; rw [if_neg (by decide +kernel)]; exact ⟨rfl, rfl⟩)
    (fun os started H enc _ => steamKeeps_lifted hS hsp os started H enc)

inductive isKp (n : Nat) (get : Nat → List PV) (m : Nat) (lget : Nat → List PV) (p : Nat) (sget : Nat → List PV) (b : Int) : Prop
  | mk (t : Nat → Row) (l : Nat → Int) (s : Nat → Stream) (hn : n ≤ 9223372036854775807) (hm : m ≤ 9223372036854775807) (hb : 0 ≤ b ∧ b ≤ 4294967295) (e : get = fun i => rowL (t i)) (e' : lget = fun i => intL (l i)) (e2 : sget = fun i => strL (s i))
  | no (h : False)
def kpLS : V.Spec
  | [.slice none n get, .slice none m lget, .slice none p sget, .int .u32 b] => (some (isKp n get m lget p sget b), .bool true)
  | _ => bad
theorem sf10s : SF Try.prog 10 kpLS := by
  refine sf_each ⟨_, _, Try.func10, by kernel_rfl, rfl⟩ fun args h => ?_
  unfold kpLS at h ⊢
  split at h
  · rename_i n get m lget p sget b
    have h : isKp n get m lget p sget b := h
    cases h with
    | no h => exact h.elim
    | mk t l s hn hm hb e e' e2 =>
    subst e e' e2
    show SF Try.prog 10 (V.atS [tab n t, .slice none m (fun i => intL (l i)), .slice none p (fun i => strL (s i)), .int .u32 b] (.bool true))
    cases hT : okTb n t
    · exact kpA n t m l p s b hn hT
    · cases hL : lvB n m l
      · exact kpB n t m l p s b hn hm hT hL
      · by_cases hp0 : p = 0
        · exact kpC n t m l p s b hn hm hT hL hp0
        · by_cases hp : p ≤ 40
          · cases hA : allB p fun i => okS (s i)
            · exact kpE n t m l p s b hn hm hT hL (by omega) hp hA
            · have hxs := (allB_get hA).all
              have hc : chkStr p s = 0 := by
                unfold chkStr
                rw [if_neg (by omega), hA]; rfl
              by_cases hX : 0 ≤ b ∧ b ≤ (s 0).h ∧ b ≤ 4000 * (s (IntKind.i64.wrap ((p : Int) - 1)).toNat).m - (s (IntKind.i64.wrap ((p : Int) - 1)).toNat).h
              · by_cases h1 : 1000000 < (sumS s p).m
                · exact kpm0 n t m l p s b hn hm hb hT hL (by omega) hp hA (by unfold mixE; rw [if_pos hc, if_pos (.inl h1)]) h1 hX
                · by_cases h2 : 1000000000 < (sumS s p).g
                  · exact kpg0 n t m l p s b hn hm hb hT hL (by omega) hp hA (by unfold mixE; rw [if_pos hc, if_pos (.inr h2)]) (by omega) h2 hX
                  · exact kp00 n t m l p s b hn hm hb hT hL (by omega) hp hA (by unfold mixE; rw [if_pos hc, if_neg (by rintro (h | h) <;> omega)]) hX
              · by_cases h1 : 1000000 < (sumS s p).m
                · exact kpm2 n t m l p s b hn hm hb hT hL (by omega) hp hA (by unfold mixE; rw [if_pos hc, if_pos (.inl h1)]) h1 hX
                · by_cases h2 : 1000000000 < (sumS s p).g
                  · exact kpg2 n t m l p s b hn hm hb hT hL (by omega) hp hA (by unfold mixE; rw [if_pos hc, if_pos (.inr h2)]) (by omega) h2 hX
                  · exact kp02 n t m l p s b hn hm hb hT hL (by omega) hp hA (by unfold mixE; rw [if_pos hc, if_neg (by rintro (h | h) <;> omega)]) hX
          · exact kpD n t m l p s b hn hm hT hL (by omega)
  · exact h.elim
def kpW : V.Spec
  | [.slice none n get, .slice none m lget, .slice none p sget, .int .u32 b] => (some ((∀ i, i < n → get i = rowL (rowOf (get i))) ∧ (∀ i, i < m → lget i = intL (intOf (lget i))) ∧ (∀ i, i < p → sget i = strL (strOf (sget i))) ∧ n ≤ 9223372036854775807 ∧ m ≤ 9223372036854775807 ∧ 0 ≤ b ∧ b ≤ 4294967295), .bool true)
  | _ => bad
theorem sf10 : SF Try.prog 10 kpW := by
  refine sf_args sf10s fun args h => ?_
  unfold kpW at h ⊢
  split at h
  · rename_i n get m lget p sget b
    obtain ⟨h, h', h2, hn, hm, hb⟩ : (∀ i, i < n → get i = rowL (rowOf (get i))) ∧ (∀ i, i < m → lget i = intL (intOf (lget i))) ∧ (∀ i, i < p → sget i = strL (strOf (sget i))) ∧ n ≤ 9223372036854775807 ∧ m ≤ 9223372036854775807 ∧ 0 ≤ b ∧ b ≤ 4294967295 := h
    refine ⟨[.slice none n fun i => rowL (rowOf (get i)), .slice none m fun i => intL (intOf (lget i)), .slice none p fun i => strL (strOf (sget i)), .int .u32 b], rfl, fun i hi => ?_, .mk _ _ _ hn hm hb rfl rfl rfl, rfl⟩
    match i, hi with
    | 0, _ => exact tab_weak h
    | 1, _ => exact .slice _ _ _ _ h'
    | 2, _ => exact .slice _ _ _ _ h2
    | 3, _ => exact .refl _
  · exact h.elim
theorem good_ints {pv : PV} (h : GoodA (.one (.slice [i1])) pv) : ∃ n get, pv = .slice none n get ∧ n ≤ maxLen ∧ ∀ i, i < n → get i = intL (intOf (get i)) := by
  cases h with
  | one s pv h =>
    cases h with
    | slice l n get hn hl hg =>
      refine ⟨n, get, rfl, hn, fun i hi => ?_⟩
      have h5 := hl i hi
      have hg := hg i hi
      match hq : get i, h5 with
      | [x], _ =>
        rw [hq] at hg
        obtain ⟨a, ha⟩ := good_int (hg 0 (by decide))
        have ha : x = _ := ha
        subst ha
        rfl
theorem good_strs {pv : PV} (h : GoodA (.one (.slice [i1, i1, i1, i1])) pv) : ∃ n get, pv = .slice none n get ∧ n ≤ maxLen ∧ ∀ i, i < n → get i = strL (strOf (get i)) := by
  cases h with
  | one s pv h =>
    cases h with
    | slice l n get hn hl hg =>
      refine ⟨n, get, rfl, hn, fun i hi => ?_⟩
      have h5 := hl i hi
      have hg := hg i hi
      match hq : get i, h5 with
      | [x, y, z, u], _ =>
        rw [hq] at hg
        obtain ⟨a, ha⟩ := good_int (hg 0 (by decide))
        obtain ⟨b, hb⟩ := good_int (hg 1 (by decide))
        obtain ⟨c, hc⟩ := good_int (hg 2 (by decide))
        obtain ⟨d, hd⟩ := good_int (hg 3 (by decide))
        have ha : x = _ := ha
        have hb : y = _ := hb
        have hc : z = _ := hc
        have hd : u = _ := hd
        subst ha hb hc hd
        rfl
theorem steamKeeps_holds : Rows.SteamKeepsSaid := by
  refine steamKeeps_row sf10 fun pvs h => ?_
  cases h with
  | cons g1 h =>
  cases h with
  | cons g2 h =>
  cases h with
  | cons g3 h =>
  cases h with
  | cons g4 h =>
  cases h
  obtain ⟨n, get, rfl, hn, hw⟩ := good_tab g1
  obtain ⟨m, lget, rfl, hm, hw'⟩ := good_ints g2
  obtain ⟨p, sget, rfl, _, hw2⟩ := good_strs g3
  obtain ⟨b, rfl, hb⟩ := good_u32 g4
  exact ⟨⟨hw, hw', hw2, hn, hm, hb⟩, rfl⟩
#print axioms steamKeeps_holds
end Go.Proofs.Ytiidjohhcappdaa
