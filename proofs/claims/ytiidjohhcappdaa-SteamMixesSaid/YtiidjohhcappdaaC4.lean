/- For any streams, stream and weights, the law on mixes and shares answers true. No condition. -/
import Derived.Test.YtiidjohhcappdaaVn
import Derived.Test.YtiidjohhcappdaaR0
import Derived.Test.YtiidjohhcappdaaRows
import Derived.Test.YtiidjohhcappdaaA4
namespace Go.Proofs.Ytiidjohhcappdaa
open Go.V Go.ChangeShapes Go.WideShapes Go.ChangeAt Go.RowKit

set_option maxRecDepth 100000 in
theorem steamMixes_lifted {sp : V.Spec} (hS : SF Try.prog 4 sp) (hsp : ∀ pvs, GoodAll [.one (.slice [i1, i1, i1, i1]), sStream, .one (.slice [i1])] pvs → (sp pvs).1.getD True ∧ (sp pvs).2 = .bool true) (os : Os) (started : os.Started) (H : Type) (enc : TypeId × Value → H) :
    ReturnsInHanded {} Try.checked os 4 .any (Rows.steamMixesSpec.pre6 enc Try.prog Try.f4 Rows.steamMixesRow.domain false) (Rows.steamMixesSpec.post enc Try.prog Try.f4 false true false false) := by
  refine returnsInHanded_of_change (C := Try.checked) own started (by kernel_rfl) Try.func4
    (ChangeSpec.witness6 (enc := enc) (C := Try.checked) false ⟨#[], #[.slice none 0 0, .agg #[.int .i64 0, .int .i64 0, .int .i64 0, .int .i64 0], .slice none 0 0], []⟩ 8 (by kernel_rfl) (by kernel_rfl) (by kernel_rfl) (by kernel_rfl)) ?_
  intro W base args ds gs before hval hW _ _
  refine law_calls (shs := [.one (.slice [i1, i1, i1, i1]), sStream, .one (.slice [i1])]) (tb := 4) laidOut hS (by kernel_rfl) (by kernel_rfl) (by kernel_rfl) rfl (fun H ds h => ?_) hsp W base args ds gs before hval hW
  match ds, h with
  | [_, _, _], _ => rfl
theorem steamMixes_row {sp : V.Spec} (hS : SF Try.prog 4 sp) (hsp : ∀ pvs, GoodAll [.one (.slice [i1, i1, i1, i1]), sStream, .one (.slice [i1])] pvs → (sp pvs).1.getD True ∧ (sp pvs).2 = .bool true) : Rows.SteamMixesSaid :=
  OpenClaim.holds_of_wide 4 Try.f4 rfl rfl rfl rfl rfl rfl rfl ⟨rfl, rfl, rfl, rfl, rfl⟩ rfl rfl rfl rfl rfl (by kernel_rfl) Try.func4 (by kernel_rfl)
    (of_decide_eq_true (by kernel_rfl)) (by unfold Func.isWrapper; rw [if_neg (by decide +kernel)]; exact ⟨rfl, rfl⟩)
    (fun os started H enc _ => steamMixes_lifted hS hsp os started H enc)

inductive isMx (p : Nat) (sget : Nat → List PV) (n : Nat) (get : Nat → List PV) : Prop
  | mk (s : Nat → Stream) (w : Nat → Int) (hp : p ≤ 9223372036854775807) (hn : n ≤ 9223372036854775807) (e : sget = fun i => strL (s i)) (e' : get = fun i => intL (w i))
  | no (h : False)
def mxLS : V.Spec
  | [.slice none p sget, .agg [.int .i64 _, .int .i64 _, .int .i64 _, .int .i64 _], .slice none n get] => (some (isMx p sget n get), .bool true)
  | _ => bad
theorem sf4s : SF Try.prog 4 mxLS := by
  refine sf_each ⟨_, _, Try.func4, by kernel_rfl, rfl⟩ fun args h => ?_
  unfold mxLS at h ⊢
  split at h
  · rename_i p sget a b c d n get
    have h : isMx p sget n get := h
    cases h with
    | no h => exact h.elim
    | mk s w hp hn e e' =>
    subst e e'
    show SF Try.prog 4 (V.atS (MARGS p s a b c d n w) (.bool true))
    by_cases h45 : 45 < p
    · exact mxA p s a b c d n w h45
    · by_cases h25 : 25 < n
      · exact mxB p s a b c d n w (by omega) h25
      · have h45 : p ≤ 45 := by omega
        have h25 : n ≤ 25 := by omega
        by_cases g : 40 < p
        · skip
          by_cases hx : okS ⟨a, b, c, d⟩
          · cases hwb : wtB n w
            · exact mx1b p s a b c d n w h45 h25 g hx hwb
            · exact mx1c p s a b c d n w h45 h25 g hx hwb
          · exact mx1a p s a b c d n w h45 h25 g hx
        · have g : p ≤ 40 := by omega
          cases hA : allB p fun i => okS (s i)
          · skip
            by_cases hx : okS ⟨a, b, c, d⟩
            · cases hwb : wtB n w
              · exact mx2b p s a b c d n w h45 h25 g hA hx hwb
              · exact mx2c p s a b c d n w h45 h25 g hA hx hwb
            · exact mx2a p s a b c d n w h45 h25 g hA hx
          · by_cases g1 : 1000000 < (sumS s p).m
            · skip
              by_cases hx : okS ⟨a, b, c, d⟩
              · cases hwb : wtB n w
                · exact mx3b p s a b c d n w h45 h25 g hA g1 hx hwb
                · exact mx3c p s a b c d n w h45 h25 g hA g1 hx hwb
              · exact mx3a p s a b c d n w h45 h25 g hA g1 hx
            · by_cases g2 : 1000000000 < (sumS s p).g
              · skip
                by_cases hx : okS ⟨a, b, c, d⟩
                · cases hwb : wtB n w
                  · exact mx4b p s a b c d n w h45 h25 g hA g1 g2 hx hwb
                  · exact mx4c p s a b c d n w h45 h25 g hA g1 g2 hx hwb
                · exact mx4a p s a b c d n w h45 h25 g hA g1 g2 hx
              · skip
                by_cases hx : okS ⟨a, b, c, d⟩
                · cases hwb : wtB n w
                  · exact mx5b p s a b c d n w h45 h25 g hA g1 g2 hx hwb
                  · exact mx5c p s a b c d n w h45 h25 g hA g1 g2 hx hwb
                · exact mx5a p s a b c d n w h45 h25 g hA g1 g2 hx
  · exact h.elim
def mxW : V.Spec
  | [.slice none p sget, .agg [.int .i64 _, .int .i64 _, .int .i64 _, .int .i64 _], .slice none n get] => (some ((∀ i, i < p → sget i = strL (strOf (sget i))) ∧ (∀ i, i < n → get i = intL (intOf (get i))) ∧ p ≤ 9223372036854775807 ∧ n ≤ 9223372036854775807), .bool true)
  | _ => bad
theorem sf4 : SF Try.prog 4 mxW := by
  refine sf_args sf4s fun args h => ?_
  unfold mxW at h ⊢
  split at h
  · rename_i p sget a b c d n get
    obtain ⟨h, h', hp, hn⟩ : (∀ i, i < p → sget i = strL (strOf (sget i))) ∧ (∀ i, i < n → get i = intL (intOf (get i))) ∧ p ≤ 9223372036854775807 ∧ n ≤ 9223372036854775807 := h
    refine ⟨[.slice none p fun i => strL (strOf (sget i)), .agg [.int .i64 a, .int .i64 b, .int .i64 c, .int .i64 d], .slice none n fun i => intL (intOf (get i))], rfl, fun i hi => ?_, .mk _ _ hp hn rfl rfl, rfl⟩
    match i, hi with
    | 0, _ => exact .slice _ _ _ _ h
    | 1, _ => exact .refl _
    | 2, _ => exact .slice _ _ _ _ h'
  · exact h.elim
theorem good_ints {pv : PV} (h : GoodA (.one (.slice [i1])) pv) : ∃ n get, pv = .slice none n get ∧ n ≤ maxLen ∧ ∀ i, i < n → get i = intL (intOf (get i)) := by
  cases h with
  | one s pv h =>
    cases h with
    | slice l n get hn hl hg =>
      refine ⟨n, get, rfl, hn, fun i hi => ?_⟩
      have h5 := hl i hi
      have hg := hg i hi
      match hq : get i, h5 with
      | [x], _ =>
        rw [hq] at hg
        obtain ⟨a, ha⟩ := good_int (hg 0 (by decide))
        have ha : x = _ := ha
        subst ha
        rfl
theorem good_strs {pv : PV} (h : GoodA (.one (.slice [i1, i1, i1, i1])) pv) : ∃ n get, pv = .slice none n get ∧ n ≤ maxLen ∧ ∀ i, i < n → get i = strL (strOf (get i)) := by
  cases h with
  | one s pv h =>
    cases h with
    | slice l n get hn hl hg =>
      refine ⟨n, get, rfl, hn, fun i hi => ?_⟩
      have h5 := hl i hi
      have hg := hg i hi
      match hq : get i, h5 with
      | [x, y, z, u], _ =>
        rw [hq] at hg
        obtain ⟨a, ha⟩ := good_int (hg 0 (by decide))
        obtain ⟨b, hb⟩ := good_int (hg 1 (by decide))
        obtain ⟨c, hc⟩ := good_int (hg 2 (by decide))
        obtain ⟨d, hd⟩ := good_int (hg 3 (by decide))
        have ha : x = _ := ha
        have hb : y = _ := hb
        have hc : z = _ := hc
        have hd : u = _ := hd
        subst ha hb hc hd
        rfl
theorem steamMixes_holds : Rows.SteamMixesSaid := by
  refine steamMixes_row sf4 fun pvs h => ?_
  cases h with
  | cons g1 h =>
  cases h with
  | cons g2 h =>
  cases h with
  | cons g3 h =>
  cases h
  obtain ⟨p, sget, rfl, hp, hw⟩ := good_strs g1
  obtain ⟨a, b, c, d, rfl⟩ := good_stream g2
  obtain ⟨m, lget, rfl, hm, hw'⟩ := good_ints g3
  exact ⟨⟨hw, hw', hp, hm⟩, rfl⟩
#print axioms steamMixes_holds
end Go.Proofs.Ytiidjohhcappdaa
