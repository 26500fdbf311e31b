/- For any table and any streams, the law on what is safe answers true: at the deepest level and above it nothing falls out of any stream, at the level below it something does; if there is none, something falls out at the highest one. No condition. -/
import Derived.Test.YtiidjohhcappdaaVn
import Derived.Test.YtiidjohhcappdaaR0
import Derived.Test.YtiidjohhcappdaaRows
import Derived.Test.YtiidjohhcappdaaA14
namespace Go.Proofs.Ytiidjohhcappdaa
open Go.V Go.ChangeShapes Go.WideShapes Go.ChangeAt Go.RowKit

set_option maxRecDepth 100000 in
theorem steamSafe_lifted {sp : V.Spec} (hS : SF Try.prog 14 sp) (hsp : ∀ pvs, GoodAll [sTab, .one (.slice [i1, i1, i1, i1])] pvs → (sp pvs).1.getD True ∧ (sp pvs).2 = .bool true) (os : Os) (started : os.Started) (H : Type) (enc : TypeId × Value → H) :
    ReturnsInHanded {} Try.checked os 14 .any (Rows.steamSafeSpec.pre6 enc Try.prog Try.f14 Rows.steamSafeRow.domain false) (Rows.steamSafeSpec.post enc Try.prog Try.f14 false true false false) := by
  refine returnsInHanded_of_change (C := Try.checked) own started (by kernel_rfl) Try.func14
    (ChangeSpec.witness6 (enc := enc) (C := Try.checked) false ⟨#[], #[.slice none 0 0, .slice none 0 0], []⟩ 8 (by kernel_rfl) (by kernel_rfl) (by kernel_rfl) (by kernel_rfl)) ?_
  intro W base args ds gs before hval hW _ _
  refine law_calls (shs := [sTab, .one (.slice [i1, i1, i1, i1])]) (tb := 4) laidOut hS (by kernel_rfl) (by kernel_rfl) (by kernel_rfl) rfl (fun H ds h => ?_) hsp W base args ds gs before hval hW
  match ds, h with
  | [_, _], _ => rfl
theorem steamSafe_row {sp : V.Spec} (hS : SF Try.prog 14 sp) (hsp : ∀ pvs, GoodAll [sTab, .one (.slice [i1, i1, i1, i1])] pvs → (sp pvs).1.getD True ∧ (sp pvs).2 = .bool true) : Rows.SteamSafeSaid :=
  OpenClaim.holds_of_wide 14 Try.f14 rfl rfl rfl rfl rfl rfl rfl ⟨rfl, rfl, rfl, rfl, rfl⟩ rfl rfl rfl rfl rfl (by kernel_rfl) Try.func14 (by kernel_rfl)
    (of_decide_eq_true (by kernel_rfl)) (by unfold Func.isWrapper; rw [if_neg (by decide +kernel)]; exact ⟨rfl, rfl⟩)
    (fun os started H enc _ => steamSafe_lifted hS hsp os started H enc)

inductive isSafe (n : Nat) (get : Nat → List PV) (m : Nat) (lget : Nat → List PV) : Prop
  | mk (t : Nat → Row) (l : Nat → Stream) (hn : n ≤ 9223372036854775807) (e : get = fun i => rowL (t i)) (e' : lget = fun i => strL (l i))
  | no (h : False)
def safeLS : V.Spec
  | [.slice none n get, .slice none m lget] => (some (isSafe n get m lget), .bool true)
  | _ => bad
theorem sf14s : SF Try.prog 14 safeLS := by
  refine sf_each ⟨_, _, Try.func14, by kernel_rfl, rfl⟩ fun args h => ?_
  unfold safeLS at h ⊢
  split at h
  · rename_i n get m lget
    have h : isSafe n get m lget := h
    cases h with
    | no h => exact h.elim
    | mk t l hn e e' =>
    subst e e'
    show SF Try.prog 14 (V.atS [tab n t, strs m l] (.bool true))
    cases hT : okTb n t
    · exact safeA n t m l hn hT
    · by_cases h0 : m = 0
      · exact safeB n t m l hn hT h0
      · by_cases h40 : m ≤ 40
        · cases hA : allB m fun i => okS (l i)
          · exact safeD n t m l hn hT (by omega) h40 hA
          · by_cases hD : dp t m l n = n
            · exact safeE n t m l hn hT (by omega) h40 hA hD
            · exact safeF n t m l hn hT (by omega) h40 hA _ rfl (by have := dp_le t m l n; omega)
        · exact safeC n t m l hn hT (by omega)
  · exact h.elim
def safeLW : V.Spec
  | [.slice none n get, .slice none m lget] => (some ((∀ i, i < n → get i = rowL (rowOf (get i))) ∧ (∀ i, i < m → lget i = strL (strOf (lget i))) ∧ n ≤ 9223372036854775807), .bool true)
  | _ => bad
theorem sf14 : SF Try.prog 14 safeLW := by
  refine sf_args sf14s fun args h => ?_
  unfold safeLW at h ⊢
  split at h
  · rename_i n get m lget
    obtain ⟨h, h', hn⟩ : (∀ i, i < n → get i = rowL (rowOf (get i))) ∧ (∀ i, i < m → lget i = strL (strOf (lget i))) ∧ n ≤ 9223372036854775807 := h
    refine ⟨[.slice none n fun i => rowL (rowOf (get i)), .slice none m fun i => strL (strOf (lget i))], rfl, fun i hi => ?_, .mk _ _ hn rfl rfl, rfl⟩
    match i, hi with
    | 0, _ => exact tab_weak h
    | 1, _ => exact .slice _ _ _ _ h'
  · exact h.elim
theorem good_strs {pv : PV} (h : GoodA (.one (.slice [i1, i1, i1, i1])) pv) : ∃ n get, pv = .slice none n get ∧ n ≤ maxLen ∧ ∀ i, i < n → get i = strL (strOf (get i)) := by
  cases h with
  | one s pv h =>
    cases h with
    | slice l n get hn hl hg =>
      refine ⟨n, get, rfl, hn, fun i hi => ?_⟩
      have h5 := hl i hi
      have hg := hg i hi
      match hq : get i, h5 with
      | [x, y, z, u], _ =>
        rw [hq] at hg
        obtain ⟨a, ha⟩ := good_int (hg 0 (by decide))
        obtain ⟨b, hb⟩ := good_int (hg 1 (by decide))
        obtain ⟨c, hc⟩ := good_int (hg 2 (by decide))
        obtain ⟨d, hd⟩ := good_int (hg 3 (by decide))
        have ha : x = _ := ha
        have hb : y = _ := hb
        have hc : z = _ := hc
        have hd : u = _ := hd
        subst ha hb hc hd
        rfl
theorem steamSafe_holds : Rows.SteamSafeSaid := by
  refine steamSafe_row sf14 fun pvs h => ?_
  cases h with
  | cons g1 h =>
  cases h with
  | cons g2 h =>
  cases h
  obtain ⟨n, get, rfl, hn, hw⟩ := good_tab g1
  obtain ⟨m, lget, rfl, _, hw'⟩ := good_strs g2
  exact ⟨⟨hw, hw', hn⟩, rfl⟩
#print axioms steamSafe_holds
end Go.Proofs.Ytiidjohhcappdaa
