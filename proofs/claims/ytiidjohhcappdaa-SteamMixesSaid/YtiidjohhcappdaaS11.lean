/- Layer 1: the flash of the program. -/
import Derived.Test.YtiidjohhcappdaaS6
import Derived.Test.YtiidjohhcappdaaS10
import Derived.Test.YtiidjohhcappdaaW2
namespace Go.Proofs.Ytiidjohhcappdaa
open Go.V
set_option linter.unusedSimpArgs false

inductive isTL (n : Nat) (get : Nat → List PV) (m : Nat) (lget : Nat → List PV) : Prop
  | mk (t : Nat → Row) (l : Nat → Int) (hn : n < 1000000) (hm : m < 1000000) (e : get = fun i => rowL (t i)) (e' : ∀ i, i < m → lget i = intL (l i))
  | no (h : False)
noncomputable def chkLE (n : Nat) (t : Nat → Row) (m : Nat) (l : Nat → Int) : Int := bif okTb n t then (bif allB m fun i => 0 ≤ l i ∧ l i ≤ (n : Int) - 1 then 0 else 2) else 1

inductive isTLs (n : Nat) (get : Nat → List PV) (m : Nat) (lget : Nat → List PV) : Prop
  | mk (t : Nat → Row) (l : Nat → Int) (hn : n < 1000000) (hm : m < 1000000) (e : get = fun i => rowL (t i)) (e' : lget = fun i => intL (l i))
  | no (h : False)
noncomputable def chkLS0 : V.Spec
  | [.slice none n get, .slice none m lget] => (some (isTLs n get m lget), I (chkLE n (fun i => rowOf (get i)) m fun i => intOf (lget i)))
  | _ => bad
noncomputable def chkLS : V.Spec
  | [.slice none n get, .slice none m lget] => (some (isTL n get m lget), I (chkLE n (fun i => rowOf (get i)) m fun i => intOf (lget i)))
  | _ => bad
theorem sf67s : SF Try.prog 67 chkLS0 := by
  refine sf_of types_ok mixed (l := [(25, chkTS), (78, everyLS)]) ⟨sf25, sf78, trivial⟩ (es := []) trivial 2 Try.func67 rfl (by kernel_rfl) fun args h => ?_
  unfold chkLS0 at h
  split at h
  · rename_i n get m lget
    have h : isTLs n get m lget := h
    cases h with
    | no h => exact h.elim
    | mk t l hn hm e e' =>
    subst e e'
    have e : (chkLS0 [.slice none n fun i => rowL (t i), .slice none m fun i => intL (l i)]).2 = I (chkLE n t m l) := rfl
    refine ⟨rfl, ?_⟩
    rw [e]
    clear e
    refine ⟨.mk t hn rfl, fun h1 => ?_, fun h1 => ?_⟩
    · refine ⟨rfl, ple_ok ?_⟩
      show (_ : Int) = chkLE n t m l
      cases hT : okTb n t with
      | true => simp only [rowOf_rowL, hT] at h1; exact absurd h1 (by decide)
      | false => simp only [chkLE, rowOf_rowL, hT, cond_false]
    · cases hT : okTb n t with
      | false => simp only [rowOf_rowL, hT] at h1; exact absurd h1 (by decide)
      | true =>
        clear h1
        refine ⟨.mk l hm rfl n _ hn rfl rfl rfl, fun h2 => ?_, fun h2 => ?_⟩
        · have h2 : (!allB m fun i => 0 ≤ l i ∧ l i ≤ (n : Int) - 1) = true := h2
          refine ⟨rfl, ple_ok ?_⟩
          show (_ : Int) = chkLE n t m l
          simp only [Bool.not_eq_true'] at h2
          simp only [chkLE, hT, h2, cond_true, cond_false]
        · have h2 : (!allB m fun i => 0 ≤ l i ∧ l i ≤ (n : Int) - 1) = false := h2
          refine ⟨rfl, ple_ok ?_⟩
          show (_ : Int) = chkLE n t m l
          simp only [Bool.not_eq_false'] at h2
          simp only [chkLE, hT, h2, cond_true]
  · exact h.elim

theorem sf67 : SF Try.prog 67 chkLS := by
  refine sf_args sf67s fun args h => ?_
  unfold chkLS at h ⊢
  split at h
  · rename_i n get m lget
    have h : isTL n get m lget := h
    cases h with
    | no h => exact h.elim
    | mk t l hn hm e e' =>
    subst e
    refine ⟨[.slice none n fun i => rowL (t i), .slice none m fun i => intL (intOf (lget i))], rfl, fun i hi => ?_, .mk t _ hn hm rfl rfl, ?_⟩
    · match i, hi with
      | 0, _ => exact .refl _
      | 1, _ => exact .slice _ _ _ _ fun i hi => by rw [e' i hi]; rfl
    · rfl
  · exact h.elim
end Go.Proofs.Ytiidjohhcappdaa
