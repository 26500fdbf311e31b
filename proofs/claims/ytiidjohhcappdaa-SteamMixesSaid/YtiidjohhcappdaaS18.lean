/- Layer 1: the chapter's table; the deepest level, of lists as they come. -/
import Derived.Test.YtiidjohhcappdaaS17
import Derived.Test.YtiidjohhcappdaaW2
namespace Go.Proofs.Ytiidjohhcappdaa
open Go.V
set_option linter.unusedSimpArgs false

def three : Nat → Row
  | 0 => ⟨100, 101, 419, 2676, 150⟩
  | 1 => ⟨150, 476, 632, 2746, 300⟩
  | _ => ⟨200, 1555, 852, 2793, 600⟩
def threeS : V.Spec
  | [] => (none, tab 3 three)
  | _ => bad
theorem sf51 : SF Try.prog 51 threeS := by
  refine sf_of types_ok mixed (l := []) trivial (es := []) trivial 0 Try.func51 rfl (by kernel_rfl) fun args h => ?_
  unfold threeS at h
  split at h
  · refine ⟨rfl, ?_⟩
    refine ⟨rfl, .slice _ _ _ _ fun i hi => ?_⟩
    match i, hi with
    | 0, _ => rfl
    | 1, _ => rfl
    | 2, _ => rfl
  · exact h.elim

inductive isTSw (n : Nat) (get : Nat → List PV) (m : Nat) (lget : Nat → List PV) : Prop
  | mk (t : Nat → Row) (l : Nat → Stream) (hn : n < 1000000) (hm : m < 1000000) (e : ∀ i, i < n → get i = rowL (t i)) (e' : ∀ i, i < m → lget i = strL (l i))
  | no (h : False)
noncomputable def deepS : V.Spec
  | [.slice none n get, .slice none m lget] => (some (isTSw n get m lget), .tup [I (deepV n (fun i => rowOf (get i)) m fun i => strOf (lget i)), I (deepE n (fun i => rowOf (get i)) m fun i => strOf (lget i))])
  | _ => bad
theorem sf45 : SF Try.prog 45 deepS := by
  refine sf_args sf45s fun args h => ?_
  unfold deepS at h ⊢
  split at h
  · rename_i n get m lget
    have h : isTSw n get m lget := h
    cases h with
    | no h => exact h.elim
    | mk t l hn hm e e' =>
    refine ⟨[.slice none n fun i => rowL (rowOf (get i)), .slice none m fun i => strL (strOf (lget i))], rfl, fun i hi => ?_, .mk _ _ hn hm rfl rfl, rfl⟩
    match i, hi with
    | 0, _ => exact .slice _ _ _ _ fun i hi => by rw [e i hi]; rfl
    | 1, _ => exact .slice _ _ _ _ fun i hi => by rw [e' i hi]; rfl
  · exact h.elim
theorem three_ok : okT 3 three :=
  ⟨by decide, by decide, ⟨fun i hi => by
    match i, hi with
    | 0, _ => exact ⟨by decide, fun h => absurd h (by decide)⟩
    | 1, _ => exact ⟨by decide, fun _ => by decide⟩
    | 2, _ => exact ⟨by decide, fun _ => by decide⟩⟩⟩
#print axioms sf45
#print axioms sf20
end Go.Proofs.Ytiidjohhcappdaa
