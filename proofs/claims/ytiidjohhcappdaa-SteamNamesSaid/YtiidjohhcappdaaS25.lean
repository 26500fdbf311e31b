/- Layer 1: trains of the program. -/
import Derived.Test.YtiidjohhcappdaaM15
import Derived.Test.YtiidjohhcappdaaW2
namespace Go.Proofs.Ytiidjohhcappdaa
open Go.V
set_option linter.unusedSimpArgs false

/-- What goes into a train's flash: the water that is left. -/
def trW (t : Nat → Row) (l : Nat → Int) (x : Stream) : Nat → Stream
  | 0 => x
  | i + 1 => wat (partsV (t (l i).toNat) (trW t l x i))
def trP (t : Nat → Row) (l : Nat → Int) (x : Stream) (i : Nat) : Parts := partsV (t (l i).toNat) (trW t l x i)
def partL (p : Parts) : List PV := [I p.sm, I p.sh, I p.ss, I p.sg, I p.wm, I p.wh, I p.ws, I p.wg, I p.rest, I p.scale]
noncomputable def trB (m : Nat) (l : Nat → Int) : Bool := bif Nat.ble 1 m && Nat.ble m 20 then allB m fun i => 0 < i → l i < l (i - 1) else false
noncomputable def isTrainS : V.Spec
  | [.slice none m lget] => (some (isInts m lget), .bool (trB m fun i => intOf (lget i)))
  | _ => bad
theorem trB_len {m : Nat} {l : Nat → Int} (h : trB m l = true) : 1 ≤ m ∧ m ≤ 20 ∧ Upto (fun i => 0 < i → l i < l (i - 1)) m := by
  unfold trB at h
  cases hb : (Nat.ble 1 m && Nat.ble m 20) with
  | false => rw [hb] at h; cases h
  | true =>
    rw [hb] at h
    rw [Bool.and_eq_true] at hb
    exact ⟨Nat.le_of_ble_eq_true hb.1, Nat.le_of_ble_eq_true hb.2, allB_get h⟩
theorem trB_no {m : Nat} {l : Nat → Int} (h : ¬ (1 ≤ m ∧ m ≤ 20)) : trB m l = false := by
  cases hb : trB m l with
  | false => rfl
  | true => exact (h ⟨(trB_len hb).1, (trB_len hb).2.1⟩).elim
theorem trB_f {m : Nat} {l : Nat → Int} {k : Nat} (hk : k < m) (h0 : 0 < k) (h : ¬ l k < l (k - 1)) : trB m l = false := by
  cases hb : trB m l with
  | false => rfl
  | true => exact (h ((trB_len hb).2.2.all k hk h0)).elim
theorem trB_t {m : Nat} {l : Nat → Int} (h1 : 1 ≤ m) (h2 : m ≤ 20) (h : Upto (fun i => 0 < i → l i < l (i - 1)) m) : trB m l = true := by
  unfold trB
  rw [Nat.ble_eq_true_of_le h1, Nat.ble_eq_true_of_le h2]
  exact allB_t h

theorem sf69 : SF Try.prog 69 isTrainS := by
  refine sf_of types_ok mixed (l := [(56, inS)]) ⟨sf56, trivial⟩ (es := []) trivial 1 Try.func69 rfl (by kernel_rfl) fun args h => ?_
  unfold isTrainS at h
  split at h
  · rename_i m lget
    obtain ⟨hm, l, rfl⟩ := isInts.get h
    clear h
    have e : (isTrainS [.slice none m fun i => intL (l i)]).2 = .bool (trB m l) := rfl
    refine ⟨rfl, ?_⟩
    rw [e]
    clear e
    refine ⟨fun h1 => ?_, fun h1 => ?_⟩
    · have h1 : (!decide ((1 : Int) ≤ (m : Int) ∧ (m : Int) ≤ 20)) = true := h1
      simp only [Bool.not_eq_true', decide_eq_false_iff_not] at h1
      refine ⟨rfl, .ff _ (trB_no fun h => h1 (by omega))⟩
    · have h1 : (!decide ((1 : Int) ≤ (m : Int) ∧ (m : Int) ≤ 20)) = false := h1
      simp only [Bool.not_eq_false', decide_eq_true_eq] at h1
      refine .mk ⟨[0, 2, 3], [], fun st => ∃ k : Nat, 1 ≤ k ∧ k ≤ m ∧ Upto (fun i => 0 < i → l i < l (i - 1)) k ∧ st = mkSt [(0, .slice none m fun i => intL (l i)), (2, .ff), (3, I k)] [],
        fun st => m - (match st.slots 3 with | .int _ k => k.toNat | _ => 0), ?_, ?_⟩
      · exact ⟨_, sle_head [.slice none m fun i => intL (l i), .ff, I (1 : Nat)] [] (.cons (.refl _) (.cons (.refl _) (.cons (.refl _) .nil))) .nil, 1, Nat.le_refl _, by omega, ⟨fun i hi h0 => by omega⟩, rfl⟩
      · rintro st ⟨k, hk1, hk, hu, rfl⟩
        refine ⟨fun h2 => ?_, fun h2 => ?_⟩
        · have hlt : k < m := by simpa using h2
          clear h2
          have ew : IntKind.i64.wrap ((k : Int) - 1) = (k : Int) - 1 := w64 (by omega) (by omega)
          have et : ((k : Int) - 1).toNat = k - 1 := by omega
          refine ⟨⟨by omega, by omega, rfl⟩, ?_⟩
          refine ⟨⟨by rw [ew]; omega, by rw [ew]; omega, rfl⟩, rfl, fun h3 => ?_, fun h3 => ?_⟩
          · have h3 : l (IntKind.i64.wrap ((k : Int) - 1)).toNat ≤ l k := of_decide_eq_true h3
            rw [ew, et] at h3
            exact ⟨rfl, .ff _ (trB_f hlt (by omega) (by omega))⟩
          · have h3 : ¬ l (IntKind.i64.wrap ((k : Int) - 1)).toNat ≤ l k := of_decide_eq_false h3
            rw [ew, et] at h3
            refine Halt.mk ⟨_, sle_head [.slice none m fun i => intL (l i), .ff, I (k + 1 : Nat)] [] (.cons (.refl _) (.cons (.refl _) (.cons (ple_ok ?_) .nil))) .nil, ⟨k + 1, by omega, by omega, hu.succ (fun _ => by omega), rfl⟩, ?_⟩
            · show IntKind.i64.wrap ((k : Int) + 1) = ((k + 1 : Nat) : Int)
              rw [w64 (by omega) (by omega)]; omega
            · show m - (k + 1) < m - k
              omega
        · have : k = m := by
            have := of_decide_eq_false h2
            omega
          subst this
          exact ⟨rfl, .tt _ (trB_t (by omega) (by omega) hu)⟩
  · exact h.elim

noncomputable def rowsS : V.Spec
  | [.slice none n get, .slice none m lget] => (some True, .fn (.func 84) [] [.cptr [.slice none m lget], .cptr [.slice none n get]])
  | _ => bad
theorem sf70 : SF Try.prog 70 rowsS := by
  refine sf_of types_ok mixed (l := []) trivial (es := []) trivial 2 Try.func70 rfl (by kernel_rfl) fun args h => ?_
  unfold rowsS at h
  split at h
  · rename_i n get m lget
    refine ⟨rfl, ?_⟩
    exact ⟨rfl, .refl _⟩
  · exact h.elim

def it84 : Iter := iterBody ⟨types, [], [], 1000, false, [], [], [], none, false⟩ (Try.f84.body.getD .skip) Try.f84.results.toList 3
theorem si84 : SI Try.prog 84 900 1000 2000 it84 := si_of types_ok mixed (l := []) trivial (es := []) trivial 900 1000 2000 3 Try.func84 rfl (by kernel_rfl)
end Go.Proofs.Ytiidjohhcappdaa
