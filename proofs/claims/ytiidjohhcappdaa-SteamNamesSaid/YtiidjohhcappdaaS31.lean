/- Layer 1: trains, reckoned. -/
import Derived.Test.YtiidjohhcappdaaS26
import Derived.Test.YtiidjohhcappdaaWX
namespace Go.Proofs.Ytiidjohhcappdaa
open Go.V
set_option linter.unusedSimpArgs false

theorem allB_dec {n : Nat} {p : Nat → Prop} [DecidablePred p] : allB n p = (List.range n).all fun i => decide (p i) := by
  cases h : (List.range n).all fun i => decide (p i) with
  | true =>
    rw [List.all_eq_true] at h
    exact allB_t ⟨fun i hi => of_decide_eq_true (h i (List.mem_range.2 hi))⟩
  | false =>
    cases hb : allB n p with
    | false => rfl
    | true =>
      have : ((List.range n).all fun i => decide (p i)) = true := List.all_eq_true.2 fun i hi => decide_eq_true ((allB_get hb).all i (List.mem_range.1 hi))
      rw [this] at h
      cases h
def okTx (n : Nat) (t : Nat → Row) : Bool := (Nat.ble 2 n && Nat.ble n 20) && (List.range n).all fun i => decide (okR (t i)) && (Nat.beq i 0 || decide (belP (t (i - 1)) (t i)))
theorem okTb_dec (n : Nat) (t : Nat → Row) : okTb n t = okTx n t := by
  cases h : okTx n t with
  | true =>
    simp only [okTx, Bool.and_eq_true] at h
    obtain ⟨⟨h1, h2⟩, h3⟩ := h
    rw [List.all_eq_true] at h3
    refine okTb_t ⟨Nat.le_of_ble_eq_true h1, Nat.le_of_ble_eq_true h2, ⟨fun i hi => ?_⟩⟩
    have := h3 i (List.mem_range.2 hi)
    rw [Bool.and_eq_true, Bool.or_eq_true] at this
    refine ⟨of_decide_eq_true this.1, fun h0 => ?_⟩
    rcases this.2 with h | h
    · have := Nat.eq_of_beq_eq_true h; omega
    · exact of_decide_eq_true h
  | false =>
    refine okTb_f fun hk => ?_
    have : okTx n t = true := by
      unfold okTx
      rw [Nat.ble_eq_true_of_le hk.1, Nat.ble_eq_true_of_le hk.2.1, Bool.true_and, Bool.true_and, List.all_eq_true]
      intro i hi
      have := hk.2.2.all i (List.mem_range.1 hi)
      rw [decide_eq_true this.1, Bool.true_and]
      cases hb : Nat.beq i 0 with
      | true => rfl
      | false =>
        have h0 : 0 < i := by
          rcases Nat.eq_zero_or_pos i with h | h
          · subst h; cases hb
          · exact h
        rw [decide_eq_true (this.2 h0)]; rfl
    rw [this] at h
    cases h
def trEx (n : Nat) (t : Nat → Row) (m : Nat) (l : Nat → Int) (x : Stream) : Int :=
  bif okTx n t then (bif (List.range m).all fun i => decide (0 ≤ l i ∧ l i ≤ (n : Int) - 1) then
    (bif (Nat.ble 1 m && Nat.ble m 20) && (List.range m).all fun i => decide (0 < i → l i < l (i - 1)) then (bif decide (okS x) then 0 else 1) else 2) else 2) else 1
theorem trE_dec (n : Nat) (t : Nat → Row) (m : Nat) (l : Nat → Int) (x : Stream) : trE n t m l x = trEx n t m l x := by
  unfold trE chkLE trEx trB
  rw [okTb_dec, allB_dec, allB_dec]
  cases okTx n t with
  | false => rfl
  | true =>
    cases (List.range m).all fun i => decide (0 ≤ l i ∧ l i ≤ (n : Int) - 1) with
    | false => rfl
    | true =>
      cases (Nat.ble 1 m && Nat.ble m 20) with
      | false => rfl
      | true =>
        cases (List.range m).all fun i => decide (0 < i → l i < l (i - 1)) with
        | false => rfl
        | true =>
          by_cases hx : okS x
          · rw [decide_eq_true hx]; exact if_pos hx
          · rw [decide_eq_false hx]; exact if_neg hx
def isRowL : List PV → Bool
  | [.int .i64 _, .int .i64 _, .int .i64 _, .int .i64 _, .int .i64 _] => true
  | _ => false
def isIntL : List PV → Bool
  | [.int .i64 _] => true
  | _ => false
theorem isRowL_eq {l : List PV} (h : isRowL l = true) : l = rowL (rowOf l) := by
  unfold isRowL at h
  split at h
  · rfl
  · cases h
theorem isIntL_eq {l : List PV} (h : isIntL l = true) : l = intL (intOf l) := by
  unfold isIntL at h
  split at h
  · rfl
  · cases h
def g40 : List PV → Option PV
  | [.slice none n get, .slice none m lget, .agg [.int .i64 a, .int .i64 b, .int .i64 c, .int .i64 d]] =>
    bif Nat.ble n 100 && Nat.ble m 100 && ((List.range n).all fun i => isRowL (get i)) && ((List.range m).all fun i => isIntL (lget i)) then
      fzI (trEx n (fun i => rowOf (get i)) m (fun i => intOf (lget i)) ⟨a, b, c, d⟩) fun e =>
        some (.tup [.slice none (bif decide (e = 0) then m else 0) (fun i => partL (trP (fun i => rowOf (get i)) (fun i => intOf (lget i)) ⟨a, b, c, d⟩ i)), I e])
    else none
  | _ => none
theorem sf40x : SF Try.prog 40 fun xs => (some ((g40 xs).isSome = true), (g40 xs).getD .junk) := by
  refine sf_args sf40s fun args h => ?_
  have h : (g40 args).isSome = true := h
  show ∃ args', _ ∧ _ ∧ _ ∧ (trainS0 args').2 = (g40 args).getD .junk
  unfold g40 at h ⊢
  split at h
  · rename_i n get m lget a b c d _
    cases hw : (Nat.ble n 100 && Nat.ble m 100 && ((List.range n).all fun i => isRowL (get i)) && ((List.range m).all fun i => isIntL (lget i))) with
    | false => rw [hw] at h; cases h
    | true =>
      simp only [Bool.and_eq_true, List.all_eq_true] at hw
      obtain ⟨⟨⟨h1, h2⟩, h3⟩, h4⟩ := hw
      have h1 := Nat.le_of_ble_eq_true h1
      have h2 := Nat.le_of_ble_eq_true h2
      refine ⟨[.slice none n fun i => rowL (rowOf (get i)), .slice none m fun i => intL (intOf (lget i)), .agg [.int .i64 a, .int .i64 b, .int .i64 c, .int .i64 d]], rfl, fun i hi => ?_, .mk _ _ (by omega) (by omega) rfl rfl, ?_⟩
      · match i, hi with
        | 0, _ => exact .slice _ _ _ _ fun i hi => isRowL_eq (h3 i (List.mem_range.2 hi))
        | 1, _ => exact .slice _ _ _ _ fun i hi => isIntL_eq (h4 i (List.mem_range.2 hi))
        | 2, _ => exact .refl _
      · show PV.tup [.slice none (trN n (fun i => rowOf (get i)) m (fun i => intOf (lget i)) ⟨a, b, c, d⟩) (fun i => partL (trP (fun i => rowOf (get i)) (fun i => intOf (lget i)) ⟨a, b, c, d⟩ i)), I (trE n (fun i => rowOf (get i)) m (fun i => intOf (lget i)) ⟨a, b, c, d⟩)] = _
        rw [cond_true, fzI_eq]
        have e := trE_dec n (fun i => rowOf (get i)) m (fun i => intOf (lget i)) ⟨a, b, c, d⟩
        unfold trN
        rw [e]
        generalize trEx n (fun i => rowOf (get i)) m (fun i => intOf (lget i)) ⟨a, b, c, d⟩ = E
        by_cases h0 : E = 0
        · rw [if_pos h0, decide_eq_true h0]; rfl
        · rw [if_neg h0, decide_eq_false h0]; rfl
  · cases h
end Go.Proofs.Ytiidjohhcappdaa
