/- Layer 1: levels and trains by the document's words. -/
import Derived.Test.YtiidjohhcappdaaS26
import Derived.Test.YtiidjohhcappdaaS23
namespace Go.Proofs.Ytiidjohhcappdaa
open Go.V
set_option linter.unusedSimpArgs false

abbrev lvP (n : Int) (l : Nat → Int) (i : Nat) : Prop := 0 ≤ l i ∧ l i ≤ n - 1 ∧ (0 < i → l i < l (i - 1))
noncomputable def lvB (n : Int) (m : Nat) (l : Nat → Int) : Bool := allB m (lvP n l) && (Nat.ble 1 m && Nat.ble m 20)
theorem lvB_f {n : Int} {m : Nat} {l : Nat → Int} {k : Nat} (hk : k < m) (h : ¬ lvP n l k) : lvB n m l = false := by
  unfold lvB
  rw [allB_f hk h]; rfl
theorem lvB_l {n : Int} {m : Nat} {l : Nat → Int} (h : ¬ (1 ≤ m ∧ m ≤ 20)) : lvB n m l = false := by
  unfold lvB
  have : (Nat.ble 1 m && Nat.ble m 20) = false := by
    rw [Bool.eq_false_iff]
    intro h'
    rw [Bool.and_eq_true] at h'
    exact h ⟨Nat.le_of_ble_eq_true h'.1, Nat.le_of_ble_eq_true h'.2⟩
  rw [this, Bool.and_false]
theorem lvB_t {n : Int} {m : Nat} {l : Nat → Int} (h1 : 1 ≤ m) (h2 : m ≤ 20) (h : Upto (lvP n l) m) : lvB n m l = true := by
  unfold lvB
  rw [Nat.ble_eq_true_of_le h1, Nat.ble_eq_true_of_le h2, allB_t h]; rfl
theorem lvB_get {n : Int} {m : Nat} {l : Nat → Int} (h : lvB n m l = true) : 1 ≤ m ∧ m ≤ 20 ∧ Upto (lvP n l) m := by
  unfold lvB at h
  rw [Bool.and_eq_true, Bool.and_eq_true] at h
  exact ⟨Nat.le_of_ble_eq_true h.2.1, Nat.le_of_ble_eq_true h.2.2, allB_get h.1⟩
inductive isLv (n : Int) (m : Nat) (lget : Nat → List PV) : Prop
  | mk (l : Nat → Int) (h0 : 0 ≤ n) (hn : n < 1000000) (hm : m ≤ 9223372036854775807) (e : lget = fun i => intL (l i))
  | no (h : False)
noncomputable def refLvS : V.Spec
  | [.int .i64 n, .slice none m lget] => (some (isLv n m lget), .bool (lvB n m fun i => intOf (lget i)))
  | _ => bad
set_option maxRecDepth 20000 in
set_option maxHeartbeats 4000000 in
theorem sf41 : SF Try.prog 41 refLvS := by
  refine sf_of types_ok mixed (l := [(27, inS)]) ⟨sf27, trivial⟩ (es := []) trivial 2 Try.func41 rfl (by kernel_rfl) fun args h => ?_
  unfold refLvS at h
  split at h
  · rename_i n m lget
    have h : isLv n m lget := h
    cases h with
    | no h => exact h.elim
    | mk l h0 hn hm e' =>
    subst e'
    have e : (refLvS [.int .i64 n, .slice none m fun i => intL (l i)]).2 = .bool (lvB n m l) := rfl
    refine ⟨rfl, ?_⟩
    rw [e]
    clear e
    have ew : IntKind.i64.wrap (n - 1) = n - 1 := w64 (by omega) (by omega)
    refine .mk ⟨[0, 1, 4, 5], [], fun st => ∃ k : Nat, k ≤ m ∧ Upto (lvP n l) k ∧ st = mkSt [(0, I n), (1, .slice none m fun i => intL (l i)), (4, .ff), (5, I k)] [],
      fun st => m - (match st.slots 5 with | .int _ k => k.toNat | _ => 0), ?_, ?_⟩
    · exact ⟨_, sle_head [I n, .slice none m fun i => intL (l i), .ff, I (0 : Nat)] [] (.cons (.refl _) (.cons (.refl _) (.cons (.refl _) (.cons (.refl _) .nil)))) .nil, 0, Nat.zero_le _, .zero _, rfl⟩
    · rintro st ⟨k, hk, hu, rfl⟩
      refine ⟨fun h2 => ?_, fun h2 => ?_⟩
      · have hlt : k < m := by simpa using h2
        clear h2
        have ek : IntKind.i64.wrap ((k : Int) + 1) = ((k + 1 : Nat) : Int) := by rw [w64 (by omega) (by omega)]; omega
        have ep : IntKind.i64.wrap ((k : Int) - 1) = (k : Int) - 1 := w64 (by omega) (by omega)
        repeat' first
          | refine ⟨?_, ?_⟩
          | refine fun h => absurd h (by decide)
          | refine fun _ => ?_
          | refine Halt.mk ⟨_, sle_head [I n, .slice none m fun i => intL (l i), .ff, I (k + 1 : Nat)] [] (.cons (.refl _) (.cons (.refl _) (.cons (.refl _) (.cons (ple_ok ?_) .nil)))) .nil, ⟨k + 1, by omega, hu.succ ?_, rfl⟩, ?_⟩
          | refine ple_ok ?_
        all_goals first
          | trivial
          | rfl
          | (show m - (k + 1) < m - k; omega)
          | exact ek
          | (show lvP n l k)
          | (show lvB n m l = false; refine lvB_f hlt ?_)
          | skip
        all_goals try simp only [ew, ep, toNat_self, toNat_pred, cond_true, cond_false, Bool.not_eq_true', Bool.not_eq_false', decide_eq_true_eq, decide_eq_false_iff_not, Bool.not_true, Bool.not_false] at *
        all_goals first
          | trivial
          | omega
          | skip
      · have : k = m := by
          have := of_decide_eq_false h2
          omega
        subst this
        have hend : lvB n k l = decide ((1 : Int) ≤ (k : Int) ∧ (k : Int) ≤ 20) := by
          by_cases hb : 1 ≤ k ∧ k ≤ 20
          · rw [lvB_t hb.1 hb.2 hu, decide_eq_true (by omega)]
          · rw [lvB_l hb, decide_eq_false (by omega)]
        rw [hend]
        repeat' first
          | refine ⟨?_, ?_⟩
          | refine fun h => absurd h (by decide)
          | refine fun _ => ?_
          | refine ple_ok ?_
        all_goals first
          | trivial
          | rfl
          | (show @Eq Int _ _)
          | (show @Eq Bool _ _)
          | skip
        all_goals try simp only [cond_true, cond_false, okS, sel, Bool.not_eq_true', Bool.not_eq_false', decide_eq_true_eq, decide_eq_false_iff_not, bne_iff_ne, bne_eq_false_iff_eq, beq_iff_eq, beq_eq_false_iff_ne, ne_eq, ite_eq_left_iff, Decidable.not_not, Bool.and_eq_true, Bool.or_eq_true, Bool.and_eq_false_iff, Bool.or_eq_false_iff, not_and, Bool.not_true, Bool.not_false] at *
        all_goals try simp (disch := omega) only [w64, if_pos, if_neg] at *
        all_goals try simp only [w64e] at *
        all_goals first
          | trivial
          | omega
          | (split <;> omega)
          | (rw [if_pos (by omega)]; omega)
          | (rw [if_neg (by omega)]; omega)
          | (refine decide_eq_decide.2 ?_; omega)
          | (refine decide_eq_true ?_; omega)
          | (refine decide_eq_false ?_; omega)
          | skip
  · exact h.elim

def pPS : V.Spec
  | [.agg [.int .i64 a, .int .i64 b, .int .i64 c, .int .i64 d, .int .i64 e, .int .i64 f, .int .i64 g, .int .i64 h, .int .i64 i, .int .i64 j]] => (none, .agg [I a, I b, I c, I d, I e, I f, I g, I h, I i, I j])
  | _ => bad
theorem sf42 : SF Try.prog 42 pPS := by
  refine sf_of types_ok mixed (l := [(23, strS)]) ⟨sf23, trivial⟩ (es := []) trivial 1 Try.func42 rfl (by kernel_rfl) fun args h => ?_
  unfold pPS at h
  split at h
  · refine ⟨rfl, ?_⟩
    repeat' first
      | refine ⟨?_, ?_⟩
      | exact .refl _
    all_goals first
      | trivial
      | rfl
  · exact h.elim

inductive isRT (n : Nat) (get : Nat → List PV) (m : Nat) (lget : Nat → List PV) (x : Stream) : Prop
  | mk (t : Nat → Row) (l : Nat → Int) (hT : okT n t) (hm : m ≤ 20) (hL : Upto (fun i => 0 ≤ l i ∧ l i ≤ (n : Int) - 1) m) (hx : okS x) (e : get = fun i => rowL (t i)) (e' : lget = fun i => intL (l i))
  | no (h : False)
noncomputable def refTrS : V.Spec
  | [.slice none n get, .slice none m lget, .agg [.int .i64 a, .int .i64 b, .int .i64 c, .int .i64 d]] => (some (isRT n get m lget ⟨a, b, c, d⟩), .slice none m (fun i => partL (trP (fun i => rowOf (get i)) (fun i => intOf (lget i)) ⟨a, b, c, d⟩ i)))
  | _ => bad
theorem trW_ok {n : Nat} {t : Nat → Row} {m : Nat} {l : Nat → Int} {x : Stream} (hT : okT n t) (hL : Upto (fun i => 0 ≤ l i ∧ l i ≤ (n : Int) - 1) m) (hx : okS x) : ∀ i, i ≤ m → okS (trW t l x i) := by
  intro i
  induction i with
  | zero => exact fun _ => hx
  | succ i ih =>
    intro hi
    have := hL.all i (by omega)
    exact (okS_parts ((hT.2.2.all (l i).toNat (by omega)).1) (ih (by omega))).1
set_option maxRecDepth 20000 in
set_option maxHeartbeats 4000000 in
theorem sf44 : SF Try.prog 44 refTrS := by
  refine sf_of types_ok mixed (l := [(43, refFlashS)]) ⟨sf43, trivial⟩ (es := []) trivial 3 Try.func44 rfl (by kernel_rfl) fun args h => ?_
  unfold refTrS at h
  split at h
  · rename_i n get m lget a b c d
    have h : isRT n get m lget ⟨a, b, c, d⟩ := h
    cases h with
    | no h => exact h.elim
    | mk t l hT hm hL hx e e' =>
    subst e e'
    have e : (refTrS [.slice none n fun i => rowL (t i), .slice none m fun i => intL (l i), .agg [.int .i64 a, .int .i64 b, .int .i64 c, .int .i64 d]]).2 = .slice none m fun i => partL (trP t l ⟨a, b, c, d⟩ i) := rfl
    refine ⟨rfl, ?_⟩
    rw [e]
    clear e
    have hW := trW_ok hT hL hx
    have hrow : ∀ i, i < m → okR (t (l i).toNat) := fun i hi => (hT.2.2.all (l i).toNat (by have := hL.all i hi; omega)).1
    have h2 := hT.1
    have h20 := hT.2.1
    refine .mk ⟨[0, 1, 5, 7, 8], [5, 7], fun st => ∃ k : Nat, k ≤ m ∧ st = mkSt [(0, tab n t), (1, .slice none m fun i => intL (l i)), (5, .ptr 5 0), (7, .slice (some 7) k fun i => partL (trP t l ⟨a, b, c, d⟩ i)), (8, I k)]
        [(5, .cells [I (trW t l ⟨a, b, c, d⟩ k).m, I (trW t l ⟨a, b, c, d⟩ k).h, I (trW t l ⟨a, b, c, d⟩ k).s, I (trW t l ⟨a, b, c, d⟩ k).g]), (7, .grow k 82 10)],
      fun st => m - (match st.slots 8 with | .int _ k => k.toNat | _ => 0), ?_, ?_⟩
    · exact ⟨_, sle_head [tab n t, .slice none m fun i => intL (l i), .ptr 5 0, .slice (some 7) 0 fun i => partL (trP t l ⟨a, b, c, d⟩ i), I (0 : Nat)] [.cells [I a, I b, I c, I d], .grow 0 82 10] (.cons (.refl _) (.cons (.refl _) (.cons (.refl _) (.cons (.slice _ _ _ _ fun i hi => by omega) (.cons (.refl _) .nil))))) (.cons (.refl _) (.cons (.refl _) .nil)), 0, Nat.zero_le _, rfl⟩
    · rintro st ⟨k, hk, rfl⟩
      refine ⟨fun h4 => ?_, fun h4 => ?_⟩
      · have hlt : k < m := by simpa using h4
        clear h4
        have hLk := hL.all k hlt
        have okx : okRX (t (l ((k : Int)).toNat).toNat) (trW t l ⟨a, b, c, d⟩ k) := .mk (hrow k hlt) (hW k hk)
        repeat' first
          | refine ⟨?_, ?_⟩
          | refine fun h => absurd h (by decide)
          | refine fun _ => ?_
          | refine Halt.mk ⟨_, sle_head [tab n t, .slice none m fun i => intL (l i), .ptr 5 0, .slice (some 7) (k + 1) fun i => partL (trP t l ⟨a, b, c, d⟩ i), I (k + 1 : Nat)]
              [.cells [I (trW t l ⟨a, b, c, d⟩ (k + 1)).m, I (trW t l ⟨a, b, c, d⟩ (k + 1)).h, I (trW t l ⟨a, b, c, d⟩ (k + 1)).s, I (trW t l ⟨a, b, c, d⟩ (k + 1)).g], .grow (k + 1) 82 10]
              (.cons (.refl _) (.cons (.refl _) (.cons (.refl _) (.cons (.slice _ _ _ _ ?_) (.cons (ple_ok ?_) .nil))))) (.cons (.refl _) (.cons (.refl _) .nil)), ⟨k + 1, ?_, rfl⟩, ?_⟩
        all_goals first
          | trivial
          | rfl
          | omega
          | exact okx
          | exact hLk.1
          | (show l k < (n : Int); omega)
          | (show (k + 1) * 80 ≤ 140737488355328; omega)
          | (rename_i i hi; obtain rfl : i = 0 := (by omega); rfl)
          | (show IntKind.i64.wrap ((k : Int) + 1) = ((k + 1 : Nat) : Int); rw [w64 (by omega) (by omega)]; omega)
          | (show m - (k + 1) < m - k; omega)
          | skip
        · rename_i i hi
          by_cases hl : i < k
          · show (bif Nat.blt i k then _ else _) = _
            rw [blt_t hl]
            rfl
          · obtain rfl : i = k := by omega
            show (bif Nat.blt i i then _ else _) = _
            rw [blt_f hl, Nat.sub_self]
            rfl
      · have : k = m := by
          have h4 : ¬ ((k : Int) < m) := of_decide_eq_false h4
          omega
        subst this
        exact ⟨rfl, ple_ok ⟨rfl, fun i hi => rfl⟩⟩
  · exact h.elim
end Go.Proofs.Ytiidjohhcappdaa
