/- Layer 1: weights. -/
import Derived.Test.YtiidjohhcappdaaS18
namespace Go.Proofs.Ytiidjohhcappdaa
open Go.V
set_option linter.unusedSimpArgs false

def weightS : V.Spec
  | [.int .i64 x] => (none, .bool (decide (0 ≤ x ∧ x ≤ 1000)))
  | _ => bad
theorem sf79 : SF Try.prog 79 weightS := by
  refine sf_of types_ok mixed (l := [(56, inS)]) ⟨sf56, trivial⟩ (es := []) trivial 1 Try.func79 rfl (by kernel_rfl) fun args h => ?_
  unfold weightS at h
  split at h
  · rename_i x
    clear h
    refine ⟨rfl, ?_⟩
    repeat' first
      | refine ⟨?_, ?_⟩
      | refine fun h => absurd h (by decide)
      | refine fun _ => ?_
      | refine ple_ok ?_
    all_goals first
      | trivial
      | rfl
      | (show @Eq Int _ _)
      | (show @Eq Bool _ _)
      | skip
    all_goals try simp only [cond_true, cond_false, okS, sel, Bool.not_eq_true', Bool.not_eq_false', decide_eq_true_eq, decide_eq_false_iff_not, bne_iff_ne, bne_eq_false_iff_eq, beq_iff_eq, beq_eq_false_iff_ne, ne_eq, ite_eq_left_iff, Decidable.not_not, Bool.and_eq_true, Bool.or_eq_true, Bool.and_eq_false_iff, Bool.or_eq_false_iff, not_and, Bool.not_true, Bool.not_false] at *
    all_goals try simp (disch := omega) only [w64, if_pos, if_neg] at *
    all_goals try simp only [w64e] at *
    all_goals first
      | trivial
      | omega
      | (split <;> omega)
      | (rw [if_pos (by omega)]; omega)
      | (rw [if_neg (by omega)]; omega)
      | (refine decide_eq_decide.2 ?_; omega)
      | (refine decide_eq_true ?_; omega)
      | (refine decide_eq_false ?_; omega)
      | skip
  · exact h.elim

inductive isEW (n : Nat) (get : Nat → List PV) (f : Fn) (xs ys : List PV) : Prop
  | mk (l : Nat → Int) (hn : n < 1000000) (e : get = fun i => intL (l i)) (e1 : f = .func 79) (e2 : xs = []) (e3 : ys = [])
  | no (h : False)
noncomputable def everyWS : V.Spec
  | [.slice none n get, .fn f xs ys] => (some (isEW n get f xs ys), .bool (allB n fun i => 0 ≤ intOf (get i) ∧ intOf (get i) ≤ 1000))
  | _ => bad
theorem sf78w : SF Try.prog 78 everyWS := by
  refine sf_of types_ok mixed (l := [(79, weightS)]) ⟨sf79, trivial⟩ (es := []) trivial 2 Try.func78 rfl (by kernel_rfl) fun args h => ?_
  unfold everyWS at h
  split at h
  · rename_i n get f xs ys
    have h : isEW n get f xs ys := h
    cases h with
    | no h => exact h.elim
    | mk l hn e e1 e2 e3 =>
    subst e e1 e2 e3
    have e : (everyWS [.slice none n fun i => intL (l i), .fn (.func 79) [] []]).2 = .bool (allB n fun i => 0 ≤ l i ∧ l i ≤ 1000) := rfl
    refine ⟨rfl, ?_⟩
    rw [e]
    clear e
    refine .mk ⟨[1, 7, 8, 9], [], fun st => ∃ k : Nat, k ≤ n ∧ Upto (fun i => 0 ≤ l i ∧ l i ≤ 1000) k ∧ st = mkSt [(1, .fn (.func 79) [] []), (7, .slice none n fun i => intL (l i)), (8, I n), (9, I k)] [],
      fun st => n - (match st.slots 9 with | .int _ k => k.toNat | _ => 0), ?_, ?_⟩
    · exact ⟨_, sle_head [.fn (.func 79) [] [], .slice none n fun i => intL (l i), I n, I (0 : Nat)] [] (.cons (.refl _) (.cons (.refl _) (.cons (.refl _) (.cons (.refl _) .nil)))) .nil, 0, Nat.zero_le _, .zero _, rfl⟩
    · rintro st ⟨k, hk, hu, rfl⟩
      refine ⟨fun h2 => ?_, fun h2 => ?_⟩
      · have hlt : k < n := by simpa using h2
        clear h2
        repeat' first
          | refine ⟨?_, ?_⟩
          | refine fun h => absurd h (by decide)
          | refine fun _ => ?_
          | refine ple_ok ?_
          | refine Halt.mk ⟨_, sle_head [.fn (.func 79) [] [], .slice none n fun i => intL (l i), I n, I (k + 1 : Nat)] [] (.cons (.refl _) (.cons (.refl _) (.cons (.refl _) (.cons (ple_ok ?_) .nil)))) .nil, ⟨k + 1, ?_, ?_, rfl⟩, ?_⟩
        all_goals first
          | trivial
          | rfl
          | (show @Eq Int _ _)
          | (show @Eq Bool _ _)
          | skip
        all_goals try simp only [toNat_pred, toNat_self, rowOf_rowL, toNat_zero, cond_true, cond_false, okS, sel, Bool.not_eq_true', Bool.not_eq_false', decide_eq_true_eq, decide_eq_false_iff_not, bne_iff_ne, bne_eq_false_iff_eq, beq_iff_eq, beq_eq_false_iff_ne, ne_eq, ite_eq_left_iff, Decidable.not_not, Bool.and_eq_true, Bool.or_eq_true, Bool.and_eq_false_iff, Bool.or_eq_false_iff, not_and, Bool.not_true, Bool.not_false] at *
        all_goals try simp (disch := omega) only [w64, if_pos, if_neg] at *
        all_goals try simp only [w64e, toNat_pred, toNat_self, rowOf_rowL, toNat_zero] at *
        all_goals first
          | trivial
          | omega
          | (split <;> omega)
          | (rw [if_pos (by omega)]; omega)
          | (rw [if_neg (by omega)]; omega)
          | (refine decide_eq_decide.2 ?_; omega)
          | (refine decide_eq_true ?_; omega)
          | (refine decide_eq_false ?_; omega)
          | (show n - (k + 1) < n - k; omega)
          | (refine Upto.succ hu ?_; omega)
          | (symm; refine allB_f hlt ?_; omega)
          | (refine allB_f hlt ?_; omega)
          | skip
      · have : k = n := by
          have := of_decide_eq_false h2
          omega
        subst this
        refine ⟨rfl, ple_ok ?_⟩
        show allB k _ = true
        exact allB_t hu
  · exact h.elim

def mx (l : Nat → Int) : Nat → Int
  | 0 => l 0
  | k + 1 => if l (k + 1) > mx l k then l (k + 1) else mx l k
inductive isIntsP (n : Nat) (get : Nat → List PV) : Prop
  | mk (l : Nat → Int) (h1 : 1 ≤ n) (hn : n < 1000000) (e : get = fun i => intL (l i))
  | no (h : False)
def maxS : V.Spec
  | [.slice none n get] => (some (isIntsP n get), I (mx (fun i => intOf (get i)) (n - 1)))
  | _ => bad
theorem sf80 : SF Try.prog 80 maxS := by
  refine sf_of types_ok mixed (l := []) trivial (es := []) trivial 1 Try.func80 rfl (by kernel_rfl) fun args h => ?_
  unfold maxS at h
  split at h
  · rename_i n get
    have h : isIntsP n get := h
    cases h with
    | no h => exact h.elim
    | mk l h1 hn e =>
    subst e
    have e : (maxS [.slice none n fun i => intL (l i)]).2 = I (mx l (n - 1)) := rfl
    refine ⟨rfl, ?_⟩
    rw [e]
    clear e
    refine ⟨fun h2 => ?_, fun h2 => ?_⟩
    · exfalso
      have := of_decide_eq_true h2
      omega
    · clear h2
      refine ⟨⟨by omega, by omega, rfl⟩, .mk ⟨[0, 3, 4], [], fun st => ∃ k : Nat, k + 1 ≤ n ∧ st = mkSt [(0, .slice none n fun i => intL (l i)), (3, I (mx l k)), (4, I (k + 1 : Nat))] [],
        fun st => n - (match st.slots 4 with | .int _ k => k.toNat | _ => 0), ?_, ?_⟩⟩
      · exact ⟨_, sle_head [.slice none n fun i => intL (l i), I (mx l 0), I (1 : Nat)] [] (.cons (.refl _) (.cons (.refl _) (.cons (.refl _) .nil))) .nil, 0, h1, rfl⟩
      · rintro st ⟨k, hk, rfl⟩
        refine ⟨fun h2 => ?_, fun h2 => ?_⟩
        · have hlt : k + 1 < n := by
            have := of_decide_eq_true h2
            omega
          clear h2
          repeat' first
            | refine ⟨?_, ?_⟩
            | refine fun h => absurd h (by decide)
            | refine fun _ => ?_
            | refine ple_ok ?_
            | refine Halt.mk ⟨_, sle_head [.slice none n fun i => intL (l i), I (mx l (k + 1)), I (k + 1 + 1 : Nat)] [] (.cons (.refl _) (.cons (ple_ok ?_) (.cons (ple_ok ?_) .nil))) .nil, ⟨k + 1, ?_, rfl⟩, ?_⟩
          all_goals first
            | trivial
            | rfl
            | (show @Eq Int _ _)
            | (show @Eq Bool _ _)
            | skip
          all_goals try simp only [toNat_pred, toNat_self, rowOf_rowL, toNat_zero, cond_true, cond_false, okS, sel, Bool.not_eq_true', Bool.not_eq_false', decide_eq_true_eq, decide_eq_false_iff_not, bne_iff_ne, bne_eq_false_iff_eq, beq_iff_eq, beq_eq_false_iff_ne, ne_eq, ite_eq_left_iff, Decidable.not_not, Bool.and_eq_true, Bool.or_eq_true, Bool.and_eq_false_iff, Bool.or_eq_false_iff, not_and, Bool.not_true, Bool.not_false] at *
          all_goals try simp (disch := omega) only [w64, if_pos, if_neg] at *
          all_goals try simp only [w64e, toNat_pred, toNat_self, rowOf_rowL, toNat_zero] at *
          all_goals first
            | trivial
            | omega
            | (split <;> omega)
            | (rw [if_pos (by omega)]; omega)
            | (rw [if_neg (by omega)]; omega)
            | (refine decide_eq_decide.2 ?_; omega)
            | (refine decide_eq_true ?_; omega)
            | (refine decide_eq_false ?_; omega)
            | (show n - (k + 1 + 1) < n - (k + 1); omega)
            | skip
        · have : k = n - 1 := by
            have := of_decide_eq_false h2
            omega
          subst this
          exact ⟨rfl, .refl _⟩
  · exact h.elim
end Go.Proofs.Ytiidjohhcappdaa
