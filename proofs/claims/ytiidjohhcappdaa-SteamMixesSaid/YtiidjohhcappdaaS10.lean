/- Layer 1: levels of a table. -/
import Derived.Test.YtiidjohhcappdaaS8
namespace Go.Proofs.Ytiidjohhcappdaa
open Go.V
set_option linter.unusedSimpArgs false

def intL (x : Int) : List PV := [.int .i64 x]
def intOf (l : List PV) : Int :=
  match l with
  | [.int .i64 x] => x
  | _ => 0
theorem intOf_intL (x : Int) : intOf (intL x) = x := rfl
def lenOf (xs : List PV) : Nat :=
  match xs with
  | [.slice none m _] => m
  | _ => 0
inductive isInts (n : Nat) (get : Nat → List PV) : Prop
  | mk (l : Nat → Int) (hn : n < 1000000) (e : get = fun i => intL (l i))
  | no (h : False)
theorem isInts.get {n : Nat} {get : Nat → List PV} (h : isInts n get) : n < 1000000 ∧ ∃ l : Nat → Int, get = fun i => intL (l i) := by
  cases h with
  | mk t hn e => exact ⟨hn, t, e⟩
  | no h => exact h.elim
/-- A bounded 'for all', as a bool. -/
noncomputable def allB (n : Nat) (p : Nat → Prop) : Bool := @decide (Upto p n) (Classical.propDecidable _)
theorem allB_t {n : Nat} {p : Nat → Prop} (h : Upto p n) : allB n p = true := by
  unfold allB
  exact @decide_eq_true _ (Classical.propDecidable _) h
theorem allB_f {n : Nat} {p : Nat → Prop} {k : Nat} (hk : k < n) (h : ¬ p k) : allB n p = false := by
  unfold allB
  exact @decide_eq_false _ (Classical.propDecidable _) fun h' => h (h'.all k hk)
theorem allB_get {n : Nat} {p : Nat → Prop} (h : allB n p = true) : Upto p n := by
  unfold allB at h
  exact @of_decide_eq_true _ (Classical.propDecidable _) h

def levelS : V.Spec
  | [.slice none m _, .int .i64 x] => (some (m < 1000000), .bool (decide (0 ≤ x ∧ x ≤ (m : Int) - 1)))
  | _ => bad
theorem sf82 : SF Try.prog 82 levelS := by
  refine sf_of types_ok mixed (l := [(56, inS)]) ⟨sf56, trivial⟩ (es := []) trivial 2 Try.func82 rfl (by kernel_rfl) fun args h => ?_
  unfold levelS at h
  split at h
  · rename_i m g x
    have h : m < 1000000 := h
    refine ⟨rfl, ?_⟩
    repeat' first
      | refine ⟨?_, ?_⟩
      | refine fun h => absurd h (by decide)
      | refine fun _ => ?_
      | refine ple_ok ?_
    all_goals first
      | trivial
      | rfl
      | (show @Eq Int _ _)
      | (show @Eq Bool _ _)
      | skip
    all_goals try simp only [toNat_pred, toNat_self, rowOf_rowL, cond_true, cond_false, okS, sel, Bool.not_eq_true', Bool.not_eq_false', decide_eq_true_eq, decide_eq_false_iff_not, bne_iff_ne, bne_eq_false_iff_eq, beq_iff_eq, beq_eq_false_iff_ne, ne_eq, ite_eq_left_iff, Decidable.not_not, Bool.and_eq_true, Bool.or_eq_true, Bool.and_eq_false_iff, Bool.or_eq_false_iff, not_and, Bool.not_true, Bool.not_false] at *
    all_goals try simp (disch := omega) only [w64, if_pos, if_neg] at *
    all_goals try simp only [w64e, toNat_pred, toNat_self, rowOf_rowL] at *
    all_goals first
      | trivial
      | omega
      | (split <;> omega)
      | (rw [if_pos (by omega)]; omega)
      | (rw [if_neg (by omega)]; omega)
      | (refine decide_eq_decide.2 ?_; omega)
      | (refine decide_eq_true ?_; omega)
      | (refine decide_eq_false ?_; omega)
      | (congr 2; omega)
      | skip
  · exact h.elim

inductive isEL (n : Nat) (get : Nat → List PV) (f : Fn) (xs ys : List PV) : Prop
  | mk (l : Nat → Int) (hn : n < 1000000) (e : get = fun i => intL (l i)) (m : Nat) (g : Nat → List PV) (hm : m < 1000000) (e1 : f = .func 82) (e2 : xs = [.slice none m g]) (e3 : ys = [])
  | no (h : False)
noncomputable def everyLS : V.Spec
  | [.slice none n get, .fn f xs ys] => (some (isEL n get f xs ys), .bool (allB n fun i => 0 ≤ intOf (get i) ∧ intOf (get i) ≤ (lenOf xs : Int) - 1))
  | _ => bad
theorem sf78 : SF Try.prog 78 everyLS := by
  refine sf_of types_ok mixed (l := [(82, levelS)]) ⟨sf82, trivial⟩ (es := []) trivial 2 Try.func78 rfl (by kernel_rfl) fun args h => ?_
  unfold everyLS at h
  split at h
  · rename_i n get f xs ys
    have h : isEL n get f xs ys := h
    cases h with
    | no h => exact h.elim
    | mk l hn e m g hm e1 e2 e3 =>
    subst e e1 e2 e3
    have e : (everyLS [.slice none n fun i => intL (l i), .fn (.func 82) [.slice none m g] []]).2 = .bool (allB n fun i => 0 ≤ l i ∧ l i ≤ (m : Int) - 1) := rfl
    refine ⟨rfl, ?_⟩
    rw [e]
    clear e
    refine .mk ⟨[1, 7, 8, 9], [], fun st => ∃ k : Nat, k ≤ n ∧ Upto (fun i => 0 ≤ l i ∧ l i ≤ (m : Int) - 1) k ∧ st = mkSt [(1, .fn (.func 82) [.slice none m g] []), (7, .slice none n fun i => intL (l i)), (8, I n), (9, I k)] [],
      fun st => n - (match st.slots 9 with | .int _ k => k.toNat | _ => 0), ?_, ?_⟩
    · exact ⟨_, sle_head [.fn (.func 82) [.slice none m g] [], .slice none n fun i => intL (l i), I n, I (0 : Nat)] [] (.cons (.refl _) (.cons (.refl _) (.cons (.refl _) (.cons (.refl _) .nil)))) .nil, 0, Nat.zero_le _, .zero _, rfl⟩
    · rintro st ⟨k, hk, hu, rfl⟩
      refine ⟨fun h2 => ?_, fun h2 => ?_⟩
      · have hlt : k < n := by simpa using h2
        clear h2
        repeat' first
          | refine ⟨?_, ?_⟩
          | refine fun h => absurd h (by decide)
          | refine fun _ => ?_
          | refine ple_ok ?_
          | refine Halt.mk ⟨_, sle_head [.fn (.func 82) [.slice none m g] [], .slice none n fun i => intL (l i), I n, I (k + 1 : Nat)] [] (.cons (.refl _) (.cons (.refl _) (.cons (.refl _) (.cons (ple_ok ?_) .nil)))) .nil, ⟨k + 1, ?_, ?_, rfl⟩, ?_⟩
        all_goals first
          | trivial
          | rfl
          | (show @Eq Int _ _)
          | (show @Eq Bool _ _)
          | skip
        all_goals try simp only [toNat_pred, toNat_self, rowOf_rowL, cond_true, cond_false, okS, sel, Bool.not_eq_true', Bool.not_eq_false', decide_eq_true_eq, decide_eq_false_iff_not, bne_iff_ne, bne_eq_false_iff_eq, beq_iff_eq, beq_eq_false_iff_ne, ne_eq, ite_eq_left_iff, Decidable.not_not, Bool.and_eq_true, Bool.or_eq_true, Bool.and_eq_false_iff, Bool.or_eq_false_iff, not_and, Bool.not_true, Bool.not_false] at *
        all_goals try simp (disch := omega) only [w64, if_pos, if_neg] at *
        all_goals try simp only [w64e, toNat_pred, toNat_self, rowOf_rowL] at *
        all_goals first
          | trivial
          | omega
          | (split <;> omega)
          | (rw [if_pos (by omega)]; omega)
          | (rw [if_neg (by omega)]; omega)
          | (refine decide_eq_decide.2 ?_; omega)
          | (refine decide_eq_true ?_; omega)
          | (refine decide_eq_false ?_; omega)
          | (show n - (k + 1) < n - k; omega)
          | (refine Upto.succ hu ?_; omega)
          | (symm; refine allB_f hlt ?_; omega)
          | (refine allB_f hlt ?_; omega)
          | skip
      · have : k = n := by
          have := of_decide_eq_false h2
          omega
        subst this
        refine ⟨rfl, ple_ok ?_⟩
        show allB k _ = true
        exact allB_t hu
  · exact h.elim
end Go.Proofs.Ytiidjohhcappdaa
