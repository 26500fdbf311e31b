/- Layer 1: lists of streams; where nothing falls out. -/
import Derived.Test.YtiidjohhcappdaaS12
import Derived.Test.YtiidjohhcappdaaS15
namespace Go.Proofs.Ytiidjohhcappdaa
open Go.V
set_option linter.unusedSimpArgs false

def strL (x : Stream) : List PV := [.int .i64 x.m, .int .i64 x.h, .int .i64 x.s, .int .i64 x.g]
def strOf (l : List PV) : Stream :=
  match l with
  | [.int .i64 a, .int .i64 b, .int .i64 c, .int .i64 d] => ⟨a, b, c, d⟩
  | _ => ⟨0, 0, 0, 0⟩
def rowXs (xs : List PV) : Row :=
  match xs with
  | [.agg l] => rowOf l
  | _ => default
def safeS : V.Spec
  | [.agg [.int .i64 T, .int .i64 P, .int .i64 L, .int .i64 V, .int .i64 S], .agg [.int .i64 a, .int .i64 b, .int .i64 c, .int .i64 d]] => (some (okRX ⟨T, P, L, V, S⟩ ⟨a, b, c, d⟩), .bool ((partsV ⟨T, P, L, V, S⟩ ⟨a, b, c, d⟩).scale == 0))
  | _ => bad
theorem sf72 : SF Try.prog 72 safeS := by
  refine sf_of types_ok mixed (l := [(68, partsS')]) ⟨sf68', trivial⟩ (es := []) trivial 2 Try.func72 rfl (by kernel_rfl) fun args h => ?_
  unfold safeS at h
  split at h
  · rename_i T P L V S a b c d
    have h : okRX ⟨T, P, L, V, S⟩ ⟨a, b, c, d⟩ := h
    refine ⟨rfl, h, ?_⟩
    exact ⟨rfl, .refl _⟩
  · exact h.elim

inductive isEV (n : Nat) (get : Nat → List PV) (f : Fn) (xs ys : List PV) : Prop
  | mk (l : Nat → Stream) (hn : n < 1000000) (e : get = fun i => strL (l i)) (e1 : f = .func 58) (e2 : xs = []) (e3 : ys = [])
  | no (h : False)
noncomputable def everyVS : V.Spec
  | [.slice none n get, .fn f xs ys] => (some (isEV n get f xs ys), .bool (allB n fun i => okS (strOf (get i))))
  | _ => bad
inductive isES (n : Nat) (get : Nat → List PV) (f : Fn) (xs ys : List PV) : Prop
  | mk (l : Nat → Stream) (r : Row) (hn : n < 1000000) (hr : okR r) (hx : ∀ i, i < n → okS (l i)) (e : get = fun i => strL (l i)) (e1 : f = .func 72) (e2 : xs = [.agg (rowL r)]) (e3 : ys = [])
  | no (h : False)
noncomputable def everySS : V.Spec
  | [.slice none n get, .fn f xs ys] => (some (isES n get f xs ys), .bool (allB n fun i => (partsV (rowXs xs) (strOf (get i))).scale = 0))
  | _ => bad
theorem sf71v : SF Try.prog 71 everyVS := by
  refine sf_of types_ok mixed (l := [(58, okSS)]) ⟨sf58, trivial⟩ (es := []) trivial 2 Try.func71 rfl (by kernel_rfl) fun args h => ?_
  unfold everyVS at h
  split at h
  · rename_i n get f xs ys
    have h : isEV n get f xs ys := h
    cases h with
    | no h => exact h.elim
    | mk l hn e e1 e2 e3 =>
    subst e e1 e2 e3
    have e : (everyVS [.slice none n fun i => strL (l i), .fn (.func 58) [] []]).2 = .bool (allB n fun i => okS (l i)) := rfl
    refine ⟨rfl, ?_⟩
    rw [e]
    clear e
    refine .mk ⟨[1, 7, 8, 9], [], fun st => ∃ k : Nat, k ≤ n ∧ Upto (fun i => okS (l i)) k ∧ st = mkSt [(1, .fn (.func 58) [] []), (7, .slice none n fun i => strL (l i)), (8, I n), (9, I k)] [],
      fun st => n - (match st.slots 9 with | .int _ k => k.toNat | _ => 0), ?_, ?_⟩
    · exact ⟨_, sle_head [.fn (.func 58) [] [], .slice none n fun i => strL (l i), I n, I (0 : Nat)] [] (.cons (.refl _) (.cons (.refl _) (.cons (.refl _) (.cons (.refl _) .nil)))) .nil, 0, Nat.zero_le _, .zero _, rfl⟩
    · rintro st ⟨k, hk, hu, rfl⟩
      refine ⟨fun h2 => ?_, fun h2 => ?_⟩
      · have hlt : k < n := by simpa using h2
        clear h2
        repeat' first
          | refine ⟨?_, ?_⟩
          | refine fun h => absurd h (by decide)
          | refine fun _ => ?_
          | refine ple_ok ?_
          | refine Halt.mk ⟨_, sle_head [.fn (.func 58) [] [], .slice none n fun i => strL (l i), I n, I (k + 1 : Nat)] [] (.cons (.refl _) (.cons (.refl _) (.cons (.refl _) (.cons (ple_ok ?_) .nil)))) .nil, ⟨k + 1, ?_, ?_, rfl⟩, ?_⟩
        all_goals first
          | trivial
          | rfl
          | (show @Eq Int _ _)
          | (show @Eq Bool _ _)
          | skip
        all_goals try simp only [toNat_pred, toNat_self, rowOf_rowL, toNat_zero, cond_true, cond_false, okS, sel, Bool.not_eq_true', Bool.not_eq_false', decide_eq_true_eq, decide_eq_false_iff_not, bne_iff_ne, bne_eq_false_iff_eq, beq_iff_eq, beq_eq_false_iff_ne, ne_eq, ite_eq_left_iff, Decidable.not_not, Bool.and_eq_true, Bool.or_eq_true, Bool.and_eq_false_iff, Bool.or_eq_false_iff, not_and, Bool.not_true, Bool.not_false] at *
        all_goals try simp (disch := omega) only [w64, if_pos, if_neg] at *
        all_goals try simp only [w64e, toNat_pred, toNat_self, rowOf_rowL, toNat_zero] at *
        all_goals first
          | trivial
          | omega
          | (split <;> omega)
          | (rw [if_pos (by omega)]; omega)
          | (rw [if_neg (by omega)]; omega)
          | (refine decide_eq_decide.2 ?_; omega)
          | (refine decide_eq_true ?_; omega)
          | (refine decide_eq_false ?_; omega)
          | (show n - (k + 1) < n - k; omega)
          | (refine Upto.succ hu ?_; assumption)
          | (symm; refine allB_f hlt ?_; assumption)
          | (refine allB_f hlt ?_; assumption)
          | (refine Upto.succ hu ?_; omega)
          | (refine allB_f hlt ?_; omega)
          | skip
      · have : k = n := by
          have := of_decide_eq_false h2
          omega
        subst this
        refine ⟨rfl, ple_ok ?_⟩
        show allB k _ = true
        exact allB_t hu
  · exact h.elim
theorem sf71s : SF Try.prog 71 everySS := by
  refine sf_of types_ok mixed (l := [(72, safeS)]) ⟨sf72, trivial⟩ (es := []) trivial 2 Try.func71 rfl (by kernel_rfl) fun args h => ?_
  unfold everySS at h
  split at h
  · rename_i n get f xs ys
    have h : isES n get f xs ys := h
    cases h with
    | no h => exact h.elim
    | mk l r hn hr hx e e1 e2 e3 =>
    subst e e1 e2 e3
    have e : (everySS [.slice none n fun i => strL (l i), .fn (.func 72) [.agg (rowL r)] []]).2 = .bool (allB n fun i => (partsV r (l i)).scale = 0) := rfl
    refine ⟨rfl, ?_⟩
    rw [e]
    clear e
    refine .mk ⟨[1, 7, 8, 9], [], fun st => ∃ k : Nat, k ≤ n ∧ Upto (fun i => (partsV r (l i)).scale = 0) k ∧ st = mkSt [(1, .fn (.func 72) [.agg (rowL r)] []), (7, .slice none n fun i => strL (l i)), (8, I n), (9, I k)] [],
      fun st => n - (match st.slots 9 with | .int _ k => k.toNat | _ => 0), ?_, ?_⟩
    · exact ⟨_, sle_head [.fn (.func 72) [.agg (rowL r)] [], .slice none n fun i => strL (l i), I n, I (0 : Nat)] [] (.cons (.refl _) (.cons (.refl _) (.cons (.refl _) (.cons (.refl _) .nil)))) .nil, 0, Nat.zero_le _, .zero _, rfl⟩
    · rintro st ⟨k, hk, hu, rfl⟩
      refine ⟨fun h2 => ?_, fun h2 => ?_⟩
      · have hlt : k < n := by simpa using h2
        clear h2
        repeat' first
          | refine ⟨?_, ?_⟩
          | refine fun h => absurd h (by decide)
          | refine fun _ => ?_
          | refine ple_ok ?_
          | refine Halt.mk ⟨_, sle_head [.fn (.func 72) [.agg (rowL r)] [], .slice none n fun i => strL (l i), I n, I (k + 1 : Nat)] [] (.cons (.refl _) (.cons (.refl _) (.cons (.refl _) (.cons (ple_ok ?_) .nil)))) .nil, ⟨k + 1, ?_, ?_, rfl⟩, ?_⟩
        all_goals first
          | trivial
          | rfl
          | (show @Eq Int _ _)
          | (show @Eq Bool _ _)
          | skip
        all_goals try simp only [toNat_pred, toNat_self, rowOf_rowL, toNat_zero, cond_true, cond_false, okS, sel, Bool.not_eq_true', Bool.not_eq_false', decide_eq_true_eq, decide_eq_false_iff_not, bne_iff_ne, bne_eq_false_iff_eq, beq_iff_eq, beq_eq_false_iff_ne, ne_eq, ite_eq_left_iff, Decidable.not_not, Bool.and_eq_true, Bool.or_eq_true, Bool.and_eq_false_iff, Bool.or_eq_false_iff, not_and, Bool.not_true, Bool.not_false] at *
        all_goals try simp (disch := omega) only [w64, if_pos, if_neg] at *
        all_goals try simp only [w64e, toNat_pred, toNat_self, rowOf_rowL, toNat_zero] at *
        all_goals first
          | trivial
          | omega
          | (split <;> omega)
          | (rw [if_pos (by omega)]; omega)
          | (rw [if_neg (by omega)]; omega)
          | (refine decide_eq_decide.2 ?_; omega)
          | (refine decide_eq_true ?_; omega)
          | (refine decide_eq_false ?_; omega)
          | (show n - (k + 1) < n - k; omega)
          | (refine Upto.succ hu ?_; assumption)
          | (symm; refine allB_f hlt ?_; assumption)
          | (refine allB_f hlt ?_; assumption)
          | (refine Upto.succ hu ?_; omega)
          | (refine allB_f hlt ?_; omega)
          | exact .mk hr (hx k hlt)
          | skip
      · have : k = n := by
          have := of_decide_eq_false h2
          omega
        subst this
        refine ⟨rfl, ple_ok ?_⟩
        show allB k _ = true
        exact allB_t hu
  · exact h.elim
end Go.Proofs.Ytiidjohhcappdaa
