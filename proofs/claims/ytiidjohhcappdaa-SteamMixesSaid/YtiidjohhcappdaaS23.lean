/- Layer 1: the flash by the document's words. -/
import Derived.Test.YtiidjohhcappdaaS22
import Derived.Test.YtiidjohhcappdaaW2
namespace Go.Proofs.Ytiidjohhcappdaa
open Go.V
set_option linter.unusedSimpArgs false

def rowP (T P L V S : Int) : PV := .agg [I T, I P, I L, I V, I S]
set_option maxRecDepth 100000 in
set_option maxHeartbeats 4000000 in
theorem rflA (T P L V S a b c d : Int) (hr : okR ⟨T, P, L, V, S⟩) (hx : okS ⟨a, b, c, d⟩) (h1 : b ≤ a * L) : SF Try.prog 43 (Go.V.atS [rowP T P L V S, encS ⟨a, b, c, d⟩] (encP (pMkV ⟨T, P, L, V, S⟩ ⟨a, b, c, d⟩ 0 0 0 a b d))) := by
  have hr' := hr
  have hx' := hx
  simp only [okR] at hr'
  simp only [okS] at hx'
  have b1 := Int.mul_nonneg (show 0 ≤ a by omega) (show 0 ≤ L by omega)
  have b2 := Int.mul_nonneg (show 0 ≤ a by omega) (show 0 ≤ V by omega)
  have b3 := Int.mul_nonneg (show 0 ≤ a by omega) (show 0 ≤ S by omega)
  have b4 := Int.mul_le_mul (show a ≤ 1000000 by omega) (show L ≤ 4000 by omega) (by omega) (by omega)
  have b5 := Int.mul_le_mul (show a ≤ 1000000 by omega) (show V ≤ 4000 by omega) (by omega) (by omega)
  have b6 := Int.mul_le_mul (show a ≤ 1000000 by omega) (show S ≤ 2000 by omega) (by omega) (by omega)
  have eL : IntKind.i64.wrap (a * L) = a * L := w64 (by omega) (by omega)
  have eV : IntKind.i64.wrap (a * V) = a * V := w64 (by omega) (by omega)
  have eS : IntKind.i64.wrap (a * S) = a * S := w64 (by omega) (by omega)
  have eO : IntKind.i64.wrap (b - a * L) = b - a * L := w64 (by omega) (by omega)
  have eD : IntKind.i64.wrap (V - L) = V - L := w64 (by omega) (by omega)
  have f1 : decide (0 < b - a * L) = false := decide_eq_false (by omega)
  refine sf_of types_ok mixed (l := []) trivial (es := []) trivial 2 Try.func43 rfl (by kernel_rfl) fun args h => ?_
  cases (show args = _ from h)
  refine ⟨rfl, ?_⟩
  repeat' first
    | refine ⟨?_, ?_⟩
    | refine fun h => absurd h (by decide)
    | (refine fun h => ?_; exfalso; simp only [eL, eV, eS, eO, eD, f1, cond_true, cond_false, Bool.not_true, Bool.not_false, Bool.not_not, Bool.and_true, Bool.true_and, Bool.and_false, Bool.false_and, Bool.or_true, Bool.true_or, Bool.or_false, Bool.false_or, beq_self_eq_true, bne_self_eq_false, Bool.true_eq_false, Bool.false_eq_true, reduceCtorEq, Bool.and_self, decide_true, decide_false] at h; done)
    | refine fun _ => ?_
    | refine ple_ok ?_
    | exact (rfl : @Eq (List PV) _ _)
  all_goals first
    | trivial
    | rfl
    | (exfalso; rename_i q; have q : @Eq Int _ _ := q; simp only [eL, eV, eS, eO, eD, f1, cond_true, cond_false, Bool.not_true, Bool.not_false, Bool.not_not, Bool.and_true, Bool.true_and, Bool.and_false, Bool.false_and, Bool.or_true, Bool.true_or, Bool.or_false, Bool.false_or, beq_self_eq_true, bne_self_eq_false, Bool.true_eq_false, Bool.false_eq_true, reduceCtorEq, Bool.and_self, decide_true, decide_false] at q; omega)
    | (show @Eq Int _ _)
    | skip
  all_goals try simp only [eL, eV, eS, eO, eD, f1, cond_true, cond_false, Bool.not_true, Bool.not_false, Bool.not_not, Bool.and_true, Bool.true_and, Bool.and_false, Bool.false_and, Bool.or_true, Bool.true_or, Bool.or_false, Bool.false_or, beq_self_eq_true, bne_self_eq_false, Bool.true_eq_false, Bool.false_eq_true, reduceCtorEq, Bool.and_self, decide_true, decide_false, pMkV, Int.zero_mul, Int.sub_zero, Int.sub_self]
  all_goals try simp (disch := omega) only [w64, if_pos, if_neg]
  all_goals first
    | trivial
    | omega
    | (split <;> omega)
    | (split <;> split <;> omega)
    | skip
set_option maxRecDepth 100000 in
set_option maxHeartbeats 4000000 in
theorem rflB (T P L V S a b c d : Int) (hr : okR ⟨T, P, L, V, S⟩) (hx : okS ⟨a, b, c, d⟩) (h1 : ¬ b ≤ a * L) (h2 : a * V ≤ b) : SF Try.prog 43 (Go.V.atS [rowP T P L V S, encS ⟨a, b, c, d⟩] (encP (pMkV ⟨T, P, L, V, S⟩ ⟨a, b, c, d⟩ a b d 0 0 0))) := by
  have hr' := hr
  have hx' := hx
  simp only [okR] at hr'
  simp only [okS] at hx'
  have b1 := Int.mul_nonneg (show 0 ≤ a by omega) (show 0 ≤ L by omega)
  have b2 := Int.mul_nonneg (show 0 ≤ a by omega) (show 0 ≤ V by omega)
  have b3 := Int.mul_nonneg (show 0 ≤ a by omega) (show 0 ≤ S by omega)
  have b4 := Int.mul_le_mul (show a ≤ 1000000 by omega) (show L ≤ 4000 by omega) (by omega) (by omega)
  have b5 := Int.mul_le_mul (show a ≤ 1000000 by omega) (show V ≤ 4000 by omega) (by omega) (by omega)
  have b6 := Int.mul_le_mul (show a ≤ 1000000 by omega) (show S ≤ 2000 by omega) (by omega) (by omega)
  have eL : IntKind.i64.wrap (a * L) = a * L := w64 (by omega) (by omega)
  have eV : IntKind.i64.wrap (a * V) = a * V := w64 (by omega) (by omega)
  have eS : IntKind.i64.wrap (a * S) = a * S := w64 (by omega) (by omega)
  have eO : IntKind.i64.wrap (b - a * L) = b - a * L := w64 (by omega) (by omega)
  have eD : IntKind.i64.wrap (V - L) = V - L := w64 (by omega) (by omega)
  have f1 : decide (0 < b - a * L) = true := decide_eq_true (by omega)
  have f2 : decide (a * V ≤ b) = true := decide_eq_true h2
  have f3 : decide (0 < a) = true := decide_eq_true (by omega)
  refine sf_of types_ok mixed (l := []) trivial (es := []) trivial 2 Try.func43 rfl (by kernel_rfl) fun args h => ?_
  cases (show args = _ from h)
  refine ⟨rfl, ?_⟩
  repeat' first
    | refine ⟨?_, ?_⟩
    | refine fun h => absurd h (by decide)
    | (refine fun h => ?_; exfalso; simp only [eL, eV, eS, eO, eD, f1, f2, f3, cond_true, cond_false, Bool.not_true, Bool.not_false, Bool.not_not, Bool.and_true, Bool.true_and, Bool.and_false, Bool.false_and, Bool.or_true, Bool.true_or, Bool.or_false, Bool.false_or, beq_self_eq_true, bne_self_eq_false, Bool.true_eq_false, Bool.false_eq_true, reduceCtorEq, Bool.and_self, decide_true, decide_false] at h; done)
    | refine fun _ => ?_
    | refine ple_ok ?_
    | exact (rfl : @Eq (List PV) _ _)
  all_goals first
    | trivial
    | rfl
    | (exfalso; rename_i q; have q : @Eq Int _ _ := q; simp only [eL, eV, eS, eO, eD, f1, f2, f3, cond_true, cond_false, Bool.not_true, Bool.not_false, Bool.not_not, Bool.and_true, Bool.true_and, Bool.and_false, Bool.false_and, Bool.or_true, Bool.true_or, Bool.or_false, Bool.false_or, beq_self_eq_true, bne_self_eq_false, Bool.true_eq_false, Bool.false_eq_true, reduceCtorEq, Bool.and_self, decide_true, decide_false] at q; omega)
    | (show @Eq Int _ _)
    | skip
  all_goals try simp only [eL, eV, eS, eO, eD, f1, f2, f3, cond_true, cond_false, Bool.not_true, Bool.not_false, Bool.not_not, Bool.and_true, Bool.true_and, Bool.and_false, Bool.false_and, Bool.or_true, Bool.true_or, Bool.or_false, Bool.false_or, beq_self_eq_true, bne_self_eq_false, Bool.true_eq_false, Bool.false_eq_true, reduceCtorEq, Bool.and_self, decide_true, decide_false, pMkV, Int.zero_mul, Int.sub_zero, Int.sub_self]
  all_goals try simp (disch := omega) only [w64, if_pos, if_neg]
  all_goals first
    | trivial
    | omega
    | (split <;> omega)
    | (split <;> split <;> omega)
    | skip
set_option maxRecDepth 100000 in
set_option maxHeartbeats 4000000 in
theorem rflC (T P L V S a b c d : Int) (hr : okR ⟨T, P, L, V, S⟩) (hx : okS ⟨a, b, c, d⟩) (h1 : ¬ b ≤ a * L) (h2 : ¬ a * V ≤ b) (hq : (b - a * L).tdiv (V - L) = 0) : SF Try.prog 43 (Go.V.atS [rowP T P L V S, encS ⟨a, b, c, d⟩] (encP (pMkV ⟨T, P, L, V, S⟩ ⟨a, b, c, d⟩ 0 0 0 a b d))) := by
  have hr' := hr
  have hx' := hx
  simp only [okR] at hr'
  simp only [okS] at hx'
  have b1 := Int.mul_nonneg (show 0 ≤ a by omega) (show 0 ≤ L by omega)
  have b2 := Int.mul_nonneg (show 0 ≤ a by omega) (show 0 ≤ V by omega)
  have b3 := Int.mul_nonneg (show 0 ≤ a by omega) (show 0 ≤ S by omega)
  have b4 := Int.mul_le_mul (show a ≤ 1000000 by omega) (show L ≤ 4000 by omega) (by omega) (by omega)
  have b5 := Int.mul_le_mul (show a ≤ 1000000 by omega) (show V ≤ 4000 by omega) (by omega) (by omega)
  have b6 := Int.mul_le_mul (show a ≤ 1000000 by omega) (show S ≤ 2000 by omega) (by omega) (by omega)
  have eL : IntKind.i64.wrap (a * L) = a * L := w64 (by omega) (by omega)
  have eV : IntKind.i64.wrap (a * V) = a * V := w64 (by omega) (by omega)
  have eS : IntKind.i64.wrap (a * S) = a * S := w64 (by omega) (by omega)
  have eO : IntKind.i64.wrap (b - a * L) = b - a * L := w64 (by omega) (by omega)
  have eD : IntKind.i64.wrap (V - L) = V - L := w64 (by omega) (by omega)
  have f1 : decide (0 < b - a * L) = true := decide_eq_true (by omega)
  have f2 : decide (a * V ≤ b) = false := decide_eq_false h2
  have e0 : IntKind.i64.wrap 0 = 0 := w64 (by omega) (by omega)
  have f5 : decide ((0 : Int) < 0) = false := by decide
  refine sf_of types_ok mixed (l := []) trivial (es := []) trivial 2 Try.func43 rfl (by kernel_rfl) fun args h => ?_
  cases (show args = _ from h)
  refine ⟨rfl, ?_⟩
  repeat' first
    | refine ⟨?_, ?_⟩
    | refine fun h => absurd h (by decide)
    | (refine fun h => ?_; exfalso; simp only [eL, eV, eS, eO, eD, f1, f2, hq, e0, f5, cond_true, cond_false, Bool.not_true, Bool.not_false, Bool.not_not, Bool.and_true, Bool.true_and, Bool.and_false, Bool.false_and, Bool.or_true, Bool.true_or, Bool.or_false, Bool.false_or, beq_self_eq_true, bne_self_eq_false, Bool.true_eq_false, Bool.false_eq_true, reduceCtorEq, Bool.and_self, decide_true, decide_false] at h; done)
    | refine fun _ => ?_
    | refine ple_ok ?_
    | exact (rfl : @Eq (List PV) _ _)
  all_goals first
    | trivial
    | rfl
    | (exfalso; rename_i q; have q : @Eq Int _ _ := q; simp only [eL, eV, eS, eO, eD, f1, f2, hq, e0, f5, cond_true, cond_false, Bool.not_true, Bool.not_false, Bool.not_not, Bool.and_true, Bool.true_and, Bool.and_false, Bool.false_and, Bool.or_true, Bool.true_or, Bool.or_false, Bool.false_or, beq_self_eq_true, bne_self_eq_false, Bool.true_eq_false, Bool.false_eq_true, reduceCtorEq, Bool.and_self, decide_true, decide_false] at q; omega)
    | (show @Eq Int _ _)
    | skip
  all_goals try simp only [eL, eV, eS, eO, eD, f1, f2, hq, e0, f5, cond_true, cond_false, Bool.not_true, Bool.not_false, Bool.not_not, Bool.and_true, Bool.true_and, Bool.and_false, Bool.false_and, Bool.or_true, Bool.true_or, Bool.or_false, Bool.false_or, beq_self_eq_true, bne_self_eq_false, Bool.true_eq_false, Bool.false_eq_true, reduceCtorEq, Bool.and_self, decide_true, decide_false, pMkV, Int.zero_mul, Int.sub_zero, Int.sub_self]
  all_goals try simp (disch := omega) only [w64, if_pos, if_neg]
  all_goals first
    | trivial
    | omega
    | (split <;> omega)
    | (split <;> split <;> omega)
    | skip
set_option maxRecDepth 100000 in
set_option maxHeartbeats 4000000 in
theorem rflD (T P L V S a b c d : Int) (hr : okR ⟨T, P, L, V, S⟩) (hx : okS ⟨a, b, c, d⟩) (h1 : ¬ b ≤ a * L) (h2 : ¬ a * V ≤ b) (q : Int) (hq : (b - a * L).tdiv (V - L) = q) (h3 : 0 < q ∧ q < a) (h4 : 0 ≤ b - q * V ∧ 0 ≤ b - q * V - (a - q) * L ∧ b - q * V - (a - q) * L < V - L) : SF Try.prog 43 (Go.V.atS [rowP T P L V S, encS ⟨a, b, c, d⟩] (encP (pMkV ⟨T, P, L, V, S⟩ ⟨a, b, c, d⟩ q (q * V) d (a - q) (b - q * V) 0))) := by
  have hr' := hr
  have hx' := hx
  simp only [okR] at hr'
  simp only [okS] at hx'
  have b1 := Int.mul_nonneg (show 0 ≤ a by omega) (show 0 ≤ L by omega)
  have b2 := Int.mul_nonneg (show 0 ≤ a by omega) (show 0 ≤ V by omega)
  have b3 := Int.mul_nonneg (show 0 ≤ a by omega) (show 0 ≤ S by omega)
  have b4 := Int.mul_le_mul (show a ≤ 1000000 by omega) (show L ≤ 4000 by omega) (by omega) (by omega)
  have b5 := Int.mul_le_mul (show a ≤ 1000000 by omega) (show V ≤ 4000 by omega) (by omega) (by omega)
  have b6 := Int.mul_le_mul (show a ≤ 1000000 by omega) (show S ≤ 2000 by omega) (by omega) (by omega)
  have eL : IntKind.i64.wrap (a * L) = a * L := w64 (by omega) (by omega)
  have eV : IntKind.i64.wrap (a * V) = a * V := w64 (by omega) (by omega)
  have eS : IntKind.i64.wrap (a * S) = a * S := w64 (by omega) (by omega)
  have eO : IntKind.i64.wrap (b - a * L) = b - a * L := w64 (by omega) (by omega)
  have eD : IntKind.i64.wrap (V - L) = V - L := w64 (by omega) (by omega)
  have f1 : decide (0 < b - a * L) = true := decide_eq_true (by omega)
  have f2 : decide (a * V ≤ b) = false := decide_eq_false h2
  have f3 : decide (0 < q) = true := decide_eq_true (by omega)
  have f4 : (q == a) = false := by rw [beq_eq_false_iff_ne]; omega
  have c1 := Int.mul_nonneg (show 0 ≤ q by omega) (show 0 ≤ V by omega)
  have c2 := Int.mul_nonneg (show 0 ≤ a - q by omega) (show 0 ≤ L by omega)
  have c3 := Int.mul_nonneg (show 0 ≤ a - q by omega) (show 0 ≤ S by omega)
  have c4 := Int.mul_le_mul (show q ≤ 1000000 by omega) (show V ≤ 4000 by omega) (by omega) (by omega)
  have c5 := Int.mul_le_mul (show a - q ≤ 1000000 by omega) (show L ≤ 4000 by omega) (by omega) (by omega)
  have c6 := Int.mul_le_mul (show a - q ≤ 1000000 by omega) (show S ≤ 2000 by omega) (by omega) (by omega)
  have e0 : IntKind.i64.wrap q = q := w64 (by omega) (by omega)
  have e1 : IntKind.i64.wrap (q * V) = q * V := w64 (by omega) (by omega)
  have e2 : IntKind.i64.wrap (a - q) = a - q := w64 (by omega) (by omega)
  have e3 : IntKind.i64.wrap (b - q * V) = b - q * V := w64 (by omega) (by omega)
  have e4 : IntKind.i64.wrap ((a - q) * L) = (a - q) * L := w64 (by omega) (by omega)
  have e5 : IntKind.i64.wrap ((a - q) * S) = (a - q) * S := w64 (by omega) (by omega)
  refine sf_of types_ok mixed (l := []) trivial (es := []) trivial 2 Try.func43 rfl (by kernel_rfl) fun args h => ?_
  cases (show args = _ from h)
  refine ⟨rfl, ?_⟩
  repeat' first
    | refine ⟨?_, ?_⟩
    | refine fun h => absurd h (by decide)
    | (refine fun h => ?_; exfalso; simp only [eL, eV, eS, eO, eD, f1, f2, f3, f4, hq, e0, e1, e2, e3, e4, e5, cond_true, cond_false, Bool.not_true, Bool.not_false, Bool.not_not, Bool.and_true, Bool.true_and, Bool.and_false, Bool.false_and, Bool.or_true, Bool.true_or, Bool.or_false, Bool.false_or, beq_self_eq_true, bne_self_eq_false, Bool.true_eq_false, Bool.false_eq_true, reduceCtorEq, Bool.and_self, decide_true, decide_false] at h; done)
    | refine fun _ => ?_
    | refine ple_ok ?_
    | exact (rfl : @Eq (List PV) _ _)
  all_goals first
    | trivial
    | rfl
    | (exfalso; rename_i q; have q : @Eq Int _ _ := q; simp only [eL, eV, eS, eO, eD, f1, f2, f3, f4, hq, e0, e1, e2, e3, e4, e5, cond_true, cond_false, Bool.not_true, Bool.not_false, Bool.not_not, Bool.and_true, Bool.true_and, Bool.and_false, Bool.false_and, Bool.or_true, Bool.true_or, Bool.or_false, Bool.false_or, beq_self_eq_true, bne_self_eq_false, Bool.true_eq_false, Bool.false_eq_true, reduceCtorEq, Bool.and_self, decide_true, decide_false] at q; omega)
    | (show @Eq Int _ _)
    | skip
  all_goals try simp only [eL, eV, eS, eO, eD, f1, f2, f3, f4, hq, e0, e1, e2, e3, e4, e5, cond_true, cond_false, Bool.not_true, Bool.not_false, Bool.not_not, Bool.and_true, Bool.true_and, Bool.and_false, Bool.false_and, Bool.or_true, Bool.true_or, Bool.or_false, Bool.false_or, beq_self_eq_true, bne_self_eq_false, Bool.true_eq_false, Bool.false_eq_true, reduceCtorEq, Bool.and_self, decide_true, decide_false, pMkV, Int.zero_mul, Int.sub_zero, Int.sub_self]
  all_goals try simp (disch := omega) only [w64, if_pos, if_neg]
  all_goals first
    | trivial
    | omega
    | (split <;> omega)
    | (split <;> split <;> omega)
    | skip

def refFlashS : V.Spec
  | [.agg [.int .i64 T, .int .i64 P, .int .i64 L, .int .i64 V, .int .i64 S], .agg [.int .i64 a, .int .i64 b, .int .i64 c, .int .i64 d]] => (some (okRX ⟨T, P, L, V, S⟩ ⟨a, b, c, d⟩), encP (partsV ⟨T, P, L, V, S⟩ ⟨a, b, c, d⟩))
  | _ => bad
theorem sf43 : SF Try.prog 43 refFlashS := by
  refine sf_each ⟨_, _, Try.func43, by kernel_rfl, rfl⟩ fun args h => ?_
  unfold refFlashS at h ⊢
  split at h
  · rename_i T P L V S a b c d
    have h : okRX ⟨T, P, L, V, S⟩ ⟨a, b, c, d⟩ := h
    cases h with
    | no h => exact h.elim
    | mk hr hx =>
    show SF Try.prog 43 (Go.V.atS [rowP T P L V S, encS ⟨a, b, c, d⟩] (encP (partsV ⟨T, P, L, V, S⟩ ⟨a, b, c, d⟩)))
    have hr' := hr
    have hx' := hx
    simp only [okR] at hr'
    simp only [okS] at hx'
    by_cases h1 : b ≤ a * L
    · have e : massR ⟨T, P, L, V, S⟩ ⟨a, b, c, d⟩ = 0 := if_pos h1
      have eP : partsV ⟨T, P, L, V, S⟩ ⟨a, b, c, d⟩ = pMkV ⟨T, P, L, V, S⟩ ⟨a, b, c, d⟩ 0 0 0 a b d := if_pos e
      rw [eP]
      exact rflA T P L V S a b c d hr hx h1
    · by_cases h2 : a * V ≤ b
      · have e : massR ⟨T, P, L, V, S⟩ ⟨a, b, c, d⟩ = a := (if_neg h1).trans (if_pos h2)
        have ha : a ≠ 0 := by
          intro h0
          subst h0
          omega
        have eP : partsV ⟨T, P, L, V, S⟩ ⟨a, b, c, d⟩ = pMkV ⟨T, P, L, V, S⟩ ⟨a, b, c, d⟩ a b d 0 0 0 := (if_neg (by rw [e]; exact ha)).trans (if_pos e)
        rw [eP]
        exact rflB T P L V S a b c d hr hx h1 h2
      · have e : massR ⟨T, P, L, V, S⟩ ⟨a, b, c, d⟩ = (b - a * L).tdiv (V - L) := (if_neg h1).trans (if_neg h2)
        have eA : a * V = a * L + a * (V - L) := by rw [← Int.mul_add]; congr 1; omega
        have hA := Int.mul_nonneg (show 0 ≤ a by omega) (show 0 ≤ L by omega)
        have et : (b - a * L).tdiv (V - L) = (b - a * L) / (V - L) := Int.tdiv_eq_ediv_of_nonneg (by omega)
        have e1 := Int.mul_ediv_add_emod (b - a * L) (V - L)
        have e2 := Int.emod_nonneg (b - a * L) (show V - L ≠ 0 by omega)
        have e3 := Int.emod_lt_of_pos (b - a * L) (show 0 < V - L by omega)
        have hq0 : 0 ≤ (b - a * L) / (V - L) := Int.ediv_nonneg (by omega) (by omega)
        have hqm : (b - a * L) / (V - L) < a := Int.ediv_lt_of_lt_mul (by omega) (by omega)
        rw [← et] at e1 hq0 hqm
        generalize hq : (b - a * L).tdiv (V - L) = q at *
        by_cases h0 : q = 0
        · have eP : partsV ⟨T, P, L, V, S⟩ ⟨a, b, c, d⟩ = pMkV ⟨T, P, L, V, S⟩ ⟨a, b, c, d⟩ 0 0 0 a b d := if_pos (by rw [e]; exact h0)
          rw [eP]
          exact rflC T P L V S a b c d hr hx h1 h2 (by rw [hq]; exact h0)
        · have eP : partsV ⟨T, P, L, V, S⟩ ⟨a, b, c, d⟩ = pMkV ⟨T, P, L, V, S⟩ ⟨a, b, c, d⟩ q (q * V) d (a - q) (b - q * V) 0 := by
            unfold partsV
            rw [e, if_neg h0, if_neg (show ¬ q = a by omega)]
          rw [eP]
          have p1 : q * V = q * L + (V - L) * q := by rw [Int.mul_comm (V - L) q, ← Int.mul_add]; congr 1; omega
          have p2 : (a - q) * L = a * L - q * L := Int.sub_mul ..
          have p3 := Int.mul_nonneg (show 0 ≤ a - q by omega) (show 0 ≤ L by omega)
          exact rflD T P L V S a b c d hr hx h1 h2 q hq ⟨by omega, hqm⟩ ⟨by omega, by omega, by omega⟩
  · exact h.elim
def refBdS : V.Spec
  | [.agg [.int .i64 T, .int .i64 P, .int .i64 L, .int .i64 V, .int .i64 S], .int .i64 m, .agg [.int .i64 h0, .int .i64 h1], .agg [.int .i64 s0, .int .i64 s1]] => (some (okRX ⟨T, P, L, V, S⟩ ⟨m, h0, s0, 0⟩ ∧ okRX ⟨T, P, L, V, S⟩ ⟨m, h1, s1, 0⟩),
      .tup [.agg [I (partsV ⟨T, P, L, V, S⟩ ⟨m, h0, s0, 0⟩).sm, I (partsV ⟨T, P, L, V, S⟩ ⟨m, h1, s1, 0⟩).sm], .agg [I (partsV ⟨T, P, L, V, S⟩ ⟨m, h0, s0, 0⟩).scale, I (partsV ⟨T, P, L, V, S⟩ ⟨m, h1, s1, 0⟩).scale]])
  | _ => bad
set_option maxRecDepth 20000 in
theorem sf50 : SF Try.prog 50 refBdS := by
  refine sf_of types_ok mixed (l := [(43, refFlashS)]) ⟨sf43, trivial⟩ (es := []) trivial 4 Try.func50 rfl (by kernel_rfl) fun args h => ?_
  unfold refBdS at h
  split at h
  · rename_i T P L V S m h0 h1 s0 s1
    obtain ⟨k0, k1⟩ : okRX ⟨T, P, L, V, S⟩ ⟨m, h0, s0, 0⟩ ∧ okRX ⟨T, P, L, V, S⟩ ⟨m, h1, s1, 0⟩ := h
    refine ⟨rfl, ?_⟩
    repeat' first
      | refine ⟨?_, ?_⟩
      | refine fun h => absurd h (by decide)
      | refine fun _ => ?_
      | refine ple_ok ?_
    all_goals first
      | trivial
      | rfl
      | exact k0
      | exact k1
  · exact h.elim
end Go.Proofs.Ytiidjohhcappdaa
