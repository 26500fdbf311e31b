/- Layer 1: the law on heats. -/
import Derived.Test.YtiidjohhcappdaaS4
import Derived.Test.YtiidjohhcappdaaVq
import Derived.Test.YtiidjohhcappdaaX2
namespace Go.Proofs.Ytiidjohhcappdaa
open Go.V
set_option linter.unusedSimpArgs false

def awakeS : V.Spec := atS [] (.bool true)
theorem sf17' : SF Try.prog 17 awakeS := sf17

theorem heatsA (a b c d a1 b1 c1 d1 k : Int) (hs : decide (okS ⟨a, b, c, d⟩) = false) : SF Try.prog 5 (atS [encS ⟨a, b, c, d⟩, encS ⟨a1, b1, c1, d1⟩, I k] (.bool true)) := by
  have hs' := of_decide_eq_false hs
  have h37 : SF Try.prog 37 (atS [encS ⟨a, b, c, d⟩, I k] (.tup [encS zeroS, I 1])) := sf_at sf37 trivial (by
    show heatedR ⟨a, b, c, d⟩ k = _
    simp only [heatedR, sel, if_neg hs', if_neg fun h : okS ⟨a, b, c, d⟩ ∧ _ => hs' h.1]
    rfl)
  have h38 : SF Try.prog 38 (atS [encS ⟨a, b, c, d⟩, encS ⟨a1, b1, c1, d1⟩, I k] (.tup [encS zeroS, encS zeroS, I 1])) := sf_at sf38 trivial (by
    show exR ⟨a, b, c, d⟩ ⟨a1, b1, c1, d1⟩ k = _
    simp only [exR, sel, if_neg hs', if_neg fun h : exP ⟨a, b, c, d⟩ ⟨a1, b1, c1, d1⟩ k => hs' h.1]
    rfl)
  refine sf_of types_ok mixed (l := [(17, awakeS), (21, okSS), (22, chkS), (23, strS), (27, inS), (37, _), (38, _)]) ⟨sf17', sf21, sf22, sf23, sf27, h37, h38, trivial⟩ (es := []) trivial 3 Try.func5 rfl (by kernel_rfl) fun args h => ?_
  cases (show args = _ from h)
  refine ⟨rfl, ?_⟩
  repeat' first
    | refine ⟨?_, ?_⟩
    | refine fun h => absurd h (by decide)
    | refine fun h => absurd h (by rw [hs]; decide)
    | refine fun _ => ?_
    | refine ple_ok ?_
    | exact (rfl : @Eq (List PV) _ _)
  all_goals first | trivial | rfl | trace_state

theorem heatsB (a b c d a1 b1 c1 d1 k : Int) (hs : decide (okS ⟨a, b, c, d⟩) = true) (hf : decide (-5000000000 ≤ k ∧ k ≤ 5000000000) = false) : SF Try.prog 5 (atS [encS ⟨a, b, c, d⟩, encS ⟨a1, b1, c1, d1⟩, I k] (.bool true)) := by
  have hs' := of_decide_eq_true hs
  have hf' := of_decide_eq_false hf
  have h37 : SF Try.prog 37 (atS [encS ⟨a, b, c, d⟩, I k] (.tup [encS zeroS, I 2])) := sf_at sf37 trivial (by
    show heatedR ⟨a, b, c, d⟩ k = _
    have hr : ¬ (-b ≤ k ∧ k ≤ 4000 * a - b) := by
      simp only [okS] at hs'
      omega
    simp only [heatedR, sel, if_pos hs', if_neg hr, if_neg fun h : okS ⟨a, b, c, d⟩ ∧ _ => hr h.2]
    rfl)
  cases ht : decide (okS ⟨a1, b1, c1, d1⟩)
  · have ht' := of_decide_eq_false ht
    have h38 : SF Try.prog 38 (atS [encS ⟨a, b, c, d⟩, encS ⟨a1, b1, c1, d1⟩, I k] (.tup [encS zeroS, encS zeroS, I 1])) := sf_at sf38 trivial (by
      show exR ⟨a, b, c, d⟩ ⟨a1, b1, c1, d1⟩ k = _
      simp only [exR, sel, if_pos hs', if_neg ht', if_neg fun h : exP ⟨a, b, c, d⟩ ⟨a1, b1, c1, d1⟩ k => ht' h.2.1]
      rfl)
    refine sf_of types_ok mixed (l := [(17, awakeS), (21, okSS), (22, chkS), (23, strS), (27, inS), (37, _), (38, _)]) ⟨sf17', sf21, sf22, sf23, sf27, h37, h38, trivial⟩ (es := []) trivial 3 Try.func5 rfl (by kernel_rfl) fun args h => ?_
    cases (show args = _ from h)
    refine ⟨rfl, ?_⟩
    repeat' first
      | refine ⟨?_, ?_⟩
      | refine fun h => absurd h (by decide)
      | refine fun h => absurd h (by rw [hs]; decide)
      | refine fun h => absurd h (by rw [ht]; decide)
      | refine fun h => absurd h (by rw [hf]; decide)
      | refine fun _ => ?_
      | refine ple_ok ?_
      | exact (rfl : @Eq (List PV) _ _)
    all_goals first | trivial | rfl | trace_state
  · have ht' := of_decide_eq_true ht
    have h38 : SF Try.prog 38 (atS [encS ⟨a, b, c, d⟩, encS ⟨a1, b1, c1, d1⟩, I k] (.tup [encS zeroS, encS zeroS, I 2])) := sf_at sf38 trivial (by
      show exR ⟨a, b, c, d⟩ ⟨a1, b1, c1, d1⟩ k = _
      have hr : ¬ (0 ≤ k ∧ k ≤ b ∧ k ≤ 4000 * a1 - b1) := by
        simp only [okS] at hs'
        omega
      simp only [exR, sel, if_pos hs', if_pos ht', if_neg hr, if_neg fun h : exP ⟨a, b, c, d⟩ ⟨a1, b1, c1, d1⟩ k => hr h.2.2]
      rfl)
    refine sf_of types_ok mixed (l := [(17, awakeS), (21, okSS), (22, chkS), (23, strS), (27, inS), (37, _), (38, _)]) ⟨sf17', sf21, sf22, sf23, sf27, h37, h38, trivial⟩ (es := []) trivial 3 Try.func5 rfl (by kernel_rfl) fun args h => ?_
    cases (show args = _ from h)
    refine ⟨rfl, ?_⟩
    repeat' first
      | refine ⟨?_, ?_⟩
      | refine fun h => absurd h (by decide)
      | refine fun h => absurd h (by rw [hs]; decide)
      | refine fun h => absurd h (by rw [ht]; decide)
      | refine fun h => absurd h (by rw [hf]; decide)
      | refine fun _ => ?_
      | refine ple_ok ?_
      | exact (rfl : @Eq (List PV) _ _)
    all_goals first | trivial | rfl | trace_state

def bsel (b : Bool) (x y : Int) : Int := bif b then x else y
set_option maxHeartbeats 8000000 in
theorem heatsC (a b c d a1 b1 c1 d1 k : Int) (hs : decide (okS ⟨a, b, c, d⟩) = true) (hf : decide (-5000000000 ≤ k ∧ k ≤ 5000000000) = true) : SF Try.prog 5 (atS [encS ⟨a, b, c, d⟩, encS ⟨a1, b1, c1, d1⟩, I k] (.bool true)) := by
  have hs' := of_decide_eq_true hs
  have hf' := of_decide_eq_true hf
  have hs2 := hs'
  simp only [okS] at hs2
  have w1 : IntKind.i64.wrap (b + k) = b + k := w64 (by omega) (by omega)
  have w2 : IntKind.i64.wrap (b - k) = b - k := w64 (by omega) (by omega)
  have hx1 : SF Try.prog 37 (atS [encS ⟨a, b, c, d⟩, I k] (.tup [encS (bif decide (okS ⟨a, IntKind.i64.wrap (b + k), c, d⟩) then ⟨a, IntKind.i64.wrap (b + k), c, d⟩ else zeroS), I (bif decide (okS ⟨a, IntKind.i64.wrap (b + k), c, d⟩) then 0 else 2)])) := sf_at sf37 trivial (by
    show heatedR ⟨a, b, c, d⟩ k = _
    rw [w1]
    by_cases hr : -b ≤ k ∧ k ≤ 4000 * a - b
    · have : okS ⟨a, b + k, c, d⟩ := by simp only [okS]; omega
      simp only [heatedR, sel, if_pos hs', if_pos hr, if_pos (show okS ⟨a, b, c, d⟩ ∧ _ from ⟨hs', hr⟩), decide_eq_true this, cond_true]
    · have : ¬ okS ⟨a, b + k, c, d⟩ := by simp only [okS]; omega
      simp only [heatedR, sel, if_pos hs', if_neg hr, if_neg fun h : okS ⟨a, b, c, d⟩ ∧ _ => hr h.2, decide_eq_false this, cond_false]
      rfl)
  cases ht : decide (okS ⟨a1, b1, c1, d1⟩)
  · have ht' := of_decide_eq_false ht
    have h38 : SF Try.prog 38 (atS [encS ⟨a, b, c, d⟩, encS ⟨a1, b1, c1, d1⟩, I k] (.tup [encS zeroS, encS zeroS, I 1])) := sf_at sf38 trivial (by
      show exR ⟨a, b, c, d⟩ ⟨a1, b1, c1, d1⟩ k = _
      simp only [exR, sel, if_pos hs', if_neg ht', if_neg fun h : exP ⟨a, b, c, d⟩ ⟨a1, b1, c1, d1⟩ k => ht' h.2.1]
      rfl)
    cases hx : decide (okS ⟨a, IntKind.i64.wrap (b + k), c, d⟩)
    all_goals
      rw [hx] at hx1
      refine sf_of types_ok mixed (l := [(17, awakeS), (21, okSS), (22, chkS), (23, strS), (27, inS), (37, _), (38, _)]) ⟨sf17', sf21, sf22, sf23, sf27, hx1, h38, trivial⟩ (es := []) trivial 3 Try.func5 rfl (by kernel_rfl) fun args h => ?_
      cases (show args = _ from h)
      refine ⟨rfl, ?_⟩
      repeat' first
        | refine ⟨?_, ?_⟩
        | refine fun h => absurd h (by decide)
        | refine fun h => absurd h (by rw [hs]; decide)
        | refine fun h => absurd h (by rw [ht]; decide)
        | refine fun h => absurd h (by rw [hf]; decide)
        | refine fun h => absurd h (by rw [hx]; decide)
        | (refine fun h => ?_; exfalso; simp only [cond_true, cond_false, beq_self_eq_true, Bool.and_true, Bool.and_self, Bool.not_true, Bool.not_false, Bool.false_eq_true, Bool.true_eq_false, reduceCtorEq] at h; done)
        | refine fun _ => ?_
        | refine ple_ok ?_
        | exact (rfl : @Eq (List PV) _ _)
      all_goals first | trivial | rfl | trace_state
  · have ht' := of_decide_eq_true ht
    have ht2 := ht'
    simp only [okS] at ht2
    have w3 : IntKind.i64.wrap (b1 + k) = b1 + k := w64 (by omega) (by omega)
    have h38 : SF Try.prog 38 (atS [encS ⟨a, b, c, d⟩, encS ⟨a1, b1, c1, d1⟩, I k] (.tup [encS (bif !decide (k < 0) && (decide (okS ⟨a, IntKind.i64.wrap (b - k), c, d⟩) && decide (okS ⟨a1, IntKind.i64.wrap (b1 + k), c1, d1⟩)) then ⟨a, IntKind.i64.wrap (b - k), c, d⟩ else zeroS),
        encS (bif !decide (k < 0) && (decide (okS ⟨a, IntKind.i64.wrap (b - k), c, d⟩) && decide (okS ⟨a1, IntKind.i64.wrap (b1 + k), c1, d1⟩)) then ⟨a1, IntKind.i64.wrap (b1 + k), c1, d1⟩ else zeroS),
        I (bif !decide (k < 0) && (decide (okS ⟨a, IntKind.i64.wrap (b - k), c, d⟩) && decide (okS ⟨a1, IntKind.i64.wrap (b1 + k), c1, d1⟩)) then 0 else 2)])) := sf_at sf38 trivial (by
      show exR ⟨a, b, c, d⟩ ⟨a1, b1, c1, d1⟩ k = _
      rw [w2, w3]
      by_cases hr : 0 ≤ k ∧ k ≤ b ∧ k ≤ 4000 * a1 - b1
      · have g1 : okS ⟨a, b - k, c, d⟩ := by simp only [okS]; omega
        have g2 : okS ⟨a1, b1 + k, c1, d1⟩ := by simp only [okS]; omega
        simp only [exR, sel, if_pos hs', if_pos ht', if_pos hr, if_pos (show exP ⟨a, b, c, d⟩ ⟨a1, b1, c1, d1⟩ k from ⟨hs', ht', hr⟩), decide_eq_true g1, decide_eq_true g2, decide_eq_false (show ¬ k < 0 by omega), Bool.not_false, Bool.and_true, cond_true]
      · have g : (!decide (k < 0) && (decide (okS ⟨a, b - k, c, d⟩) && decide (okS ⟨a1, b1 + k, c1, d1⟩))) = false := by
          rw [Bool.eq_false_iff]
          intro h
          simp only [Bool.and_eq_true, Bool.not_eq_true', decide_eq_true_eq, decide_eq_false_iff_not, okS] at h
          exact hr (by omega)
        simp only [exR, sel, if_pos hs', if_pos ht', if_neg hr, if_neg fun h : exP ⟨a, b, c, d⟩ ⟨a1, b1, c1, d1⟩ k => hr h.2.2, g, cond_false]
        rfl)
    cases hx : decide (okS ⟨a, IntKind.i64.wrap (b + k), c, d⟩) <;> cases hk : decide (k < 0) <;> cases hy : decide (okS ⟨a, IntKind.i64.wrap (b - k), c, d⟩) <;> cases hz : decide (okS ⟨a1, IntKind.i64.wrap (b1 + k), c1, d1⟩)
    all_goals
      rw [hx] at hx1
      rw [hk, hy, hz] at h38
      refine sf_of types_ok mixed (l := [(17, awakeS), (21, okSS), (22, chkS), (23, strS), (27, inS), (37, _), (38, _)]) ⟨sf17', sf21, sf22, sf23, sf27, hx1, h38, trivial⟩ (es := []) trivial 3 Try.func5 rfl (by kernel_rfl) fun args h => ?_
      cases (show args = _ from h)
      refine ⟨rfl, ?_⟩
      repeat' first
        | refine ⟨?_, ?_⟩
        | refine fun h => absurd h (by decide)
        | refine fun h => absurd h (by rw [hs]; decide)
        | refine fun h => absurd h (by rw [ht]; decide)
        | refine fun h => absurd h (by rw [hf]; decide)
        | refine fun h => absurd h (by rw [hx]; decide)
        | refine fun h => absurd h (by rw [hk]; decide)
        | refine fun h => absurd h (by rw [hy]; decide)
        | refine fun h => absurd h (by rw [hz]; decide)
        | (refine fun h => ?_; exfalso; simp only [cond_true, cond_false, beq_self_eq_true, Bool.and_true, Bool.and_self, Bool.not_true, Bool.not_false, Bool.false_eq_true, Bool.true_eq_false, reduceCtorEq] at h; done)
        | refine fun _ => ?_
        | refine ple_ok ?_
        | exact (rfl : @Eq (List PV) _ _)
      all_goals first | trivial | rfl | trace_state

def heatsS : V.Spec
  | [.agg [.int .i64 _, .int .i64 _, .int .i64 _, .int .i64 _], .agg [.int .i64 _, .int .i64 _, .int .i64 _, .int .i64 _], .int .i64 _] => (none, .bool true)
  | _ => bad
theorem sf5 : SF Try.prog 5 heatsS := by
  refine sf_each ⟨_, _, Try.func5, by kernel_rfl, rfl⟩ fun args h => ?_
  unfold heatsS at h ⊢
  split at h
  · rename_i a b c d a1 b1 c1 d1 k
    show SF Try.prog 5 (atS [encS ⟨a, b, c, d⟩, encS ⟨a1, b1, c1, d1⟩, I k] (.bool true))
    cases hs : decide (okS ⟨a, b, c, d⟩)
    · exact heatsA a b c d a1 b1 c1 d1 k hs
    · cases hf : decide (-5000000000 ≤ k ∧ k ≤ 5000000000)
      · exact heatsB a b c d a1 b1 c1 d1 k hs hf
      · exact heatsC a b c d a1 b1 c1 d1 k hs hf
  · exact h.elim
end Go.Proofs.Ytiidjohhcappdaa
