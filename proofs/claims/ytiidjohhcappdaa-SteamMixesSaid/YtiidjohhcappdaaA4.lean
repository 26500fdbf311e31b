/- Layer 1: the law on mixes and shares. -/
import Derived.Test.YtiidjohhcappdaaS40
import Derived.Test.YtiidjohhcappdaaA11
namespace Go.Proofs.Ytiidjohhcappdaa
open Go.V
set_option linter.unusedSimpArgs false
def MARGS (p : Nat) (s : Nat → Stream) (a b c d : Int) (n : Nat) (w : Nat → Int) : List PV := [.slice none p (fun i => strL (s i)), .agg [.int .i64 a, .int .i64 b, .int .i64 c, .int .i64 d], .slice none n (fun i => intL (w i))]
set_option maxRecDepth 100000 in
set_option maxHeartbeats 4000000 in
theorem mxA (p : Nat) (s : Nat → Stream) (a b c d : Int) (n : Nat) (w : Nat → Int) (h : 45 < p) : SF Try.prog 4 (V.atS (MARGS p s a b c d n w) (.bool true)) := by
  have f0 : decide ((45 : Int) < (p : Int)) = true := decide_eq_true (by omega)
  refine sf_of types_ok mixed (l := [(17, awakeF), (23, noF), (30, noF), (29, noF), (31, noF), (32, noF), (33, noF), (21, noF), (34, noF), (35, noF), (36, noF)]) ⟨sf17f, sf_noF sf23.2, sf_noF sf30.2, sf_noF sf29.2, sf_noF sf31.2, sf_noF sf32.2, sf_noF sf33.2, sf_noF sf21.2, sf_noF sf34b.2, sf_noF sf35.2, sf_noF sf36.2, trivial⟩ (es := []) trivial 3 Try.func4 rfl (by kernel_rfl) fun args h => ?_
  have h : args = MARGS p s a b c d n w := h
  subst h
  refine ⟨rfl, ?_⟩
  repeat' first
    | refine ⟨?_, ?_⟩
    | refine fun h => absurd h (by decide)
    | (refine fun h => ?_; exfalso; simp only [f0, cond_true, cond_false, Bool.not_true, Bool.not_false, Bool.not_not, Bool.and_true, Bool.true_and, Bool.and_false, Bool.false_and, Bool.or_true, Bool.true_or, Bool.or_false, Bool.false_or, beq_self_eq_true, bne_self_eq_false, Bool.true_eq_false, Bool.false_eq_true, reduceCtorEq, Bool.and_self, decide_true, decide_false, ite_true, ite_false, eq_self] at h; done)
    | refine fun (h : @Eq Bool _ _) => ?_
    | refine ple_ok ?_
  all_goals first
    | trivial
    | rfl
    | omega
    | exact fun _ _ => ⟨rfl, rfl⟩
    | (show n * 8 ≤ 140737488355328; omega)
    | (show @Eq Bool _ _; simp only [f0, cond_true, cond_false, Bool.not_true, Bool.not_false, Bool.not_not, Bool.and_true, Bool.true_and, Bool.and_false, Bool.false_and, Bool.or_true, Bool.true_or, Bool.or_false, Bool.false_or, beq_self_eq_true, bne_self_eq_false, Bool.true_eq_false, Bool.false_eq_true, reduceCtorEq, Bool.and_self, decide_true, decide_false, ite_true, ite_false, eq_self]; done)
    | skip
set_option maxRecDepth 100000 in
set_option maxHeartbeats 4000000 in
theorem mxB (p : Nat) (s : Nat → Stream) (a b c d : Int) (n : Nat) (w : Nat → Int) (h45 : p ≤ 45) (h : 25 < n) : SF Try.prog 4 (V.atS (MARGS p s a b c d n w) (.bool true)) := by
  have f0 : decide ((45 : Int) < (p : Int)) = false := decide_eq_false (by omega)
  have f1 : decide ((25 : Int) < (n : Int)) = true := decide_eq_true (by omega)
  refine sf_of types_ok mixed (l := [(17, awakeF), (23, noF), (30, noF), (29, noF), (31, noF), (32, noF), (33, noF), (21, noF), (34, noF), (35, noF), (36, noF)]) ⟨sf17f, sf_noF sf23.2, sf_noF sf30.2, sf_noF sf29.2, sf_noF sf31.2, sf_noF sf32.2, sf_noF sf33.2, sf_noF sf21.2, sf_noF sf34b.2, sf_noF sf35.2, sf_noF sf36.2, trivial⟩ (es := []) trivial 3 Try.func4 rfl (by kernel_rfl) fun args h => ?_
  have h : args = MARGS p s a b c d n w := h
  subst h
  refine ⟨rfl, ?_⟩
  repeat' first
    | refine ⟨?_, ?_⟩
    | refine fun h => absurd h (by decide)
    | (refine fun h => ?_; exfalso; simp only [f0, f1, cond_true, cond_false, Bool.not_true, Bool.not_false, Bool.not_not, Bool.and_true, Bool.true_and, Bool.and_false, Bool.false_and, Bool.or_true, Bool.true_or, Bool.or_false, Bool.false_or, beq_self_eq_true, bne_self_eq_false, Bool.true_eq_false, Bool.false_eq_true, reduceCtorEq, Bool.and_self, decide_true, decide_false, ite_true, ite_false, eq_self] at h; done)
    | refine fun (h : @Eq Bool _ _) => ?_
    | refine ple_ok ?_
  all_goals first
    | trivial
    | rfl
    | omega
    | exact fun _ _ => ⟨rfl, rfl⟩
    | (show n * 8 ≤ 140737488355328; omega)
    | (show @Eq Bool _ _; simp only [f0, f1, cond_true, cond_false, Bool.not_true, Bool.not_false, Bool.not_not, Bool.and_true, Bool.true_and, Bool.and_false, Bool.false_and, Bool.or_true, Bool.true_or, Bool.or_false, Bool.false_or, beq_self_eq_true, bne_self_eq_false, Bool.true_eq_false, Bool.false_eq_true, reduceCtorEq, Bool.and_self, decide_true, decide_false, ite_true, ite_false, eq_self]; done)
    | skip
set_option maxRecDepth 100000 in
set_option maxHeartbeats 4000000 in
theorem mx1a (p : Nat) (s : Nat → Stream) (a b c d : Int) (n : Nat) (w : Nat → Int) (h45 : p ≤ 45) (h25 : n ≤ 25) (g : 40 < p) (hx : ¬ okS ⟨a, b, c, d⟩) : SF Try.prog 4 (V.atS (MARGS p s a b c d n w) (.bool true)) := by
  have f0 : decide ((45 : Int) < (p : Int)) = false := decide_eq_false (by omega)
  have f1 : decide ((25 : Int) < (n : Int)) = false := decide_eq_false (by omega)
  have hE : mixE p s = 3 := by unfold mixE chkStr; rw [if_pos (show (p : Int) > 40 by omega), if_neg (by decide)]
  have hV : mixV p s = zeroS := if_neg (by rw [hE]; decide)
  have h29 : SF Try.prog 29 (V.atS [.slice none p (fun i => strL (s i))] (.tup [encS (zeroS), I 3])) := by
    refine sf_at sf29 (.mk s (by omega) rfl) ?_
    show PV.tup [encS (mixV p s), I (mixE p s)] = _
    rw [hV, hE]
  have h30 : SF Try.prog 30 (V.atS [.slice none p (fun i => strL (s i))] (.slice none p (fun i => strL (s i)))) := sf_at sf30 (.mk s (by omega) rfl) rfl
  have m1 : decide ((40 : Int) < (p : Int)) = true := decide_eq_true (by omega)
  have hSE : shE ⟨a, b, c, d⟩ n w = 1 := if_neg hx
  have hSN : shN ⟨a, b, c, d⟩ n w = 0 := if_neg (by rw [hSE]; decide)
  have hSL : shL ⟨a, b, c, d⟩ n w = .agg [I 0, I 0, I 0] := if_neg (by rw [hSE]; decide)
  have h31 : SF Try.prog 31 (V.atS (FARGS a b c d n w) (.tup [.slice none 0 fun i => strL (shP ⟨a, b, c, d⟩ n w i), .agg [I 0, I 0, I 0], I 1])) := by
    refine sf_at sf31 (.mk w (by omega) rfl) ?_
    show PV.tup [.slice none (shN ⟨a, b, c, d⟩ n w) (fun i => strL (shP ⟨a, b, c, d⟩ n w i)), shL ⟨a, b, c, d⟩ n w, I (shE ⟨a, b, c, d⟩ n w)] = _
    rw [hSN, hSL, hSE]
  have h21 : SF Try.prog 21 (V.atS [.agg [.int .i64 a, .int .i64 b, .int .i64 c, .int .i64 d]] (.bool false)) := sf_at sf21 trivial (by show PV.bool (decide (okS ⟨a, b, c, d⟩)) = _; rw [decide_eq_false hx])
  refine sf_of types_ok mixed (l := [(17, awakeF), (23, strS), (30, _), (29, _), (31, _), (32, noF), (33, noF), (21, _), (34, noF), (35, noF), (36, noF)]) ⟨sf17f, sf23, h30, h29, h31, sf_noF sf32.2, sf_noF sf33.2, h21, sf_noF sf34b.2, sf_noF sf35.2, sf_noF sf36.2, trivial⟩ (es := []) trivial 3 Try.func4 rfl (by kernel_rfl) fun args h => ?_
  have h : args = MARGS p s a b c d n w := h
  subst h
  refine ⟨rfl, ?_⟩
  repeat' first
    | refine ⟨?_, ?_⟩
    | refine fun h => absurd h (by decide)
    | (refine fun h => ?_; exfalso; simp only [f0, f1, m1, cond_true, cond_false, Bool.not_true, Bool.not_false, Bool.not_not, Bool.and_true, Bool.true_and, Bool.and_false, Bool.false_and, Bool.or_true, Bool.true_or, Bool.or_false, Bool.false_or, beq_self_eq_true, bne_self_eq_false, Bool.true_eq_false, Bool.false_eq_true, reduceCtorEq, Bool.and_self, decide_true, decide_false, ite_true, ite_false, eq_self] at h; done)
    | refine fun (h : @Eq Bool _ _) => ?_
    | refine ple_ok ?_
  all_goals first
    | trivial
    | rfl
    | omega
    | exact fun _ _ => ⟨rfl, rfl⟩
    | (show n * 8 ≤ 140737488355328; omega)
    | (show @Eq Bool _ _; simp only [f0, f1, m1, cond_true, cond_false, Bool.not_true, Bool.not_false, Bool.not_not, Bool.and_true, Bool.true_and, Bool.and_false, Bool.false_and, Bool.or_true, Bool.true_or, Bool.or_false, Bool.false_or, beq_self_eq_true, bne_self_eq_false, Bool.true_eq_false, Bool.false_eq_true, reduceCtorEq, Bool.and_self, decide_true, decide_false, ite_true, ite_false, eq_self]; done)
    | skip
set_option maxRecDepth 100000 in
set_option maxHeartbeats 4000000 in
theorem mx1b (p : Nat) (s : Nat → Stream) (a b c d : Int) (n : Nat) (w : Nat → Int) (h45 : p ≤ 45) (h25 : n ≤ 25) (g : 40 < p) (hx : okS ⟨a, b, c, d⟩) (hwb : wtB n w = false) : SF Try.prog 4 (V.atS (MARGS p s a b c d n w) (.bool true)) := by
  have f0 : decide ((45 : Int) < (p : Int)) = false := decide_eq_false (by omega)
  have f1 : decide ((25 : Int) < (n : Int)) = false := decide_eq_false (by omega)
  have hE : mixE p s = 3 := by unfold mixE chkStr; rw [if_pos (show (p : Int) > 40 by omega), if_neg (by decide)]
  have hV : mixV p s = zeroS := if_neg (by rw [hE]; decide)
  have h29 : SF Try.prog 29 (V.atS [.slice none p (fun i => strL (s i))] (.tup [encS (zeroS), I 3])) := by
    refine sf_at sf29 (.mk s (by omega) rfl) ?_
    show PV.tup [encS (mixV p s), I (mixE p s)] = _
    rw [hV, hE]
  have h30 : SF Try.prog 30 (V.atS [.slice none p (fun i => strL (s i))] (.slice none p (fun i => strL (s i)))) := sf_at sf30 (.mk s (by omega) rfl) rfl
  have m1 : decide ((40 : Int) < (p : Int)) = true := decide_eq_true (by omega)
  have hSE : shE ⟨a, b, c, d⟩ n w = 1 := by unfold shE; rw [if_pos hx, hwb]; rfl
  have hSN : shN ⟨a, b, c, d⟩ n w = 0 := if_neg (by rw [hSE]; decide)
  have hSL : shL ⟨a, b, c, d⟩ n w = .agg [I 0, I 0, I 0] := if_neg (by rw [hSE]; decide)
  have h34 : SF Try.prog 34 (V.atS [.slice none n (fun i => intL (w i))] (.bool false)) := sf_at sf34b (.mk w (by omega) rfl) (by show PV.bool (wtB n w) = _; rw [hwb])
  have h31 : SF Try.prog 31 (V.atS (FARGS a b c d n w) (.tup [.slice none 0 fun i => strL (shP ⟨a, b, c, d⟩ n w i), .agg [I 0, I 0, I 0], I 1])) := by
    refine sf_at sf31 (.mk w (by omega) rfl) ?_
    show PV.tup [.slice none (shN ⟨a, b, c, d⟩ n w) (fun i => strL (shP ⟨a, b, c, d⟩ n w i)), shL ⟨a, b, c, d⟩ n w, I (shE ⟨a, b, c, d⟩ n w)] = _
    rw [hSN, hSL, hSE]
  have h21 : SF Try.prog 21 (V.atS [.agg [.int .i64 a, .int .i64 b, .int .i64 c, .int .i64 d]] (.bool true)) := sf_at sf21 trivial (by show PV.bool (decide (okS ⟨a, b, c, d⟩)) = _; rw [decide_eq_true hx])
  refine sf_of types_ok mixed (l := [(17, awakeF), (23, strS), (30, _), (29, _), (31, _), (32, noF), (33, noF), (21, _), (34, _), (35, noF), (36, noF)]) ⟨sf17f, sf23, h30, h29, h31, sf_noF sf32.2, sf_noF sf33.2, h21, h34, sf_noF sf35.2, sf_noF sf36.2, trivial⟩ (es := []) trivial 3 Try.func4 rfl (by kernel_rfl) fun args h => ?_
  have h : args = MARGS p s a b c d n w := h
  subst h
  refine ⟨rfl, ?_⟩
  repeat' first
    | refine ⟨?_, ?_⟩
    | refine fun h => absurd h (by decide)
    | (refine fun h => ?_; exfalso; simp only [f0, f1, m1, cond_true, cond_false, Bool.not_true, Bool.not_false, Bool.not_not, Bool.and_true, Bool.true_and, Bool.and_false, Bool.false_and, Bool.or_true, Bool.true_or, Bool.or_false, Bool.false_or, beq_self_eq_true, bne_self_eq_false, Bool.true_eq_false, Bool.false_eq_true, reduceCtorEq, Bool.and_self, decide_true, decide_false, ite_true, ite_false, eq_self] at h; done)
    | refine fun (h : @Eq Bool _ _) => ?_
    | refine ple_ok ?_
  all_goals first
    | trivial
    | rfl
    | omega
    | exact fun _ _ => ⟨rfl, rfl⟩
    | (show n * 8 ≤ 140737488355328; omega)
    | (show @Eq Bool _ _; simp only [f0, f1, m1, cond_true, cond_false, Bool.not_true, Bool.not_false, Bool.not_not, Bool.and_true, Bool.true_and, Bool.and_false, Bool.false_and, Bool.or_true, Bool.true_or, Bool.or_false, Bool.false_or, beq_self_eq_true, bne_self_eq_false, Bool.true_eq_false, Bool.false_eq_true, reduceCtorEq, Bool.and_self, decide_true, decide_false, ite_true, ite_false, eq_self]; done)
    | skip
set_option maxRecDepth 100000 in
set_option maxHeartbeats 4000000 in
theorem mx1c (p : Nat) (s : Nat → Stream) (a b c d : Int) (n : Nat) (w : Nat → Int) (h45 : p ≤ 45) (h25 : n ≤ 25) (g : 40 < p) (hx : okS ⟨a, b, c, d⟩) (hwb : wtB n w = true) : SF Try.prog 4 (V.atS (MARGS p s a b c d n w) (.bool true)) := by
  have f0 : decide ((45 : Int) < (p : Int)) = false := decide_eq_false (by omega)
  have f1 : decide ((25 : Int) < (n : Int)) = false := decide_eq_false (by omega)
  have hE : mixE p s = 3 := by unfold mixE chkStr; rw [if_pos (show (p : Int) > 40 by omega), if_neg (by decide)]
  have hV : mixV p s = zeroS := if_neg (by rw [hE]; decide)
  have h29 : SF Try.prog 29 (V.atS [.slice none p (fun i => strL (s i))] (.tup [encS (zeroS), I 3])) := by
    refine sf_at sf29 (.mk s (by omega) rfl) ?_
    show PV.tup [encS (mixV p s), I (mixE p s)] = _
    rw [hV, hE]
  have h30 : SF Try.prog 30 (V.atS [.slice none p (fun i => strL (s i))] (.slice none p (fun i => strL (s i)))) := sf_at sf30 (.mk s (by omega) rfl) rfl
  have m1 : decide ((40 : Int) < (p : Int)) = true := decide_eq_true (by omega)
  have hw := wtB_get hwb
  have hSE : shE ⟨a, b, c, d⟩ n w = 0 := by unfold shE; rw [if_pos hx, hwb]; rfl
  have hSN : shN ⟨a, b, c, d⟩ n w = n := if_pos hSE
  have hSL : shL ⟨a, b, c, d⟩ n w = .agg [I (b - (sumS (shP ⟨a, b, c, d⟩ n w) n).h), I (c - (sumS (shP ⟨a, b, c, d⟩ n w) n).s), I (d - (sumS (shP ⟨a, b, c, d⟩ n w) n).g)] := if_pos hSE
  have h34 : SF Try.prog 34 (V.atS [.slice none n (fun i => intL (w i))] (.bool true)) := sf_at sf34b (.mk w (by omega) rfl) (by show PV.bool (wtB n w) = _; rw [hwb])
  have h35 : SF Try.prog 35 (V.atS [.agg [.int .i64 a, .int .i64 b, .int .i64 c, .int .i64 d], .slice none n (fun i => intL (w i))] (.tup [.slice none n fun i => strL (shP ⟨a, b, c, d⟩ n w i), .agg [I (b - (sumS (shP ⟨a, b, c, d⟩ n w) n).h), I (c - (sumS (shP ⟨a, b, c, d⟩ n w) n).s), I (d - (sumS (shP ⟨a, b, c, d⟩ n w) n).g)]])) := sf_at sf35 (.mk w hx hw rfl) rfl
  have h36 : SF Try.prog 36 (V.atS [.slice none n fun i => strL (shP ⟨a, b, c, d⟩ n w i), .slice none n fun i => strL (shP ⟨a, b, c, d⟩ n w i)] (.bool true)) := sf_at sf36 (.mk (shP ⟨a, b, c, d⟩ n w) (shP ⟨a, b, c, d⟩ n w) (by have := hw.h2; omega) rfl (fun _ _ => rfl) rfl rfl) rfl
  have h31 : SF Try.prog 31 (V.atS (FARGS a b c d n w) (.tup [.slice none n fun i => strL (shP ⟨a, b, c, d⟩ n w i), .agg [I (b - (sumS (shP ⟨a, b, c, d⟩ n w) n).h), I (c - (sumS (shP ⟨a, b, c, d⟩ n w) n).s), I (d - (sumS (shP ⟨a, b, c, d⟩ n w) n).g)], I 0])) := by
    refine sf_at sf31 (.mk w (by omega) rfl) ?_
    show PV.tup [.slice none (shN ⟨a, b, c, d⟩ n w) (fun i => strL (shP ⟨a, b, c, d⟩ n w i)), shL ⟨a, b, c, d⟩ n w, I (shE ⟨a, b, c, d⟩ n w)] = _
    rw [hSN, hSL, hSE]
  have h21 : SF Try.prog 21 (V.atS [.agg [.int .i64 a, .int .i64 b, .int .i64 c, .int .i64 d]] (.bool true)) := sf_at sf21 trivial (by show PV.bool (decide (okS ⟨a, b, c, d⟩)) = _; rw [decide_eq_true hx])
  refine sf_of types_ok mixed (l := [(17, awakeF), (23, strS), (30, _), (29, _), (31, _), (32, noF), (33, noF), (21, _), (34, _), (35, _), (36, _)]) ⟨sf17f, sf23, h30, h29, h31, sf_noF sf32.2, sf_noF sf33.2, h21, h34, h35, h36, trivial⟩ (es := []) trivial 3 Try.func4 rfl (by kernel_rfl) fun args h => ?_
  have h : args = MARGS p s a b c d n w := h
  subst h
  refine ⟨rfl, ?_⟩
  repeat' first
    | refine ⟨?_, ?_⟩
    | refine fun h => absurd h (by decide)
    | (refine fun h => ?_; exfalso; simp only [f0, f1, m1, cond_true, cond_false, Bool.not_true, Bool.not_false, Bool.not_not, Bool.and_true, Bool.true_and, Bool.and_false, Bool.false_and, Bool.or_true, Bool.true_or, Bool.or_false, Bool.false_or, beq_self_eq_true, bne_self_eq_false, Bool.true_eq_false, Bool.false_eq_true, reduceCtorEq, Bool.and_self, decide_true, decide_false, ite_true, ite_false, eq_self] at h; done)
    | refine fun (h : @Eq Bool _ _) => ?_
    | refine ple_ok ?_
  all_goals first
    | trivial
    | rfl
    | omega
    | exact fun _ _ => ⟨rfl, rfl⟩
    | (show n * 8 ≤ 140737488355328; omega)
    | (show @Eq Bool _ _; simp only [f0, f1, m1, cond_true, cond_false, Bool.not_true, Bool.not_false, Bool.not_not, Bool.and_true, Bool.true_and, Bool.and_false, Bool.false_and, Bool.or_true, Bool.true_or, Bool.or_false, Bool.false_or, beq_self_eq_true, bne_self_eq_false, Bool.true_eq_false, Bool.false_eq_true, reduceCtorEq, Bool.and_self, decide_true, decide_false, ite_true, ite_false, eq_self]; done)
    | skip
set_option maxRecDepth 100000 in
set_option maxHeartbeats 4000000 in
theorem mx2a (p : Nat) (s : Nat → Stream) (a b c d : Int) (n : Nat) (w : Nat → Int) (h45 : p ≤ 45) (h25 : n ≤ 25) (g : p ≤ 40) (hA : (allB p fun i => okS (s i)) = false) (hx : ¬ okS ⟨a, b, c, d⟩) : SF Try.prog 4 (V.atS (MARGS p s a b c d n w) (.bool true)) := by
  have f0 : decide ((45 : Int) < (p : Int)) = false := decide_eq_false (by omega)
  have f1 : decide ((25 : Int) < (n : Int)) = false := decide_eq_false (by omega)
  have hE : mixE p s = 1 := by unfold mixE chkStr; rw [if_neg (show ¬ (p : Int) > 40 by omega), hA]; rfl
  have hV : mixV p s = zeroS := if_neg (by rw [hE]; decide)
  have h29 : SF Try.prog 29 (V.atS [.slice none p (fun i => strL (s i))] (.tup [encS (zeroS), I 1])) := by
    refine sf_at sf29 (.mk s (by omega) rfl) ?_
    show PV.tup [encS (mixV p s), I (mixE p s)] = _
    rw [hV, hE]
  have h30 : SF Try.prog 30 (V.atS [.slice none p (fun i => strL (s i))] (.slice none p (fun i => strL (s i)))) := sf_at sf30 (.mk s (by omega) rfl) rfl
  have h32 : SF Try.prog 32 (V.atS [.slice none p (fun i => strL (s i))] (.bool false)) := sf_at sf32 (.mk s (by omega) rfl) (by show PV.bool (allB p fun i => okS (s i)) = _; rw [hA])
  have m1 : decide ((40 : Int) < (p : Int)) = false := decide_eq_false (by omega)
  have hSE : shE ⟨a, b, c, d⟩ n w = 1 := if_neg hx
  have hSN : shN ⟨a, b, c, d⟩ n w = 0 := if_neg (by rw [hSE]; decide)
  have hSL : shL ⟨a, b, c, d⟩ n w = .agg [I 0, I 0, I 0] := if_neg (by rw [hSE]; decide)
  have h31 : SF Try.prog 31 (V.atS (FARGS a b c d n w) (.tup [.slice none 0 fun i => strL (shP ⟨a, b, c, d⟩ n w i), .agg [I 0, I 0, I 0], I 1])) := by
    refine sf_at sf31 (.mk w (by omega) rfl) ?_
    show PV.tup [.slice none (shN ⟨a, b, c, d⟩ n w) (fun i => strL (shP ⟨a, b, c, d⟩ n w i)), shL ⟨a, b, c, d⟩ n w, I (shE ⟨a, b, c, d⟩ n w)] = _
    rw [hSN, hSL, hSE]
  have h21 : SF Try.prog 21 (V.atS [.agg [.int .i64 a, .int .i64 b, .int .i64 c, .int .i64 d]] (.bool false)) := sf_at sf21 trivial (by show PV.bool (decide (okS ⟨a, b, c, d⟩)) = _; rw [decide_eq_false hx])
  refine sf_of types_ok mixed (l := [(17, awakeF), (23, strS), (30, _), (29, _), (31, _), (32, _), (33, noF), (21, _), (34, noF), (35, noF), (36, noF)]) ⟨sf17f, sf23, h30, h29, h31, h32, sf_noF sf33.2, h21, sf_noF sf34b.2, sf_noF sf35.2, sf_noF sf36.2, trivial⟩ (es := []) trivial 3 Try.func4 rfl (by kernel_rfl) fun args h => ?_
  have h : args = MARGS p s a b c d n w := h
  subst h
  refine ⟨rfl, ?_⟩
  repeat' first
    | refine ⟨?_, ?_⟩
    | refine fun h => absurd h (by decide)
    | (refine fun h => ?_; exfalso; simp only [f0, f1, m1, cond_true, cond_false, Bool.not_true, Bool.not_false, Bool.not_not, Bool.and_true, Bool.true_and, Bool.and_false, Bool.false_and, Bool.or_true, Bool.true_or, Bool.or_false, Bool.false_or, beq_self_eq_true, bne_self_eq_false, Bool.true_eq_false, Bool.false_eq_true, reduceCtorEq, Bool.and_self, decide_true, decide_false, ite_true, ite_false, eq_self] at h; done)
    | refine fun (h : @Eq Bool _ _) => ?_
    | refine ple_ok ?_
  all_goals first
    | trivial
    | rfl
    | omega
    | exact fun _ _ => ⟨rfl, rfl⟩
    | (show n * 8 ≤ 140737488355328; omega)
    | (show @Eq Bool _ _; simp only [f0, f1, m1, cond_true, cond_false, Bool.not_true, Bool.not_false, Bool.not_not, Bool.and_true, Bool.true_and, Bool.and_false, Bool.false_and, Bool.or_true, Bool.true_or, Bool.or_false, Bool.false_or, beq_self_eq_true, bne_self_eq_false, Bool.true_eq_false, Bool.false_eq_true, reduceCtorEq, Bool.and_self, decide_true, decide_false, ite_true, ite_false, eq_self]; done)
    | skip
set_option maxRecDepth 100000 in
set_option maxHeartbeats 4000000 in
theorem mx2b (p : Nat) (s : Nat → Stream) (a b c d : Int) (n : Nat) (w : Nat → Int) (h45 : p ≤ 45) (h25 : n ≤ 25) (g : p ≤ 40) (hA : (allB p fun i => okS (s i)) = false) (hx : okS ⟨a, b, c, d⟩) (hwb : wtB n w = false) : SF Try.prog 4 (V.atS (MARGS p s a b c d n w) (.bool true)) := by
  have f0 : decide ((45 : Int) < (p : Int)) = false := decide_eq_false (by omega)
  have f1 : decide ((25 : Int) < (n : Int)) = false := decide_eq_false (by omega)
  have hE : mixE p s = 1 := by unfold mixE chkStr; rw [if_neg (show ¬ (p : Int) > 40 by omega), hA]; rfl
  have hV : mixV p s = zeroS := if_neg (by rw [hE]; decide)
  have h29 : SF Try.prog 29 (V.atS [.slice none p (fun i => strL (s i))] (.tup [encS (zeroS), I 1])) := by
    refine sf_at sf29 (.mk s (by omega) rfl) ?_
    show PV.tup [encS (mixV p s), I (mixE p s)] = _
    rw [hV, hE]
  have h30 : SF Try.prog 30 (V.atS [.slice none p (fun i => strL (s i))] (.slice none p (fun i => strL (s i)))) := sf_at sf30 (.mk s (by omega) rfl) rfl
  have h32 : SF Try.prog 32 (V.atS [.slice none p (fun i => strL (s i))] (.bool false)) := sf_at sf32 (.mk s (by omega) rfl) (by show PV.bool (allB p fun i => okS (s i)) = _; rw [hA])
  have m1 : decide ((40 : Int) < (p : Int)) = false := decide_eq_false (by omega)
  have hSE : shE ⟨a, b, c, d⟩ n w = 1 := by unfold shE; rw [if_pos hx, hwb]; rfl
  have hSN : shN ⟨a, b, c, d⟩ n w = 0 := if_neg (by rw [hSE]; decide)
  have hSL : shL ⟨a, b, c, d⟩ n w = .agg [I 0, I 0, I 0] := if_neg (by rw [hSE]; decide)
  have h34 : SF Try.prog 34 (V.atS [.slice none n (fun i => intL (w i))] (.bool false)) := sf_at sf34b (.mk w (by omega) rfl) (by show PV.bool (wtB n w) = _; rw [hwb])
  have h31 : SF Try.prog 31 (V.atS (FARGS a b c d n w) (.tup [.slice none 0 fun i => strL (shP ⟨a, b, c, d⟩ n w i), .agg [I 0, I 0, I 0], I 1])) := by
    refine sf_at sf31 (.mk w (by omega) rfl) ?_
    show PV.tup [.slice none (shN ⟨a, b, c, d⟩ n w) (fun i => strL (shP ⟨a, b, c, d⟩ n w i)), shL ⟨a, b, c, d⟩ n w, I (shE ⟨a, b, c, d⟩ n w)] = _
    rw [hSN, hSL, hSE]
  have h21 : SF Try.prog 21 (V.atS [.agg [.int .i64 a, .int .i64 b, .int .i64 c, .int .i64 d]] (.bool true)) := sf_at sf21 trivial (by show PV.bool (decide (okS ⟨a, b, c, d⟩)) = _; rw [decide_eq_true hx])
  refine sf_of types_ok mixed (l := [(17, awakeF), (23, strS), (30, _), (29, _), (31, _), (32, _), (33, noF), (21, _), (34, _), (35, noF), (36, noF)]) ⟨sf17f, sf23, h30, h29, h31, h32, sf_noF sf33.2, h21, h34, sf_noF sf35.2, sf_noF sf36.2, trivial⟩ (es := []) trivial 3 Try.func4 rfl (by kernel_rfl) fun args h => ?_
  have h : args = MARGS p s a b c d n w := h
  subst h
  refine ⟨rfl, ?_⟩
  repeat' first
    | refine ⟨?_, ?_⟩
    | refine fun h => absurd h (by decide)
    | (refine fun h => ?_; exfalso; simp only [f0, f1, m1, cond_true, cond_false, Bool.not_true, Bool.not_false, Bool.not_not, Bool.and_true, Bool.true_and, Bool.and_false, Bool.false_and, Bool.or_true, Bool.true_or, Bool.or_false, Bool.false_or, beq_self_eq_true, bne_self_eq_false, Bool.true_eq_false, Bool.false_eq_true, reduceCtorEq, Bool.and_self, decide_true, decide_false, ite_true, ite_false, eq_self] at h; done)
    | refine fun (h : @Eq Bool _ _) => ?_
    | refine ple_ok ?_
  all_goals first
    | trivial
    | rfl
    | omega
    | exact fun _ _ => ⟨rfl, rfl⟩
    | (show n * 8 ≤ 140737488355328; omega)
    | (show @Eq Bool _ _; simp only [f0, f1, m1, cond_true, cond_false, Bool.not_true, Bool.not_false, Bool.not_not, Bool.and_true, Bool.true_and, Bool.and_false, Bool.false_and, Bool.or_true, Bool.true_or, Bool.or_false, Bool.false_or, beq_self_eq_true, bne_self_eq_false, Bool.true_eq_false, Bool.false_eq_true, reduceCtorEq, Bool.and_self, decide_true, decide_false, ite_true, ite_false, eq_self]; done)
    | skip
set_option maxRecDepth 100000 in
set_option maxHeartbeats 4000000 in
theorem mx2c (p : Nat) (s : Nat → Stream) (a b c d : Int) (n : Nat) (w : Nat → Int) (h45 : p ≤ 45) (h25 : n ≤ 25) (g : p ≤ 40) (hA : (allB p fun i => okS (s i)) = false) (hx : okS ⟨a, b, c, d⟩) (hwb : wtB n w = true) : SF Try.prog 4 (V.atS (MARGS p s a b c d n w) (.bool true)) := by
  have f0 : decide ((45 : Int) < (p : Int)) = false := decide_eq_false (by omega)
  have f1 : decide ((25 : Int) < (n : Int)) = false := decide_eq_false (by omega)
  have hE : mixE p s = 1 := by unfold mixE chkStr; rw [if_neg (show ¬ (p : Int) > 40 by omega), hA]; rfl
  have hV : mixV p s = zeroS := if_neg (by rw [hE]; decide)
  have h29 : SF Try.prog 29 (V.atS [.slice none p (fun i => strL (s i))] (.tup [encS (zeroS), I 1])) := by
    refine sf_at sf29 (.mk s (by omega) rfl) ?_
    show PV.tup [encS (mixV p s), I (mixE p s)] = _
    rw [hV, hE]
  have h30 : SF Try.prog 30 (V.atS [.slice none p (fun i => strL (s i))] (.slice none p (fun i => strL (s i)))) := sf_at sf30 (.mk s (by omega) rfl) rfl
  have h32 : SF Try.prog 32 (V.atS [.slice none p (fun i => strL (s i))] (.bool false)) := sf_at sf32 (.mk s (by omega) rfl) (by show PV.bool (allB p fun i => okS (s i)) = _; rw [hA])
  have m1 : decide ((40 : Int) < (p : Int)) = false := decide_eq_false (by omega)
  have hw := wtB_get hwb
  have hSE : shE ⟨a, b, c, d⟩ n w = 0 := by unfold shE; rw [if_pos hx, hwb]; rfl
  have hSN : shN ⟨a, b, c, d⟩ n w = n := if_pos hSE
  have hSL : shL ⟨a, b, c, d⟩ n w = .agg [I (b - (sumS (shP ⟨a, b, c, d⟩ n w) n).h), I (c - (sumS (shP ⟨a, b, c, d⟩ n w) n).s), I (d - (sumS (shP ⟨a, b, c, d⟩ n w) n).g)] := if_pos hSE
  have h34 : SF Try.prog 34 (V.atS [.slice none n (fun i => intL (w i))] (.bool true)) := sf_at sf34b (.mk w (by omega) rfl) (by show PV.bool (wtB n w) = _; rw [hwb])
  have h35 : SF Try.prog 35 (V.atS [.agg [.int .i64 a, .int .i64 b, .int .i64 c, .int .i64 d], .slice none n (fun i => intL (w i))] (.tup [.slice none n fun i => strL (shP ⟨a, b, c, d⟩ n w i), .agg [I (b - (sumS (shP ⟨a, b, c, d⟩ n w) n).h), I (c - (sumS (shP ⟨a, b, c, d⟩ n w) n).s), I (d - (sumS (shP ⟨a, b, c, d⟩ n w) n).g)]])) := sf_at sf35 (.mk w hx hw rfl) rfl
  have h36 : SF Try.prog 36 (V.atS [.slice none n fun i => strL (shP ⟨a, b, c, d⟩ n w i), .slice none n fun i => strL (shP ⟨a, b, c, d⟩ n w i)] (.bool true)) := sf_at sf36 (.mk (shP ⟨a, b, c, d⟩ n w) (shP ⟨a, b, c, d⟩ n w) (by have := hw.h2; omega) rfl (fun _ _ => rfl) rfl rfl) rfl
  have h31 : SF Try.prog 31 (V.atS (FARGS a b c d n w) (.tup [.slice none n fun i => strL (shP ⟨a, b, c, d⟩ n w i), .agg [I (b - (sumS (shP ⟨a, b, c, d⟩ n w) n).h), I (c - (sumS (shP ⟨a, b, c, d⟩ n w) n).s), I (d - (sumS (shP ⟨a, b, c, d⟩ n w) n).g)], I 0])) := by
    refine sf_at sf31 (.mk w (by omega) rfl) ?_
    show PV.tup [.slice none (shN ⟨a, b, c, d⟩ n w) (fun i => strL (shP ⟨a, b, c, d⟩ n w i)), shL ⟨a, b, c, d⟩ n w, I (shE ⟨a, b, c, d⟩ n w)] = _
    rw [hSN, hSL, hSE]
  have h21 : SF Try.prog 21 (V.atS [.agg [.int .i64 a, .int .i64 b, .int .i64 c, .int .i64 d]] (.bool true)) := sf_at sf21 trivial (by show PV.bool (decide (okS ⟨a, b, c, d⟩)) = _; rw [decide_eq_true hx])
  refine sf_of types_ok mixed (l := [(17, awakeF), (23, strS), (30, _), (29, _), (31, _), (32, _), (33, noF), (21, _), (34, _), (35, _), (36, _)]) ⟨sf17f, sf23, h30, h29, h31, h32, sf_noF sf33.2, h21, h34, h35, h36, trivial⟩ (es := []) trivial 3 Try.func4 rfl (by kernel_rfl) fun args h => ?_
  have h : args = MARGS p s a b c d n w := h
  subst h
  refine ⟨rfl, ?_⟩
  repeat' first
    | refine ⟨?_, ?_⟩
    | refine fun h => absurd h (by decide)
    | (refine fun h => ?_; exfalso; simp only [f0, f1, m1, cond_true, cond_false, Bool.not_true, Bool.not_false, Bool.not_not, Bool.and_true, Bool.true_and, Bool.and_false, Bool.false_and, Bool.or_true, Bool.true_or, Bool.or_false, Bool.false_or, beq_self_eq_true, bne_self_eq_false, Bool.true_eq_false, Bool.false_eq_true, reduceCtorEq, Bool.and_self, decide_true, decide_false, ite_true, ite_false, eq_self] at h; done)
    | refine fun (h : @Eq Bool _ _) => ?_
    | refine ple_ok ?_
  all_goals first
    | trivial
    | rfl
    | omega
    | exact fun _ _ => ⟨rfl, rfl⟩
    | (show n * 8 ≤ 140737488355328; omega)
    | (show @Eq Bool _ _; simp only [f0, f1, m1, cond_true, cond_false, Bool.not_true, Bool.not_false, Bool.not_not, Bool.and_true, Bool.true_and, Bool.and_false, Bool.false_and, Bool.or_true, Bool.true_or, Bool.or_false, Bool.false_or, beq_self_eq_true, bne_self_eq_false, Bool.true_eq_false, Bool.false_eq_true, reduceCtorEq, Bool.and_self, decide_true, decide_false, ite_true, ite_false, eq_self]; done)
    | skip
set_option maxRecDepth 100000 in
set_option maxHeartbeats 4000000 in
theorem mx3a (p : Nat) (s : Nat → Stream) (a b c d : Int) (n : Nat) (w : Nat → Int) (h45 : p ≤ 45) (h25 : n ≤ 25) (g : p ≤ 40) (hA : (allB p fun i => okS (s i)) = true) (g1 : 1000000 < (sumS s p).m) (hx : ¬ okS ⟨a, b, c, d⟩) : SF Try.prog 4 (V.atS (MARGS p s a b c d n w) (.bool true)) := by
  have f0 : decide ((45 : Int) < (p : Int)) = false := decide_eq_false (by omega)
  have f1 : decide ((25 : Int) < (n : Int)) = false := decide_eq_false (by omega)
  have hc : chkStr p s = 0 := by unfold chkStr; rw [if_neg (show ¬ (p : Int) > 40 by omega), hA]; rfl
  have hE : mixE p s = 3 := by unfold mixE; rw [if_pos hc, if_pos (Or.inl g1)]
  have hV : mixV p s = zeroS := if_neg (by rw [hE]; decide)
  have h29 : SF Try.prog 29 (V.atS [.slice none p (fun i => strL (s i))] (.tup [encS (zeroS), I 3])) := by
    refine sf_at sf29 (.mk s (by omega) rfl) ?_
    show PV.tup [encS (mixV p s), I (mixE p s)] = _
    rw [hV, hE]
  have h30 : SF Try.prog 30 (V.atS [.slice none p (fun i => strL (s i))] (.slice none p (fun i => strL (s i)))) := sf_at sf30 (.mk s (by omega) rfl) rfl
  have h32 : SF Try.prog 32 (V.atS [.slice none p (fun i => strL (s i))] (.bool true)) := sf_at sf32 (.mk s (by omega) rfl) (by show PV.bool (allB p fun i => okS (s i)) = _; rw [hA])
  have h33 : SF Try.prog 33 (V.atS [.slice none p (fun i => strL (s i))] (encS (sumS s p))) := sf_at sf33 (.mk s (by omega) (allB_get hA).all rfl) rfl
  have m1 : decide ((40 : Int) < (p : Int)) = false := decide_eq_false (by omega)
  have m2 : decide ((1000000 : Int) < (sumS s p).m) = true := decide_eq_true g1
  have hSE : shE ⟨a, b, c, d⟩ n w = 1 := if_neg hx
  have hSN : shN ⟨a, b, c, d⟩ n w = 0 := if_neg (by rw [hSE]; decide)
  have hSL : shL ⟨a, b, c, d⟩ n w = .agg [I 0, I 0, I 0] := if_neg (by rw [hSE]; decide)
  have h31 : SF Try.prog 31 (V.atS (FARGS a b c d n w) (.tup [.slice none 0 fun i => strL (shP ⟨a, b, c, d⟩ n w i), .agg [I 0, I 0, I 0], I 1])) := by
    refine sf_at sf31 (.mk w (by omega) rfl) ?_
    show PV.tup [.slice none (shN ⟨a, b, c, d⟩ n w) (fun i => strL (shP ⟨a, b, c, d⟩ n w i)), shL ⟨a, b, c, d⟩ n w, I (shE ⟨a, b, c, d⟩ n w)] = _
    rw [hSN, hSL, hSE]
  have h21 : SF Try.prog 21 (V.atS [.agg [.int .i64 a, .int .i64 b, .int .i64 c, .int .i64 d]] (.bool false)) := sf_at sf21 trivial (by show PV.bool (decide (okS ⟨a, b, c, d⟩)) = _; rw [decide_eq_false hx])
  refine sf_of types_ok mixed (l := [(17, awakeF), (23, strS), (30, _), (29, _), (31, _), (32, _), (33, _), (21, _), (34, noF), (35, noF), (36, noF)]) ⟨sf17f, sf23, h30, h29, h31, h32, h33, h21, sf_noF sf34b.2, sf_noF sf35.2, sf_noF sf36.2, trivial⟩ (es := []) trivial 3 Try.func4 rfl (by kernel_rfl) fun args h => ?_
  have h : args = MARGS p s a b c d n w := h
  subst h
  refine ⟨rfl, ?_⟩
  repeat' first
    | refine ⟨?_, ?_⟩
    | refine fun h => absurd h (by decide)
    | (refine fun h => ?_; exfalso; simp only [f0, f1, m1, m2, cond_true, cond_false, Bool.not_true, Bool.not_false, Bool.not_not, Bool.and_true, Bool.true_and, Bool.and_false, Bool.false_and, Bool.or_true, Bool.true_or, Bool.or_false, Bool.false_or, beq_self_eq_true, bne_self_eq_false, Bool.true_eq_false, Bool.false_eq_true, reduceCtorEq, Bool.and_self, decide_true, decide_false, ite_true, ite_false, eq_self] at h; done)
    | refine fun (h : @Eq Bool _ _) => ?_
    | refine ple_ok ?_
  all_goals first
    | trivial
    | rfl
    | omega
    | exact fun _ _ => ⟨rfl, rfl⟩
    | (show n * 8 ≤ 140737488355328; omega)
    | (show @Eq Bool _ _; simp only [f0, f1, m1, m2, cond_true, cond_false, Bool.not_true, Bool.not_false, Bool.not_not, Bool.and_true, Bool.true_and, Bool.and_false, Bool.false_and, Bool.or_true, Bool.true_or, Bool.or_false, Bool.false_or, beq_self_eq_true, bne_self_eq_false, Bool.true_eq_false, Bool.false_eq_true, reduceCtorEq, Bool.and_self, decide_true, decide_false, ite_true, ite_false, eq_self]; done)
    | skip
set_option maxRecDepth 100000 in
set_option maxHeartbeats 4000000 in
theorem mx3b (p : Nat) (s : Nat → Stream) (a b c d : Int) (n : Nat) (w : Nat → Int) (h45 : p ≤ 45) (h25 : n ≤ 25) (g : p ≤ 40) (hA : (allB p fun i => okS (s i)) = true) (g1 : 1000000 < (sumS s p).m) (hx : okS ⟨a, b, c, d⟩) (hwb : wtB n w = false) : SF Try.prog 4 (V.atS (MARGS p s a b c d n w) (.bool true)) := by
  have f0 : decide ((45 : Int) < (p : Int)) = false := decide_eq_false (by omega)
  have f1 : decide ((25 : Int) < (n : Int)) = false := decide_eq_false (by omega)
  have hc : chkStr p s = 0 := by unfold chkStr; rw [if_neg (show ¬ (p : Int) > 40 by omega), hA]; rfl
  have hE : mixE p s = 3 := by unfold mixE; rw [if_pos hc, if_pos (Or.inl g1)]
  have hV : mixV p s = zeroS := if_neg (by rw [hE]; decide)
  have h29 : SF Try.prog 29 (V.atS [.slice none p (fun i => strL (s i))] (.tup [encS (zeroS), I 3])) := by
    refine sf_at sf29 (.mk s (by omega) rfl) ?_
    show PV.tup [encS (mixV p s), I (mixE p s)] = _
    rw [hV, hE]
  have h30 : SF Try.prog 30 (V.atS [.slice none p (fun i => strL (s i))] (.slice none p (fun i => strL (s i)))) := sf_at sf30 (.mk s (by omega) rfl) rfl
  have h32 : SF Try.prog 32 (V.atS [.slice none p (fun i => strL (s i))] (.bool true)) := sf_at sf32 (.mk s (by omega) rfl) (by show PV.bool (allB p fun i => okS (s i)) = _; rw [hA])
  have h33 : SF Try.prog 33 (V.atS [.slice none p (fun i => strL (s i))] (encS (sumS s p))) := sf_at sf33 (.mk s (by omega) (allB_get hA).all rfl) rfl
  have m1 : decide ((40 : Int) < (p : Int)) = false := decide_eq_false (by omega)
  have m2 : decide ((1000000 : Int) < (sumS s p).m) = true := decide_eq_true g1
  have hSE : shE ⟨a, b, c, d⟩ n w = 1 := by unfold shE; rw [if_pos hx, hwb]; rfl
  have hSN : shN ⟨a, b, c, d⟩ n w = 0 := if_neg (by rw [hSE]; decide)
  have hSL : shL ⟨a, b, c, d⟩ n w = .agg [I 0, I 0, I 0] := if_neg (by rw [hSE]; decide)
  have h34 : SF Try.prog 34 (V.atS [.slice none n (fun i => intL (w i))] (.bool false)) := sf_at sf34b (.mk w (by omega) rfl) (by show PV.bool (wtB n w) = _; rw [hwb])
  have h31 : SF Try.prog 31 (V.atS (FARGS a b c d n w) (.tup [.slice none 0 fun i => strL (shP ⟨a, b, c, d⟩ n w i), .agg [I 0, I 0, I 0], I 1])) := by
    refine sf_at sf31 (.mk w (by omega) rfl) ?_
    show PV.tup [.slice none (shN ⟨a, b, c, d⟩ n w) (fun i => strL (shP ⟨a, b, c, d⟩ n w i)), shL ⟨a, b, c, d⟩ n w, I (shE ⟨a, b, c, d⟩ n w)] = _
    rw [hSN, hSL, hSE]
  have h21 : SF Try.prog 21 (V.atS [.agg [.int .i64 a, .int .i64 b, .int .i64 c, .int .i64 d]] (.bool true)) := sf_at sf21 trivial (by show PV.bool (decide (okS ⟨a, b, c, d⟩)) = _; rw [decide_eq_true hx])
  refine sf_of types_ok mixed (l := [(17, awakeF), (23, strS), (30, _), (29, _), (31, _), (32, _), (33, _), (21, _), (34, _), (35, noF), (36, noF)]) ⟨sf17f, sf23, h30, h29, h31, h32, h33, h21, h34, sf_noF sf35.2, sf_noF sf36.2, trivial⟩ (es := []) trivial 3 Try.func4 rfl (by kernel_rfl) fun args h => ?_
  have h : args = MARGS p s a b c d n w := h
  subst h
  refine ⟨rfl, ?_⟩
  repeat' first
    | refine ⟨?_, ?_⟩
    | refine fun h => absurd h (by decide)
    | (refine fun h => ?_; exfalso; simp only [f0, f1, m1, m2, cond_true, cond_false, Bool.not_true, Bool.not_false, Bool.not_not, Bool.and_true, Bool.true_and, Bool.and_false, Bool.false_and, Bool.or_true, Bool.true_or, Bool.or_false, Bool.false_or, beq_self_eq_true, bne_self_eq_false, Bool.true_eq_false, Bool.false_eq_true, reduceCtorEq, Bool.and_self, decide_true, decide_false, ite_true, ite_false, eq_self] at h; done)
    | refine fun (h : @Eq Bool _ _) => ?_
    | refine ple_ok ?_
  all_goals first
    | trivial
    | rfl
    | omega
    | exact fun _ _ => ⟨rfl, rfl⟩
    | (show n * 8 ≤ 140737488355328; omega)
    | (show @Eq Bool _ _; simp only [f0, f1, m1, m2, cond_true, cond_false, Bool.not_true, Bool.not_false, Bool.not_not, Bool.and_true, Bool.true_and, Bool.and_false, Bool.false_and, Bool.or_true, Bool.true_or, Bool.or_false, Bool.false_or, beq_self_eq_true, bne_self_eq_false, Bool.true_eq_false, Bool.false_eq_true, reduceCtorEq, Bool.and_self, decide_true, decide_false, ite_true, ite_false, eq_self]; done)
    | skip
set_option maxRecDepth 100000 in
set_option maxHeartbeats 4000000 in
theorem mx3c (p : Nat) (s : Nat → Stream) (a b c d : Int) (n : Nat) (w : Nat → Int) (h45 : p ≤ 45) (h25 : n ≤ 25) (g : p ≤ 40) (hA : (allB p fun i => okS (s i)) = true) (g1 : 1000000 < (sumS s p).m) (hx : okS ⟨a, b, c, d⟩) (hwb : wtB n w = true) : SF Try.prog 4 (V.atS (MARGS p s a b c d n w) (.bool true)) := by
  have f0 : decide ((45 : Int) < (p : Int)) = false := decide_eq_false (by omega)
  have f1 : decide ((25 : Int) < (n : Int)) = false := decide_eq_false (by omega)
  have hc : chkStr p s = 0 := by unfold chkStr; rw [if_neg (show ¬ (p : Int) > 40 by omega), hA]; rfl
  have hE : mixE p s = 3 := by unfold mixE; rw [if_pos hc, if_pos (Or.inl g1)]
  have hV : mixV p s = zeroS := if_neg (by rw [hE]; decide)
  have h29 : SF Try.prog 29 (V.atS [.slice none p (fun i => strL (s i))] (.tup [encS (zeroS), I 3])) := by
    refine sf_at sf29 (.mk s (by omega) rfl) ?_
    show PV.tup [encS (mixV p s), I (mixE p s)] = _
    rw [hV, hE]
  have h30 : SF Try.prog 30 (V.atS [.slice none p (fun i => strL (s i))] (.slice none p (fun i => strL (s i)))) := sf_at sf30 (.mk s (by omega) rfl) rfl
  have h32 : SF Try.prog 32 (V.atS [.slice none p (fun i => strL (s i))] (.bool true)) := sf_at sf32 (.mk s (by omega) rfl) (by show PV.bool (allB p fun i => okS (s i)) = _; rw [hA])
  have h33 : SF Try.prog 33 (V.atS [.slice none p (fun i => strL (s i))] (encS (sumS s p))) := sf_at sf33 (.mk s (by omega) (allB_get hA).all rfl) rfl
  have m1 : decide ((40 : Int) < (p : Int)) = false := decide_eq_false (by omega)
  have m2 : decide ((1000000 : Int) < (sumS s p).m) = true := decide_eq_true g1
  have hw := wtB_get hwb
  have hSE : shE ⟨a, b, c, d⟩ n w = 0 := by unfold shE; rw [if_pos hx, hwb]; rfl
  have hSN : shN ⟨a, b, c, d⟩ n w = n := if_pos hSE
  have hSL : shL ⟨a, b, c, d⟩ n w = .agg [I (b - (sumS (shP ⟨a, b, c, d⟩ n w) n).h), I (c - (sumS (shP ⟨a, b, c, d⟩ n w) n).s), I (d - (sumS (shP ⟨a, b, c, d⟩ n w) n).g)] := if_pos hSE
  have h34 : SF Try.prog 34 (V.atS [.slice none n (fun i => intL (w i))] (.bool true)) := sf_at sf34b (.mk w (by omega) rfl) (by show PV.bool (wtB n w) = _; rw [hwb])
  have h35 : SF Try.prog 35 (V.atS [.agg [.int .i64 a, .int .i64 b, .int .i64 c, .int .i64 d], .slice none n (fun i => intL (w i))] (.tup [.slice none n fun i => strL (shP ⟨a, b, c, d⟩ n w i), .agg [I (b - (sumS (shP ⟨a, b, c, d⟩ n w) n).h), I (c - (sumS (shP ⟨a, b, c, d⟩ n w) n).s), I (d - (sumS (shP ⟨a, b, c, d⟩ n w) n).g)]])) := sf_at sf35 (.mk w hx hw rfl) rfl
  have h36 : SF Try.prog 36 (V.atS [.slice none n fun i => strL (shP ⟨a, b, c, d⟩ n w i), .slice none n fun i => strL (shP ⟨a, b, c, d⟩ n w i)] (.bool true)) := sf_at sf36 (.mk (shP ⟨a, b, c, d⟩ n w) (shP ⟨a, b, c, d⟩ n w) (by have := hw.h2; omega) rfl (fun _ _ => rfl) rfl rfl) rfl
  have h31 : SF Try.prog 31 (V.atS (FARGS a b c d n w) (.tup [.slice none n fun i => strL (shP ⟨a, b, c, d⟩ n w i), .agg [I (b - (sumS (shP ⟨a, b, c, d⟩ n w) n).h), I (c - (sumS (shP ⟨a, b, c, d⟩ n w) n).s), I (d - (sumS (shP ⟨a, b, c, d⟩ n w) n).g)], I 0])) := by
    refine sf_at sf31 (.mk w (by omega) rfl) ?_
    show PV.tup [.slice none (shN ⟨a, b, c, d⟩ n w) (fun i => strL (shP ⟨a, b, c, d⟩ n w i)), shL ⟨a, b, c, d⟩ n w, I (shE ⟨a, b, c, d⟩ n w)] = _
    rw [hSN, hSL, hSE]
  have h21 : SF Try.prog 21 (V.atS [.agg [.int .i64 a, .int .i64 b, .int .i64 c, .int .i64 d]] (.bool true)) := sf_at sf21 trivial (by show PV.bool (decide (okS ⟨a, b, c, d⟩)) = _; rw [decide_eq_true hx])
  refine sf_of types_ok mixed (l := [(17, awakeF), (23, strS), (30, _), (29, _), (31, _), (32, _), (33, _), (21, _), (34, _), (35, _), (36, _)]) ⟨sf17f, sf23, h30, h29, h31, h32, h33, h21, h34, h35, h36, trivial⟩ (es := []) trivial 3 Try.func4 rfl (by kernel_rfl) fun args h => ?_
  have h : args = MARGS p s a b c d n w := h
  subst h
  refine ⟨rfl, ?_⟩
  repeat' first
    | refine ⟨?_, ?_⟩
    | refine fun h => absurd h (by decide)
    | (refine fun h => ?_; exfalso; simp only [f0, f1, m1, m2, cond_true, cond_false, Bool.not_true, Bool.not_false, Bool.not_not, Bool.and_true, Bool.true_and, Bool.and_false, Bool.false_and, Bool.or_true, Bool.true_or, Bool.or_false, Bool.false_or, beq_self_eq_true, bne_self_eq_false, Bool.true_eq_false, Bool.false_eq_true, reduceCtorEq, Bool.and_self, decide_true, decide_false, ite_true, ite_false, eq_self] at h; done)
    | refine fun (h : @Eq Bool _ _) => ?_
    | refine ple_ok ?_
  all_goals first
    | trivial
    | rfl
    | omega
    | exact fun _ _ => ⟨rfl, rfl⟩
    | (show n * 8 ≤ 140737488355328; omega)
    | (show @Eq Bool _ _; simp only [f0, f1, m1, m2, cond_true, cond_false, Bool.not_true, Bool.not_false, Bool.not_not, Bool.and_true, Bool.true_and, Bool.and_false, Bool.false_and, Bool.or_true, Bool.true_or, Bool.or_false, Bool.false_or, beq_self_eq_true, bne_self_eq_false, Bool.true_eq_false, Bool.false_eq_true, reduceCtorEq, Bool.and_self, decide_true, decide_false, ite_true, ite_false, eq_self]; done)
    | skip
set_option maxRecDepth 100000 in
set_option maxHeartbeats 4000000 in
theorem mx4a (p : Nat) (s : Nat → Stream) (a b c d : Int) (n : Nat) (w : Nat → Int) (h45 : p ≤ 45) (h25 : n ≤ 25) (g : p ≤ 40) (hA : (allB p fun i => okS (s i)) = true) (g1 : ¬ 1000000 < (sumS s p).m) (g2 : 1000000000 < (sumS s p).g) (hx : ¬ okS ⟨a, b, c, d⟩) : SF Try.prog 4 (V.atS (MARGS p s a b c d n w) (.bool true)) := by
  have f0 : decide ((45 : Int) < (p : Int)) = false := decide_eq_false (by omega)
  have f1 : decide ((25 : Int) < (n : Int)) = false := decide_eq_false (by omega)
  have hc : chkStr p s = 0 := by unfold chkStr; rw [if_neg (show ¬ (p : Int) > 40 by omega), hA]; rfl
  have hE : mixE p s = 3 := by unfold mixE; rw [if_pos hc, if_pos (Or.inr g2)]
  have hV : mixV p s = zeroS := if_neg (by rw [hE]; decide)
  have h29 : SF Try.prog 29 (V.atS [.slice none p (fun i => strL (s i))] (.tup [encS (zeroS), I 3])) := by
    refine sf_at sf29 (.mk s (by omega) rfl) ?_
    show PV.tup [encS (mixV p s), I (mixE p s)] = _
    rw [hV, hE]
  have h30 : SF Try.prog 30 (V.atS [.slice none p (fun i => strL (s i))] (.slice none p (fun i => strL (s i)))) := sf_at sf30 (.mk s (by omega) rfl) rfl
  have h32 : SF Try.prog 32 (V.atS [.slice none p (fun i => strL (s i))] (.bool true)) := sf_at sf32 (.mk s (by omega) rfl) (by show PV.bool (allB p fun i => okS (s i)) = _; rw [hA])
  have h33 : SF Try.prog 33 (V.atS [.slice none p (fun i => strL (s i))] (encS (sumS s p))) := sf_at sf33 (.mk s (by omega) (allB_get hA).all rfl) rfl
  have m1 : decide ((40 : Int) < (p : Int)) = false := decide_eq_false (by omega)
  have m2 : decide ((1000000 : Int) < (sumS s p).m) = false := decide_eq_false g1
  have m3 : decide ((1000000000 : Int) < (sumS s p).g) = true := decide_eq_true g2
  have hSE : shE ⟨a, b, c, d⟩ n w = 1 := if_neg hx
  have hSN : shN ⟨a, b, c, d⟩ n w = 0 := if_neg (by rw [hSE]; decide)
  have hSL : shL ⟨a, b, c, d⟩ n w = .agg [I 0, I 0, I 0] := if_neg (by rw [hSE]; decide)
  have h31 : SF Try.prog 31 (V.atS (FARGS a b c d n w) (.tup [.slice none 0 fun i => strL (shP ⟨a, b, c, d⟩ n w i), .agg [I 0, I 0, I 0], I 1])) := by
    refine sf_at sf31 (.mk w (by omega) rfl) ?_
    show PV.tup [.slice none (shN ⟨a, b, c, d⟩ n w) (fun i => strL (shP ⟨a, b, c, d⟩ n w i)), shL ⟨a, b, c, d⟩ n w, I (shE ⟨a, b, c, d⟩ n w)] = _
    rw [hSN, hSL, hSE]
  have h21 : SF Try.prog 21 (V.atS [.agg [.int .i64 a, .int .i64 b, .int .i64 c, .int .i64 d]] (.bool false)) := sf_at sf21 trivial (by show PV.bool (decide (okS ⟨a, b, c, d⟩)) = _; rw [decide_eq_false hx])
  refine sf_of types_ok mixed (l := [(17, awakeF), (23, strS), (30, _), (29, _), (31, _), (32, _), (33, _), (21, _), (34, noF), (35, noF), (36, noF)]) ⟨sf17f, sf23, h30, h29, h31, h32, h33, h21, sf_noF sf34b.2, sf_noF sf35.2, sf_noF sf36.2, trivial⟩ (es := []) trivial 3 Try.func4 rfl (by kernel_rfl) fun args h => ?_
  have h : args = MARGS p s a b c d n w := h
  subst h
  refine ⟨rfl, ?_⟩
  repeat' first
    | refine ⟨?_, ?_⟩
    | refine fun h => absurd h (by decide)
    | (refine fun h => ?_; exfalso; simp only [f0, f1, m1, m2, m3, cond_true, cond_false, Bool.not_true, Bool.not_false, Bool.not_not, Bool.and_true, Bool.true_and, Bool.and_false, Bool.false_and, Bool.or_true, Bool.true_or, Bool.or_false, Bool.false_or, beq_self_eq_true, bne_self_eq_false, Bool.true_eq_false, Bool.false_eq_true, reduceCtorEq, Bool.and_self, decide_true, decide_false, ite_true, ite_false, eq_self] at h; done)
    | refine fun (h : @Eq Bool _ _) => ?_
    | refine ple_ok ?_
  all_goals first
    | trivial
    | rfl
    | omega
    | exact fun _ _ => ⟨rfl, rfl⟩
    | (show n * 8 ≤ 140737488355328; omega)
    | (show @Eq Bool _ _; simp only [f0, f1, m1, m2, m3, cond_true, cond_false, Bool.not_true, Bool.not_false, Bool.not_not, Bool.and_true, Bool.true_and, Bool.and_false, Bool.false_and, Bool.or_true, Bool.true_or, Bool.or_false, Bool.false_or, beq_self_eq_true, bne_self_eq_false, Bool.true_eq_false, Bool.false_eq_true, reduceCtorEq, Bool.and_self, decide_true, decide_false, ite_true, ite_false, eq_self]; done)
    | skip
set_option maxRecDepth 100000 in
set_option maxHeartbeats 4000000 in
theorem mx4b (p : Nat) (s : Nat → Stream) (a b c d : Int) (n : Nat) (w : Nat → Int) (h45 : p ≤ 45) (h25 : n ≤ 25) (g : p ≤ 40) (hA : (allB p fun i => okS (s i)) = true) (g1 : ¬ 1000000 < (sumS s p).m) (g2 : 1000000000 < (sumS s p).g) (hx : okS ⟨a, b, c, d⟩) (hwb : wtB n w = false) : SF Try.prog 4 (V.atS (MARGS p s a b c d n w) (.bool true)) := by
  have f0 : decide ((45 : Int) < (p : Int)) = false := decide_eq_false (by omega)
  have f1 : decide ((25 : Int) < (n : Int)) = false := decide_eq_false (by omega)
  have hc : chkStr p s = 0 := by unfold chkStr; rw [if_neg (show ¬ (p : Int) > 40 by omega), hA]; rfl
  have hE : mixE p s = 3 := by unfold mixE; rw [if_pos hc, if_pos (Or.inr g2)]
  have hV : mixV p s = zeroS := if_neg (by rw [hE]; decide)
  have h29 : SF Try.prog 29 (V.atS [.slice none p (fun i => strL (s i))] (.tup [encS (zeroS), I 3])) := by
    refine sf_at sf29 (.mk s (by omega) rfl) ?_
    show PV.tup [encS (mixV p s), I (mixE p s)] = _
    rw [hV, hE]
  have h30 : SF Try.prog 30 (V.atS [.slice none p (fun i => strL (s i))] (.slice none p (fun i => strL (s i)))) := sf_at sf30 (.mk s (by omega) rfl) rfl
  have h32 : SF Try.prog 32 (V.atS [.slice none p (fun i => strL (s i))] (.bool true)) := sf_at sf32 (.mk s (by omega) rfl) (by show PV.bool (allB p fun i => okS (s i)) = _; rw [hA])
  have h33 : SF Try.prog 33 (V.atS [.slice none p (fun i => strL (s i))] (encS (sumS s p))) := sf_at sf33 (.mk s (by omega) (allB_get hA).all rfl) rfl
  have m1 : decide ((40 : Int) < (p : Int)) = false := decide_eq_false (by omega)
  have m2 : decide ((1000000 : Int) < (sumS s p).m) = false := decide_eq_false g1
  have m3 : decide ((1000000000 : Int) < (sumS s p).g) = true := decide_eq_true g2
  have hSE : shE ⟨a, b, c, d⟩ n w = 1 := by unfold shE; rw [if_pos hx, hwb]; rfl
  have hSN : shN ⟨a, b, c, d⟩ n w = 0 := if_neg (by rw [hSE]; decide)
  have hSL : shL ⟨a, b, c, d⟩ n w = .agg [I 0, I 0, I 0] := if_neg (by rw [hSE]; decide)
  have h34 : SF Try.prog 34 (V.atS [.slice none n (fun i => intL (w i))] (.bool false)) := sf_at sf34b (.mk w (by omega) rfl) (by show PV.bool (wtB n w) = _; rw [hwb])
  have h31 : SF Try.prog 31 (V.atS (FARGS a b c d n w) (.tup [.slice none 0 fun i => strL (shP ⟨a, b, c, d⟩ n w i), .agg [I 0, I 0, I 0], I 1])) := by
    refine sf_at sf31 (.mk w (by omega) rfl) ?_
    show PV.tup [.slice none (shN ⟨a, b, c, d⟩ n w) (fun i => strL (shP ⟨a, b, c, d⟩ n w i)), shL ⟨a, b, c, d⟩ n w, I (shE ⟨a, b, c, d⟩ n w)] = _
    rw [hSN, hSL, hSE]
  have h21 : SF Try.prog 21 (V.atS [.agg [.int .i64 a, .int .i64 b, .int .i64 c, .int .i64 d]] (.bool true)) := sf_at sf21 trivial (by show PV.bool (decide (okS ⟨a, b, c, d⟩)) = _; rw [decide_eq_true hx])
  refine sf_of types_ok mixed (l := [(17, awakeF), (23, strS), (30, _), (29, _), (31, _), (32, _), (33, _), (21, _), (34, _), (35, noF), (36, noF)]) ⟨sf17f, sf23, h30, h29, h31, h32, h33, h21, h34, sf_noF sf35.2, sf_noF sf36.2, trivial⟩ (es := []) trivial 3 Try.func4 rfl (by kernel_rfl) fun args h => ?_
  have h : args = MARGS p s a b c d n w := h
  subst h
  refine ⟨rfl, ?_⟩
  repeat' first
    | refine ⟨?_, ?_⟩
    | refine fun h => absurd h (by decide)
    | (refine fun h => ?_; exfalso; simp only [f0, f1, m1, m2, m3, cond_true, cond_false, Bool.not_true, Bool.not_false, Bool.not_not, Bool.and_true, Bool.true_and, Bool.and_false, Bool.false_and, Bool.or_true, Bool.true_or, Bool.or_false, Bool.false_or, beq_self_eq_true, bne_self_eq_false, Bool.true_eq_false, Bool.false_eq_true, reduceCtorEq, Bool.and_self, decide_true, decide_false, ite_true, ite_false, eq_self] at h; done)
    | refine fun (h : @Eq Bool _ _) => ?_
    | refine ple_ok ?_
  all_goals first
    | trivial
    | rfl
    | omega
    | exact fun _ _ => ⟨rfl, rfl⟩
    | (show n * 8 ≤ 140737488355328; omega)
    | (show @Eq Bool _ _; simp only [f0, f1, m1, m2, m3, cond_true, cond_false, Bool.not_true, Bool.not_false, Bool.not_not, Bool.and_true, Bool.true_and, Bool.and_false, Bool.false_and, Bool.or_true, Bool.true_or, Bool.or_false, Bool.false_or, beq_self_eq_true, bne_self_eq_false, Bool.true_eq_false, Bool.false_eq_true, reduceCtorEq, Bool.and_self, decide_true, decide_false, ite_true, ite_false, eq_self]; done)
    | skip
set_option maxRecDepth 100000 in
set_option maxHeartbeats 4000000 in
theorem mx4c (p : Nat) (s : Nat → Stream) (a b c d : Int) (n : Nat) (w : Nat → Int) (h45 : p ≤ 45) (h25 : n ≤ 25) (g : p ≤ 40) (hA : (allB p fun i => okS (s i)) = true) (g1 : ¬ 1000000 < (sumS s p).m) (g2 : 1000000000 < (sumS s p).g) (hx : okS ⟨a, b, c, d⟩) (hwb : wtB n w = true) : SF Try.prog 4 (V.atS (MARGS p s a b c d n w) (.bool true)) := by
  have f0 : decide ((45 : Int) < (p : Int)) = false := decide_eq_false (by omega)
  have f1 : decide ((25 : Int) < (n : Int)) = false := decide_eq_false (by omega)
  have hc : chkStr p s = 0 := by unfold chkStr; rw [if_neg (show ¬ (p : Int) > 40 by omega), hA]; rfl
  have hE : mixE p s = 3 := by unfold mixE; rw [if_pos hc, if_pos (Or.inr g2)]
  have hV : mixV p s = zeroS := if_neg (by rw [hE]; decide)
  have h29 : SF Try.prog 29 (V.atS [.slice none p (fun i => strL (s i))] (.tup [encS (zeroS), I 3])) := by
    refine sf_at sf29 (.mk s (by omega) rfl) ?_
    show PV.tup [encS (mixV p s), I (mixE p s)] = _
    rw [hV, hE]
  have h30 : SF Try.prog 30 (V.atS [.slice none p (fun i => strL (s i))] (.slice none p (fun i => strL (s i)))) := sf_at sf30 (.mk s (by omega) rfl) rfl
  have h32 : SF Try.prog 32 (V.atS [.slice none p (fun i => strL (s i))] (.bool true)) := sf_at sf32 (.mk s (by omega) rfl) (by show PV.bool (allB p fun i => okS (s i)) = _; rw [hA])
  have h33 : SF Try.prog 33 (V.atS [.slice none p (fun i => strL (s i))] (encS (sumS s p))) := sf_at sf33 (.mk s (by omega) (allB_get hA).all rfl) rfl
  have m1 : decide ((40 : Int) < (p : Int)) = false := decide_eq_false (by omega)
  have m2 : decide ((1000000 : Int) < (sumS s p).m) = false := decide_eq_false g1
  have m3 : decide ((1000000000 : Int) < (sumS s p).g) = true := decide_eq_true g2
  have hw := wtB_get hwb
  have hSE : shE ⟨a, b, c, d⟩ n w = 0 := by unfold shE; rw [if_pos hx, hwb]; rfl
  have hSN : shN ⟨a, b, c, d⟩ n w = n := if_pos hSE
  have hSL : shL ⟨a, b, c, d⟩ n w = .agg [I (b - (sumS (shP ⟨a, b, c, d⟩ n w) n).h), I (c - (sumS (shP ⟨a, b, c, d⟩ n w) n).s), I (d - (sumS (shP ⟨a, b, c, d⟩ n w) n).g)] := if_pos hSE
  have h34 : SF Try.prog 34 (V.atS [.slice none n (fun i => intL (w i))] (.bool true)) := sf_at sf34b (.mk w (by omega) rfl) (by show PV.bool (wtB n w) = _; rw [hwb])
  have h35 : SF Try.prog 35 (V.atS [.agg [.int .i64 a, .int .i64 b, .int .i64 c, .int .i64 d], .slice none n (fun i => intL (w i))] (.tup [.slice none n fun i => strL (shP ⟨a, b, c, d⟩ n w i), .agg [I (b - (sumS (shP ⟨a, b, c, d⟩ n w) n).h), I (c - (sumS (shP ⟨a, b, c, d⟩ n w) n).s), I (d - (sumS (shP ⟨a, b, c, d⟩ n w) n).g)]])) := sf_at sf35 (.mk w hx hw rfl) rfl
  have h36 : SF Try.prog 36 (V.atS [.slice none n fun i => strL (shP ⟨a, b, c, d⟩ n w i), .slice none n fun i => strL (shP ⟨a, b, c, d⟩ n w i)] (.bool true)) := sf_at sf36 (.mk (shP ⟨a, b, c, d⟩ n w) (shP ⟨a, b, c, d⟩ n w) (by have := hw.h2; omega) rfl (fun _ _ => rfl) rfl rfl) rfl
  have h31 : SF Try.prog 31 (V.atS (FARGS a b c d n w) (.tup [.slice none n fun i => strL (shP ⟨a, b, c, d⟩ n w i), .agg [I (b - (sumS (shP ⟨a, b, c, d⟩ n w) n).h), I (c - (sumS (shP ⟨a, b, c, d⟩ n w) n).s), I (d - (sumS (shP ⟨a, b, c, d⟩ n w) n).g)], I 0])) := by
    refine sf_at sf31 (.mk w (by omega) rfl) ?_
    show PV.tup [.slice none (shN ⟨a, b, c, d⟩ n w) (fun i => strL (shP ⟨a, b, c, d⟩ n w i)), shL ⟨a, b, c, d⟩ n w, I (shE ⟨a, b, c, d⟩ n w)] = _
    rw [hSN, hSL, hSE]
  have h21 : SF Try.prog 21 (V.atS [.agg [.int .i64 a, .int .i64 b, .int .i64 c, .int .i64 d]] (.bool true)) := sf_at sf21 trivial (by show PV.bool (decide (okS ⟨a, b, c, d⟩)) = _; rw [decide_eq_true hx])
  refine sf_of types_ok mixed (l := [(17, awakeF), (23, strS), (30, _), (29, _), (31, _), (32, _), (33, _), (21, _), (34, _), (35, _), (36, _)]) ⟨sf17f, sf23, h30, h29, h31, h32, h33, h21, h34, h35, h36, trivial⟩ (es := []) trivial 3 Try.func4 rfl (by kernel_rfl) fun args h => ?_
  have h : args = MARGS p s a b c d n w := h
  subst h
  refine ⟨rfl, ?_⟩
  repeat' first
    | refine ⟨?_, ?_⟩
    | refine fun h => absurd h (by decide)
    | (refine fun h => ?_; exfalso; simp only [f0, f1, m1, m2, m3, cond_true, cond_false, Bool.not_true, Bool.not_false, Bool.not_not, Bool.and_true, Bool.true_and, Bool.and_false, Bool.false_and, Bool.or_true, Bool.true_or, Bool.or_false, Bool.false_or, beq_self_eq_true, bne_self_eq_false, Bool.true_eq_false, Bool.false_eq_true, reduceCtorEq, Bool.and_self, decide_true, decide_false, ite_true, ite_false, eq_self] at h; done)
    | refine fun (h : @Eq Bool _ _) => ?_
    | refine ple_ok ?_
  all_goals first
    | trivial
    | rfl
    | omega
    | exact fun _ _ => ⟨rfl, rfl⟩
    | (show n * 8 ≤ 140737488355328; omega)
    | (show @Eq Bool _ _; simp only [f0, f1, m1, m2, m3, cond_true, cond_false, Bool.not_true, Bool.not_false, Bool.not_not, Bool.and_true, Bool.true_and, Bool.and_false, Bool.false_and, Bool.or_true, Bool.true_or, Bool.or_false, Bool.false_or, beq_self_eq_true, bne_self_eq_false, Bool.true_eq_false, Bool.false_eq_true, reduceCtorEq, Bool.and_self, decide_true, decide_false, ite_true, ite_false, eq_self]; done)
    | skip
set_option maxRecDepth 100000 in
set_option maxHeartbeats 4000000 in
theorem mx5a (p : Nat) (s : Nat → Stream) (a b c d : Int) (n : Nat) (w : Nat → Int) (h45 : p ≤ 45) (h25 : n ≤ 25) (g : p ≤ 40) (hA : (allB p fun i => okS (s i)) = true) (g1 : ¬ 1000000 < (sumS s p).m) (g2 : ¬ 1000000000 < (sumS s p).g) (hx : ¬ okS ⟨a, b, c, d⟩) : SF Try.prog 4 (V.atS (MARGS p s a b c d n w) (.bool true)) := by
  have f0 : decide ((45 : Int) < (p : Int)) = false := decide_eq_false (by omega)
  have f1 : decide ((25 : Int) < (n : Int)) = false := decide_eq_false (by omega)
  have hE : mixE p s = 0 := by unfold mixE chkStr; rw [if_neg (show ¬ (p : Int) > 40 by omega), hA]; exact (if_pos rfl).trans (if_neg (by rintro (h | h) <;> omega))
  have hV : mixV p s = sumS s p := if_pos hE
  have h29 : SF Try.prog 29 (V.atS [.slice none p (fun i => strL (s i))] (.tup [encS (sumS s p), I 0])) := by
    refine sf_at sf29 (.mk s (by omega) rfl) ?_
    show PV.tup [encS (mixV p s), I (mixE p s)] = _
    rw [hV, hE]
  have h30 : SF Try.prog 30 (V.atS [.slice none p (fun i => strL (s i))] (.slice none p (fun i => strL (s i)))) := sf_at sf30 (.mk s (by omega) rfl) rfl
  have h32 : SF Try.prog 32 (V.atS [.slice none p (fun i => strL (s i))] (.bool true)) := sf_at sf32 (.mk s (by omega) rfl) (by show PV.bool (allB p fun i => okS (s i)) = _; rw [hA])
  have h33 : SF Try.prog 33 (V.atS [.slice none p (fun i => strL (s i))] (encS (sumS s p))) := sf_at sf33 (.mk s (by omega) (allB_get hA).all rfl) rfl
  have m1 : decide ((40 : Int) < (p : Int)) = false := decide_eq_false (by omega)
  have m2 : decide ((1000000 : Int) < (sumS s p).m) = false := decide_eq_false g1
  have m3 : decide ((1000000000 : Int) < (sumS s p).g) = false := decide_eq_false g2
  have hSE : shE ⟨a, b, c, d⟩ n w = 1 := if_neg hx
  have hSN : shN ⟨a, b, c, d⟩ n w = 0 := if_neg (by rw [hSE]; decide)
  have hSL : shL ⟨a, b, c, d⟩ n w = .agg [I 0, I 0, I 0] := if_neg (by rw [hSE]; decide)
  have h31 : SF Try.prog 31 (V.atS (FARGS a b c d n w) (.tup [.slice none 0 fun i => strL (shP ⟨a, b, c, d⟩ n w i), .agg [I 0, I 0, I 0], I 1])) := by
    refine sf_at sf31 (.mk w (by omega) rfl) ?_
    show PV.tup [.slice none (shN ⟨a, b, c, d⟩ n w) (fun i => strL (shP ⟨a, b, c, d⟩ n w i)), shL ⟨a, b, c, d⟩ n w, I (shE ⟨a, b, c, d⟩ n w)] = _
    rw [hSN, hSL, hSE]
  have h21 : SF Try.prog 21 (V.atS [.agg [.int .i64 a, .int .i64 b, .int .i64 c, .int .i64 d]] (.bool false)) := sf_at sf21 trivial (by show PV.bool (decide (okS ⟨a, b, c, d⟩)) = _; rw [decide_eq_false hx])
  refine sf_of types_ok mixed (l := [(17, awakeF), (23, strS), (30, _), (29, _), (31, _), (32, _), (33, _), (21, _), (34, noF), (35, noF), (36, noF)]) ⟨sf17f, sf23, h30, h29, h31, h32, h33, h21, sf_noF sf34b.2, sf_noF sf35.2, sf_noF sf36.2, trivial⟩ (es := []) trivial 3 Try.func4 rfl (by kernel_rfl) fun args h => ?_
  have h : args = MARGS p s a b c d n w := h
  subst h
  refine ⟨rfl, ?_⟩
  repeat' first
    | refine ⟨?_, ?_⟩
    | refine fun h => absurd h (by decide)
    | (refine fun h => ?_; exfalso; simp only [f0, f1, m1, m2, m3, cond_true, cond_false, Bool.not_true, Bool.not_false, Bool.not_not, Bool.and_true, Bool.true_and, Bool.and_false, Bool.false_and, Bool.or_true, Bool.true_or, Bool.or_false, Bool.false_or, beq_self_eq_true, bne_self_eq_false, Bool.true_eq_false, Bool.false_eq_true, reduceCtorEq, Bool.and_self, decide_true, decide_false, ite_true, ite_false, eq_self] at h; done)
    | refine fun (h : @Eq Bool _ _) => ?_
    | refine ple_ok ?_
  all_goals first
    | trivial
    | rfl
    | omega
    | exact fun _ _ => ⟨rfl, rfl⟩
    | (show n * 8 ≤ 140737488355328; omega)
    | (show @Eq Bool _ _; simp only [f0, f1, m1, m2, m3, cond_true, cond_false, Bool.not_true, Bool.not_false, Bool.not_not, Bool.and_true, Bool.true_and, Bool.and_false, Bool.false_and, Bool.or_true, Bool.true_or, Bool.or_false, Bool.false_or, beq_self_eq_true, bne_self_eq_false, Bool.true_eq_false, Bool.false_eq_true, reduceCtorEq, Bool.and_self, decide_true, decide_false, ite_true, ite_false, eq_self]; done)
    | skip
set_option maxRecDepth 100000 in
set_option maxHeartbeats 4000000 in
theorem mx5b (p : Nat) (s : Nat → Stream) (a b c d : Int) (n : Nat) (w : Nat → Int) (h45 : p ≤ 45) (h25 : n ≤ 25) (g : p ≤ 40) (hA : (allB p fun i => okS (s i)) = true) (g1 : ¬ 1000000 < (sumS s p).m) (g2 : ¬ 1000000000 < (sumS s p).g) (hx : okS ⟨a, b, c, d⟩) (hwb : wtB n w = false) : SF Try.prog 4 (V.atS (MARGS p s a b c d n w) (.bool true)) := by
  have f0 : decide ((45 : Int) < (p : Int)) = false := decide_eq_false (by omega)
  have f1 : decide ((25 : Int) < (n : Int)) = false := decide_eq_false (by omega)
  have hE : mixE p s = 0 := by unfold mixE chkStr; rw [if_neg (show ¬ (p : Int) > 40 by omega), hA]; exact (if_pos rfl).trans (if_neg (by rintro (h | h) <;> omega))
  have hV : mixV p s = sumS s p := if_pos hE
  have h29 : SF Try.prog 29 (V.atS [.slice none p (fun i => strL (s i))] (.tup [encS (sumS s p), I 0])) := by
    refine sf_at sf29 (.mk s (by omega) rfl) ?_
    show PV.tup [encS (mixV p s), I (mixE p s)] = _
    rw [hV, hE]
  have h30 : SF Try.prog 30 (V.atS [.slice none p (fun i => strL (s i))] (.slice none p (fun i => strL (s i)))) := sf_at sf30 (.mk s (by omega) rfl) rfl
  have h32 : SF Try.prog 32 (V.atS [.slice none p (fun i => strL (s i))] (.bool true)) := sf_at sf32 (.mk s (by omega) rfl) (by show PV.bool (allB p fun i => okS (s i)) = _; rw [hA])
  have h33 : SF Try.prog 33 (V.atS [.slice none p (fun i => strL (s i))] (encS (sumS s p))) := sf_at sf33 (.mk s (by omega) (allB_get hA).all rfl) rfl
  have m1 : decide ((40 : Int) < (p : Int)) = false := decide_eq_false (by omega)
  have m2 : decide ((1000000 : Int) < (sumS s p).m) = false := decide_eq_false g1
  have m3 : decide ((1000000000 : Int) < (sumS s p).g) = false := decide_eq_false g2
  have hSE : shE ⟨a, b, c, d⟩ n w = 1 := by unfold shE; rw [if_pos hx, hwb]; rfl
  have hSN : shN ⟨a, b, c, d⟩ n w = 0 := if_neg (by rw [hSE]; decide)
  have hSL : shL ⟨a, b, c, d⟩ n w = .agg [I 0, I 0, I 0] := if_neg (by rw [hSE]; decide)
  have h34 : SF Try.prog 34 (V.atS [.slice none n (fun i => intL (w i))] (.bool false)) := sf_at sf34b (.mk w (by omega) rfl) (by show PV.bool (wtB n w) = _; rw [hwb])
  have h31 : SF Try.prog 31 (V.atS (FARGS a b c d n w) (.tup [.slice none 0 fun i => strL (shP ⟨a, b, c, d⟩ n w i), .agg [I 0, I 0, I 0], I 1])) := by
    refine sf_at sf31 (.mk w (by omega) rfl) ?_
    show PV.tup [.slice none (shN ⟨a, b, c, d⟩ n w) (fun i => strL (shP ⟨a, b, c, d⟩ n w i)), shL ⟨a, b, c, d⟩ n w, I (shE ⟨a, b, c, d⟩ n w)] = _
    rw [hSN, hSL, hSE]
  have h21 : SF Try.prog 21 (V.atS [.agg [.int .i64 a, .int .i64 b, .int .i64 c, .int .i64 d]] (.bool true)) := sf_at sf21 trivial (by show PV.bool (decide (okS ⟨a, b, c, d⟩)) = _; rw [decide_eq_true hx])
  refine sf_of types_ok mixed (l := [(17, awakeF), (23, strS), (30, _), (29, _), (31, _), (32, _), (33, _), (21, _), (34, _), (35, noF), (36, noF)]) ⟨sf17f, sf23, h30, h29, h31, h32, h33, h21, h34, sf_noF sf35.2, sf_noF sf36.2, trivial⟩ (es := []) trivial 3 Try.func4 rfl (by kernel_rfl) fun args h => ?_
  have h : args = MARGS p s a b c d n w := h
  subst h
  refine ⟨rfl, ?_⟩
  repeat' first
    | refine ⟨?_, ?_⟩
    | refine fun h => absurd h (by decide)
    | (refine fun h => ?_; exfalso; simp only [f0, f1, m1, m2, m3, cond_true, cond_false, Bool.not_true, Bool.not_false, Bool.not_not, Bool.and_true, Bool.true_and, Bool.and_false, Bool.false_and, Bool.or_true, Bool.true_or, Bool.or_false, Bool.false_or, beq_self_eq_true, bne_self_eq_false, Bool.true_eq_false, Bool.false_eq_true, reduceCtorEq, Bool.and_self, decide_true, decide_false, ite_true, ite_false, eq_self] at h; done)
    | refine fun (h : @Eq Bool _ _) => ?_
    | refine ple_ok ?_
  all_goals first
    | trivial
    | rfl
    | omega
    | exact fun _ _ => ⟨rfl, rfl⟩
    | (show n * 8 ≤ 140737488355328; omega)
    | (show @Eq Bool _ _; simp only [f0, f1, m1, m2, m3, cond_true, cond_false, Bool.not_true, Bool.not_false, Bool.not_not, Bool.and_true, Bool.true_and, Bool.and_false, Bool.false_and, Bool.or_true, Bool.true_or, Bool.or_false, Bool.false_or, beq_self_eq_true, bne_self_eq_false, Bool.true_eq_false, Bool.false_eq_true, reduceCtorEq, Bool.and_self, decide_true, decide_false, ite_true, ite_false, eq_self]; done)
    | skip
set_option maxRecDepth 100000 in
set_option maxHeartbeats 4000000 in
theorem mx5c (p : Nat) (s : Nat → Stream) (a b c d : Int) (n : Nat) (w : Nat → Int) (h45 : p ≤ 45) (h25 : n ≤ 25) (g : p ≤ 40) (hA : (allB p fun i => okS (s i)) = true) (g1 : ¬ 1000000 < (sumS s p).m) (g2 : ¬ 1000000000 < (sumS s p).g) (hx : okS ⟨a, b, c, d⟩) (hwb : wtB n w = true) : SF Try.prog 4 (V.atS (MARGS p s a b c d n w) (.bool true)) := by
  have f0 : decide ((45 : Int) < (p : Int)) = false := decide_eq_false (by omega)
  have f1 : decide ((25 : Int) < (n : Int)) = false := decide_eq_false (by omega)
  have hE : mixE p s = 0 := by unfold mixE chkStr; rw [if_neg (show ¬ (p : Int) > 40 by omega), hA]; exact (if_pos rfl).trans (if_neg (by rintro (h | h) <;> omega))
  have hV : mixV p s = sumS s p := if_pos hE
  have h29 : SF Try.prog 29 (V.atS [.slice none p (fun i => strL (s i))] (.tup [encS (sumS s p), I 0])) := by
    refine sf_at sf29 (.mk s (by omega) rfl) ?_
    show PV.tup [encS (mixV p s), I (mixE p s)] = _
    rw [hV, hE]
  have h30 : SF Try.prog 30 (V.atS [.slice none p (fun i => strL (s i))] (.slice none p (fun i => strL (s i)))) := sf_at sf30 (.mk s (by omega) rfl) rfl
  have h32 : SF Try.prog 32 (V.atS [.slice none p (fun i => strL (s i))] (.bool true)) := sf_at sf32 (.mk s (by omega) rfl) (by show PV.bool (allB p fun i => okS (s i)) = _; rw [hA])
  have h33 : SF Try.prog 33 (V.atS [.slice none p (fun i => strL (s i))] (encS (sumS s p))) := sf_at sf33 (.mk s (by omega) (allB_get hA).all rfl) rfl
  have m1 : decide ((40 : Int) < (p : Int)) = false := decide_eq_false (by omega)
  have m2 : decide ((1000000 : Int) < (sumS s p).m) = false := decide_eq_false g1
  have m3 : decide ((1000000000 : Int) < (sumS s p).g) = false := decide_eq_false g2
  have hw := wtB_get hwb
  have hSE : shE ⟨a, b, c, d⟩ n w = 0 := by unfold shE; rw [if_pos hx, hwb]; rfl
  have hSN : shN ⟨a, b, c, d⟩ n w = n := if_pos hSE
  have hSL : shL ⟨a, b, c, d⟩ n w = .agg [I (b - (sumS (shP ⟨a, b, c, d⟩ n w) n).h), I (c - (sumS (shP ⟨a, b, c, d⟩ n w) n).s), I (d - (sumS (shP ⟨a, b, c, d⟩ n w) n).g)] := if_pos hSE
  have h34 : SF Try.prog 34 (V.atS [.slice none n (fun i => intL (w i))] (.bool true)) := sf_at sf34b (.mk w (by omega) rfl) (by show PV.bool (wtB n w) = _; rw [hwb])
  have h35 : SF Try.prog 35 (V.atS [.agg [.int .i64 a, .int .i64 b, .int .i64 c, .int .i64 d], .slice none n (fun i => intL (w i))] (.tup [.slice none n fun i => strL (shP ⟨a, b, c, d⟩ n w i), .agg [I (b - (sumS (shP ⟨a, b, c, d⟩ n w) n).h), I (c - (sumS (shP ⟨a, b, c, d⟩ n w) n).s), I (d - (sumS (shP ⟨a, b, c, d⟩ n w) n).g)]])) := sf_at sf35 (.mk w hx hw rfl) rfl
  have h36 : SF Try.prog 36 (V.atS [.slice none n fun i => strL (shP ⟨a, b, c, d⟩ n w i), .slice none n fun i => strL (shP ⟨a, b, c, d⟩ n w i)] (.bool true)) := sf_at sf36 (.mk (shP ⟨a, b, c, d⟩ n w) (shP ⟨a, b, c, d⟩ n w) (by have := hw.h2; omega) rfl (fun _ _ => rfl) rfl rfl) rfl
  have h31 : SF Try.prog 31 (V.atS (FARGS a b c d n w) (.tup [.slice none n fun i => strL (shP ⟨a, b, c, d⟩ n w i), .agg [I (b - (sumS (shP ⟨a, b, c, d⟩ n w) n).h), I (c - (sumS (shP ⟨a, b, c, d⟩ n w) n).s), I (d - (sumS (shP ⟨a, b, c, d⟩ n w) n).g)], I 0])) := by
    refine sf_at sf31 (.mk w (by omega) rfl) ?_
    show PV.tup [.slice none (shN ⟨a, b, c, d⟩ n w) (fun i => strL (shP ⟨a, b, c, d⟩ n w i)), shL ⟨a, b, c, d⟩ n w, I (shE ⟨a, b, c, d⟩ n w)] = _
    rw [hSN, hSL, hSE]
  have h21 : SF Try.prog 21 (V.atS [.agg [.int .i64 a, .int .i64 b, .int .i64 c, .int .i64 d]] (.bool true)) := sf_at sf21 trivial (by show PV.bool (decide (okS ⟨a, b, c, d⟩)) = _; rw [decide_eq_true hx])
  refine sf_of types_ok mixed (l := [(17, awakeF), (23, strS), (30, _), (29, _), (31, _), (32, _), (33, _), (21, _), (34, _), (35, _), (36, _)]) ⟨sf17f, sf23, h30, h29, h31, h32, h33, h21, h34, h35, h36, trivial⟩ (es := []) trivial 3 Try.func4 rfl (by kernel_rfl) fun args h => ?_
  have h : args = MARGS p s a b c d n w := h
  subst h
  refine ⟨rfl, ?_⟩
  repeat' first
    | refine ⟨?_, ?_⟩
    | refine fun h => absurd h (by decide)
    | (refine fun h => ?_; exfalso; simp only [f0, f1, m1, m2, m3, cond_true, cond_false, Bool.not_true, Bool.not_false, Bool.not_not, Bool.and_true, Bool.true_and, Bool.and_false, Bool.false_and, Bool.or_true, Bool.true_or, Bool.or_false, Bool.false_or, beq_self_eq_true, bne_self_eq_false, Bool.true_eq_false, Bool.false_eq_true, reduceCtorEq, Bool.and_self, decide_true, decide_false, ite_true, ite_false, eq_self] at h; done)
    | refine fun (h : @Eq Bool _ _) => ?_
    | refine ple_ok ?_
  all_goals first
    | trivial
    | rfl
    | omega
    | exact fun _ _ => ⟨rfl, rfl⟩
    | (show n * 8 ≤ 140737488355328; omega)
    | (show @Eq Bool _ _; simp only [f0, f1, m1, m2, m3, cond_true, cond_false, Bool.not_true, Bool.not_false, Bool.not_not, Bool.and_true, Bool.true_and, Bool.and_false, Bool.false_and, Bool.or_true, Bool.true_or, Bool.or_false, Bool.false_or, beq_self_eq_true, bne_self_eq_false, Bool.true_eq_false, Bool.false_eq_true, reduceCtorEq, Bool.and_self, decide_true, decide_false, ite_true, ite_false, eq_self]; done)
    | skip
end Go.Proofs.Ytiidjohhcappdaa
