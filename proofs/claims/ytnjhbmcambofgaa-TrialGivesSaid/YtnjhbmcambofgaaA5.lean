/- Layer 4: the law on capacities. -/
import Derived.Test.YtnjhbmcambofgaaS41
namespace Go.Proofs.Ytnjhbmcambofgaa
open Go.V
set_option linter.unusedSimpArgs false
set_option linter.unusedVariables false

theorem c34 (t : Tst) (lim : Int) (h : okT t) {rH rL : Nat} (c : Caps t lim rH rL) : SF Try.prog 34 (V.atS [.agg (tstC t), I lim] (.tup [I ((rH : Int) - 1), I ((rL : Int) - 1)])) := by
  refine sf_at sf34 (show isT t _ from isTt t h) ?_
  show PV.tup [I (capS (famsM t) lim), I (capM (famsM t) lim)] = _
  rw [(capS_eq c).1, (capS_eq c).2]
set_option maxRecDepth 20000 in
set_option maxHeartbeats 2000000 in
theorem givesBig (t : Tst) (lim : Int) (hn : 20 < t.n) : SF Try.prog 5 (V.atS [.agg (tstC t), I lim] (.bool true)) := by
  have p0 : decide ((20 : Int) < (t.n : Int)) = true := decide_eq_true (by omega)
  refine sf_gen types_ok mixed (l := [(18, V.atS [] (.bool true))]) ⟨sf18, trivial⟩ (es := []) trivial (its := []) trivial (fr := []) trivial [] [] false [] [] 2 Try.func5 rfl (by kernel_rfl) fun args h => ?_
  have h : args = _ := h
  subst h
  refine ⟨rfl, ?_⟩
  show evalCode _ _ _ fun o => match o with
    | .normal st | .ret st => withP _ (_ ∧ PLe _ (.bool true))
    | _ => False
  repeat' first
    | exact PLe.refl _
    | exact BLe.refl _
    | exact PLeL.nil
    | exact BLeL.nil
    | refine ⟨?_, ?_⟩
    | refine PLeL.cons ?_ ?_
    | refine BLeL.cons ?_ ?_
    | refine ple_int ?_
    | refine ple_bool ?_
    | refine ple_tt ?_
    | refine ple_ff ?_
    | refine PLe.aggL ?_
    | refine PLe.tupL ?_
    | refine BLe.cellsL ?_
    | refine fun h => absurd h (by decide)
    | (refine fun h => ?_; exfalso; simp only [p0, Int.toNat_natCast, Bool.cond_true_left, Bool.cond_false_right, Bool.cond_true_right, Bool.cond_false_left, cond_true, cond_false, Bool.not_true, Bool.not_false, Bool.not_not, Bool.and_true, Bool.true_and, Bool.and_false, Bool.false_and, Bool.or_true, Bool.true_or, Bool.or_false, Bool.false_or, beq_self_eq_true, bne_self_eq_false, Bool.true_eq_false, Bool.false_eq_true, reduceCtorEq, Bool.and_self, Bool.or_self, Int.reduceBEq, Int.reduceBNe, Int.reduceNeg, decide_true, decide_false, Int.reduceLT, Int.reduceLE, Int.reduceGT] at h; done)
    | refine fun (h : @Eq Bool _ _) => ?_
  all_goals first
    | trivial
    | rfl
    | omega
    | (simp only [p0, Int.toNat_natCast, Bool.cond_true_left, Bool.cond_false_right, Bool.cond_true_right, Bool.cond_false_left, cond_true, cond_false, Bool.not_true, Bool.not_false, Bool.not_not, Bool.and_true, Bool.true_and, Bool.and_false, Bool.false_and, Bool.or_true, Bool.true_or, Bool.or_false, Bool.false_or, beq_self_eq_true, bne_self_eq_false, Bool.true_eq_false, Bool.false_eq_true, reduceCtorEq, Bool.and_self, Bool.or_self, Int.reduceBEq, Int.reduceBNe, Int.reduceNeg, decide_true, decide_false, Int.reduceLT, Int.reduceLE, Int.reduceGT]; done)
    | (show @Eq Bool _ _; simp only [p0, Int.toNat_natCast, Bool.cond_true_left, Bool.cond_false_right, Bool.cond_true_right, Bool.cond_false_left, cond_true, cond_false, Bool.not_true, Bool.not_false, Bool.not_not, Bool.and_true, Bool.true_and, Bool.and_false, Bool.false_and, Bool.or_true, Bool.true_or, Bool.or_false, Bool.false_or, beq_self_eq_true, bne_self_eq_false, Bool.true_eq_false, Bool.false_eq_true, reduceCtorEq, Bool.and_self, Bool.or_self, Int.reduceBEq, Int.reduceBNe, Int.reduceNeg, decide_true, decide_false, Int.reduceLT, Int.reduceLE, Int.reduceGT]; done)
    | skip
set_option maxRecDepth 20000 in
set_option maxHeartbeats 2000000 in
theorem givesWide (t : Tst) (lim : Int) (hn : t.n ≤ 20) (p1 : (tfE t == 0) = true) (pg : decide (60 < IntKind.i64.wrap (IntKind.i64.wrap (IntKind.i64.wrap (t.b.hi - t.b.lo) + 1) * IntKind.i64.wrap (IntKind.i64.wrap (t.c.hi - t.c.lo) + 1))) = true) : SF Try.prog 5 (V.atS [.agg (tstC t), I lim] (.bool true)) := by
  have p0 : decide ((20 : Int) < (t.n : Int)) = false := decide_eq_false (by omega)
  refine sf_gen types_ok mixed (l := [(18, V.atS [] (.bool true)), (21, V.atS [.agg (tstC t)] (I (tfE t)))]) ⟨sf18, c21 t (by omega), trivial⟩ (es := []) trivial (its := []) trivial (fr := []) trivial [] [] false [] [] 2 Try.func5 rfl (by kernel_rfl) fun args h => ?_
  have h : args = _ := h
  subst h
  refine ⟨rfl, ?_⟩
  show evalCode _ _ _ fun o => match o with
    | .normal st | .ret st => withP _ (_ ∧ PLe _ (.bool true))
    | _ => False
  repeat' first
    | exact PLe.refl _
    | exact BLe.refl _
    | exact PLeL.nil
    | exact BLeL.nil
    | refine ⟨?_, ?_⟩
    | refine PLeL.cons ?_ ?_
    | refine BLeL.cons ?_ ?_
    | refine ple_int ?_
    | refine ple_bool ?_
    | refine ple_tt ?_
    | refine ple_ff ?_
    | refine PLe.aggL ?_
    | refine PLe.tupL ?_
    | refine BLe.cellsL ?_
    | refine fun h => absurd h (by decide)
    | (refine fun h => ?_; exfalso; simp only [p0, p1, pg, Int.toNat_natCast, Bool.cond_true_left, Bool.cond_false_right, Bool.cond_true_right, Bool.cond_false_left, cond_true, cond_false, Bool.not_true, Bool.not_false, Bool.not_not, Bool.and_true, Bool.true_and, Bool.and_false, Bool.false_and, Bool.or_true, Bool.true_or, Bool.or_false, Bool.false_or, beq_self_eq_true, bne_self_eq_false, Bool.true_eq_false, Bool.false_eq_true, reduceCtorEq, Bool.and_self, Bool.or_self, Int.reduceBEq, Int.reduceBNe, Int.reduceNeg, decide_true, decide_false, Int.reduceLT, Int.reduceLE, Int.reduceGT] at h; done)
    | refine fun (h : @Eq Bool _ _) => ?_
  all_goals first
    | trivial
    | rfl
    | omega
    | (simp only [p0, p1, pg, Int.toNat_natCast, Bool.cond_true_left, Bool.cond_false_right, Bool.cond_true_right, Bool.cond_false_left, cond_true, cond_false, Bool.not_true, Bool.not_false, Bool.not_not, Bool.and_true, Bool.true_and, Bool.and_false, Bool.false_and, Bool.or_true, Bool.true_or, Bool.or_false, Bool.false_or, beq_self_eq_true, bne_self_eq_false, Bool.true_eq_false, Bool.false_eq_true, reduceCtorEq, Bool.and_self, Bool.or_self, Int.reduceBEq, Int.reduceBNe, Int.reduceNeg, decide_true, decide_false, Int.reduceLT, Int.reduceLE, Int.reduceGT]; done)
    | (show @Eq Bool _ _; simp only [p0, p1, pg, Int.toNat_natCast, Bool.cond_true_left, Bool.cond_false_right, Bool.cond_true_right, Bool.cond_false_left, cond_true, cond_false, Bool.not_true, Bool.not_false, Bool.not_not, Bool.and_true, Bool.true_and, Bool.and_false, Bool.false_and, Bool.or_true, Bool.true_or, Bool.or_false, Bool.false_or, beq_self_eq_true, bne_self_eq_false, Bool.true_eq_false, Bool.false_eq_true, reduceCtorEq, Bool.and_self, Bool.or_self, Int.reduceBEq, Int.reduceBNe, Int.reduceNeg, decide_true, decide_false, Int.reduceLT, Int.reduceLE, Int.reduceGT]; done)
    | skip
set_option maxRecDepth 20000 in
set_option maxHeartbeats 2000000 in
theorem givesE1 (t : Tst) (lim : Int) (hn : t.n ≤ 20) (p1 : (tfE t == 0) = false) (p2 : (agrE t (decide (-2000000000 ≤ lim ∧ lim ≤ 2000000000)) != 0) = true) : SF Try.prog 5 (V.atS [.agg (tstC t), I lim] (.bool true)) := by
  have p0 : decide ((20 : Int) < (t.n : Int)) = false := decide_eq_false (by omega)
  have p2y : (agrE t (decide (-2000000000 ≤ lim ∧ lim ≤ 2000000000)) == 0) = false := by simpa using p2
  refine sf_gen types_ok mixed (l := [(18, V.atS [] (.bool true)), (21, V.atS [.agg (tstC t)] (I (tfE t))), (20, V.atS [.agg (tstC t)] (.agg (tstC t))), (25, ask2S t), (30, withinS), (33, V.atS [.agg (tstC t), I lim] (.tup [I 0, I 0, I (agrE t (decide (-2000000000 ≤ lim ∧ lim ≤ 2000000000)))]))]) ⟨sf18, c21 t (by omega), c20 t (by omega), sf25b t (by omega), sf30, capE t lim (by omega) p2, trivial⟩ (es := []) trivial (its := []) trivial (fr := []) trivial [] [] false [] [] 2 Try.func5 rfl (by kernel_rfl) fun args h => ?_
  have h : args = _ := h
  subst h
  refine ⟨rfl, ?_⟩
  show evalCode _ _ _ fun o => match o with
    | .normal st | .ret st => withP _ (_ ∧ PLe _ (.bool true))
    | _ => False
  repeat' first
    | exact PLe.refl _
    | exact BLe.refl _
    | exact PLeL.nil
    | exact BLeL.nil
    | refine ⟨?_, ?_⟩
    | refine PLeL.cons ?_ ?_
    | refine BLeL.cons ?_ ?_
    | refine ple_int ?_
    | refine ple_bool ?_
    | refine ple_tt ?_
    | refine ple_ff ?_
    | refine PLe.aggL ?_
    | refine PLe.tupL ?_
    | refine BLe.cellsL ?_
    | refine fun h => absurd h (by decide)
    | (refine fun h => ?_; exfalso; simp only [p0, p1, p2, p2y, Int.toNat_natCast, Bool.cond_true_left, Bool.cond_false_right, Bool.cond_true_right, Bool.cond_false_left, cond_true, cond_false, Bool.not_true, Bool.not_false, Bool.not_not, Bool.and_true, Bool.true_and, Bool.and_false, Bool.false_and, Bool.or_true, Bool.true_or, Bool.or_false, Bool.false_or, beq_self_eq_true, bne_self_eq_false, Bool.true_eq_false, Bool.false_eq_true, reduceCtorEq, Bool.and_self, Bool.or_self, Int.reduceBEq, Int.reduceBNe, Int.reduceNeg, decide_true, decide_false, Int.reduceLT, Int.reduceLE, Int.reduceGT] at h; done)
    | refine fun (h : @Eq Bool _ _) => ?_
  all_goals first
    | trivial
    | rfl
    | omega
    | exact ⟨rfl, rfl⟩
    | (simp only [p0, p1, p2, p2y, Int.toNat_natCast, Bool.cond_true_left, Bool.cond_false_right, Bool.cond_true_right, Bool.cond_false_left, cond_true, cond_false, Bool.not_true, Bool.not_false, Bool.not_not, Bool.and_true, Bool.true_and, Bool.and_false, Bool.false_and, Bool.or_true, Bool.true_or, Bool.or_false, Bool.false_or, beq_self_eq_true, bne_self_eq_false, Bool.true_eq_false, Bool.false_eq_true, reduceCtorEq, Bool.and_self, Bool.or_self, Int.reduceBEq, Int.reduceBNe, Int.reduceNeg, decide_true, decide_false, Int.reduceLT, Int.reduceLE, Int.reduceGT]; done)
    | (show @Eq Bool _ _; simp only [p0, p1, p2, p2y, Int.toNat_natCast, Bool.cond_true_left, Bool.cond_false_right, Bool.cond_true_right, Bool.cond_false_left, cond_true, cond_false, Bool.not_true, Bool.not_false, Bool.not_not, Bool.and_true, Bool.true_and, Bool.and_false, Bool.false_and, Bool.or_true, Bool.true_or, Bool.or_false, Bool.false_or, beq_self_eq_true, bne_self_eq_false, Bool.true_eq_false, Bool.false_eq_true, reduceCtorEq, Bool.and_self, Bool.or_self, Int.reduceBEq, Int.reduceBNe, Int.reduceNeg, decide_true, decide_false, Int.reduceLT, Int.reduceLE, Int.reduceGT]; done)
    | skip
set_option maxRecDepth 20000 in
set_option maxHeartbeats 2000000 in
theorem givesE2 (t : Tst) (lim : Int) (hn : t.n ≤ 20) (p1 : (tfE t == 0) = true) (pg : decide (60 < IntKind.i64.wrap (IntKind.i64.wrap (IntKind.i64.wrap (t.b.hi - t.b.lo) + 1) * IntKind.i64.wrap (IntKind.i64.wrap (t.c.hi - t.c.lo) + 1))) = false) (p2 : (agrE t (decide (-2000000000 ≤ lim ∧ lim ≤ 2000000000)) != 0) = true) : SF Try.prog 5 (V.atS [.agg (tstC t), I lim] (.bool true)) := by
  have p0 : decide ((20 : Int) < (t.n : Int)) = false := decide_eq_false (by omega)
  have p2y : (agrE t (decide (-2000000000 ≤ lim ∧ lim ≤ 2000000000)) == 0) = false := by simpa using p2
  refine sf_gen types_ok mixed (l := [(18, V.atS [] (.bool true)), (21, V.atS [.agg (tstC t)] (I (tfE t))), (20, V.atS [.agg (tstC t)] (.agg (tstC t))), (25, ask2S t), (30, withinS), (33, V.atS [.agg (tstC t), I lim] (.tup [I 0, I 0, I (agrE t (decide (-2000000000 ≤ lim ∧ lim ≤ 2000000000)))]))]) ⟨sf18, c21 t (by omega), c20 t (by omega), sf25b t (by omega), sf30, capE t lim (by omega) p2, trivial⟩ (es := []) trivial (its := []) trivial (fr := []) trivial [] [] false [] [] 2 Try.func5 rfl (by kernel_rfl) fun args h => ?_
  have h : args = _ := h
  subst h
  refine ⟨rfl, ?_⟩
  show evalCode _ _ _ fun o => match o with
    | .normal st | .ret st => withP _ (_ ∧ PLe _ (.bool true))
    | _ => False
  repeat' first
    | exact PLe.refl _
    | exact BLe.refl _
    | exact PLeL.nil
    | exact BLeL.nil
    | refine ⟨?_, ?_⟩
    | refine PLeL.cons ?_ ?_
    | refine BLeL.cons ?_ ?_
    | refine ple_int ?_
    | refine ple_bool ?_
    | refine ple_tt ?_
    | refine ple_ff ?_
    | refine PLe.aggL ?_
    | refine PLe.tupL ?_
    | refine BLe.cellsL ?_
    | refine fun h => absurd h (by decide)
    | (refine fun h => ?_; exfalso; simp only [p0, p1, pg, p2, p2y, Int.toNat_natCast, Bool.cond_true_left, Bool.cond_false_right, Bool.cond_true_right, Bool.cond_false_left, cond_true, cond_false, Bool.not_true, Bool.not_false, Bool.not_not, Bool.and_true, Bool.true_and, Bool.and_false, Bool.false_and, Bool.or_true, Bool.true_or, Bool.or_false, Bool.false_or, beq_self_eq_true, bne_self_eq_false, Bool.true_eq_false, Bool.false_eq_true, reduceCtorEq, Bool.and_self, Bool.or_self, Int.reduceBEq, Int.reduceBNe, Int.reduceNeg, decide_true, decide_false, Int.reduceLT, Int.reduceLE, Int.reduceGT] at h; done)
    | refine fun (h : @Eq Bool _ _) => ?_
  all_goals first
    | trivial
    | rfl
    | omega
    | exact ⟨rfl, rfl⟩
    | (simp only [p0, p1, pg, p2, p2y, Int.toNat_natCast, Bool.cond_true_left, Bool.cond_false_right, Bool.cond_true_right, Bool.cond_false_left, cond_true, cond_false, Bool.not_true, Bool.not_false, Bool.not_not, Bool.and_true, Bool.true_and, Bool.and_false, Bool.false_and, Bool.or_true, Bool.true_or, Bool.or_false, Bool.false_or, beq_self_eq_true, bne_self_eq_false, Bool.true_eq_false, Bool.false_eq_true, reduceCtorEq, Bool.and_self, Bool.or_self, Int.reduceBEq, Int.reduceBNe, Int.reduceNeg, decide_true, decide_false, Int.reduceLT, Int.reduceLE, Int.reduceGT]; done)
    | (show @Eq Bool _ _; simp only [p0, p1, pg, p2, p2y, Int.toNat_natCast, Bool.cond_true_left, Bool.cond_false_right, Bool.cond_true_right, Bool.cond_false_left, cond_true, cond_false, Bool.not_true, Bool.not_false, Bool.not_not, Bool.and_true, Bool.true_and, Bool.and_false, Bool.false_and, Bool.or_true, Bool.true_or, Bool.or_false, Bool.false_or, beq_self_eq_true, bne_self_eq_false, Bool.true_eq_false, Bool.false_eq_true, reduceCtorEq, Bool.and_self, Bool.or_self, Int.reduceBEq, Int.reduceBNe, Int.reduceNeg, decide_true, decide_false, Int.reduceLT, Int.reduceLE, Int.reduceGT]; done)
    | skip
set_option maxRecDepth 20000 in
set_option maxHeartbeats 2000000 in
theorem givesK (t : Tst) (lim : Int) (hn : t.n ≤ 20) (p1 : (tfE t == 0) = true) (pg : decide (60 < IntKind.i64.wrap (IntKind.i64.wrap (IntKind.i64.wrap (t.b.hi - t.b.lo) + 1) * IntKind.i64.wrap (IntKind.i64.wrap (t.c.hi - t.c.lo) + 1))) = false) (p2 : (agrE t (decide (-2000000000 ≤ lim ∧ lim ≤ 2000000000)) != 0) = false) (rH rL : Nat) (c : Caps t lim rH rL) : SF Try.prog 5 (V.atS [.agg (tstC t), I lim] (.bool true)) := by
  have p0 : decide ((20 : Int) < (t.n : Int)) = false := decide_eq_false (by omega)
  have p2y : (agrE t (decide (-2000000000 ≤ lim ∧ lim ≤ 2000000000)) == 0) = true := by simpa using p2
  refine sf_gen types_ok mixed (l := [(18, V.atS [] (.bool true)), (21, V.atS [.agg (tstC t)] (I (tfE t))), (20, V.atS [.agg (tstC t)] (.agg (tstC t))), (25, ask2S t), (30, withinS), (33, V.atS [.agg (tstC t), I lim] (.tup [I ((rH : Int) - 1), I ((rL : Int) - 1), I 0])), (34, V.atS [.agg (tstC t), I lim] (.tup [I ((rH : Int) - 1), I ((rL : Int) - 1)]))]) ⟨sf18, c21 t (by omega), c20 t (by omega), sf25b t (by omega), sf30, capK t lim (by omega) p2 rH rL c, c34 t lim (agrE_ok p2).1 c, trivial⟩ (es := []) trivial (its := []) trivial (fr := []) trivial [] [] false [] [] 2 Try.func5 rfl (by kernel_rfl) fun args h => ?_
  have h : args = _ := h
  subst h
  refine ⟨rfl, ?_⟩
  show evalCode _ _ _ fun o => match o with
    | .normal st | .ret st => withP _ (_ ∧ PLe _ (.bool true))
    | _ => False
  repeat' first
    | exact PLe.refl _
    | exact BLe.refl _
    | exact PLeL.nil
    | exact BLeL.nil
    | refine ⟨?_, ?_⟩
    | refine PLeL.cons ?_ ?_
    | refine BLeL.cons ?_ ?_
    | refine ple_int ?_
    | refine ple_bool ?_
    | refine ple_tt ?_
    | refine ple_ff ?_
    | refine PLe.aggL ?_
    | refine PLe.tupL ?_
    | refine BLe.cellsL ?_
    | refine fun h => absurd h (by decide)
    | (refine fun h => ?_; exfalso; simp only [p0, p1, pg, p2, p2y, Int.toNat_natCast, Bool.cond_true_left, Bool.cond_false_right, Bool.cond_true_right, Bool.cond_false_left, cond_true, cond_false, Bool.not_true, Bool.not_false, Bool.not_not, Bool.and_true, Bool.true_and, Bool.and_false, Bool.false_and, Bool.or_true, Bool.true_or, Bool.or_false, Bool.false_or, beq_self_eq_true, bne_self_eq_false, Bool.true_eq_false, Bool.false_eq_true, reduceCtorEq, Bool.and_self, Bool.or_self, Int.reduceBEq, Int.reduceBNe, Int.reduceNeg, decide_true, decide_false, Int.reduceLT, Int.reduceLE, Int.reduceGT] at h; done)
    | refine fun (h : @Eq Bool _ _) => ?_
  all_goals first
    | trivial
    | rfl
    | omega
    | exact ⟨rfl, rfl⟩
    | (simp only [p0, p1, pg, p2, p2y, Int.toNat_natCast, Bool.cond_true_left, Bool.cond_false_right, Bool.cond_true_right, Bool.cond_false_left, cond_true, cond_false, Bool.not_true, Bool.not_false, Bool.not_not, Bool.and_true, Bool.true_and, Bool.and_false, Bool.false_and, Bool.or_true, Bool.true_or, Bool.or_false, Bool.false_or, beq_self_eq_true, bne_self_eq_false, Bool.true_eq_false, Bool.false_eq_true, reduceCtorEq, Bool.and_self, Bool.or_self, Int.reduceBEq, Int.reduceBNe, Int.reduceNeg, decide_true, decide_false, Int.reduceLT, Int.reduceLE, Int.reduceGT]; done)
    | (show @Eq Bool _ _; simp only [p0, p1, pg, p2, p2y, Int.toNat_natCast, Bool.cond_true_left, Bool.cond_false_right, Bool.cond_true_right, Bool.cond_false_left, cond_true, cond_false, Bool.not_true, Bool.not_false, Bool.not_not, Bool.and_true, Bool.true_and, Bool.and_false, Bool.false_and, Bool.or_true, Bool.true_or, Bool.or_false, Bool.false_or, beq_self_eq_true, bne_self_eq_false, Bool.true_eq_false, Bool.false_eq_true, reduceCtorEq, Bool.and_self, Bool.or_self, Int.reduceBEq, Int.reduceBNe, Int.reduceNeg, decide_true, decide_false, Int.reduceLT, Int.reduceLE, Int.reduceGT]; done)
    | skip
theorem givesA (t : Tst) (lim : Int) : SF Try.prog 5 (V.atS [.agg (tstC t), I lim] (.bool true)) := by
  by_cases hn : t.n ≤ 20
  · cases p1 : (tfE t == 0) with
    | false =>
      refine givesE1 t lim hn p1 ?_
      have h : ¬ tfE t = 0 := by simpa using p1
      unfold agrE
      rw [show (tfE t != 0) = true by simpa using h]
      simpa using h
    | true =>
      cases pg : decide (60 < IntKind.i64.wrap (IntKind.i64.wrap (IntKind.i64.wrap (t.b.hi - t.b.lo) + 1) * IntKind.i64.wrap (IntKind.i64.wrap (t.c.hi - t.c.lo) + 1))) with
      | true => exact givesWide t lim hn p1 pg
      | false =>
        cases p2 : (agrE t (decide (-2000000000 ≤ lim ∧ lim ≤ 2000000000)) != 0) with
        | true => exact givesE2 t lim hn p1 pg p2
        | false =>
          obtain ⟨rH, rL, c⟩ := caps_ex (agrE_ok p2).1 (agrE_ok p2).2.2 lim
          exact givesK t lim hn p1 pg p2 rH rL c
  · exact givesBig t lim (by omega)
end Go.Proofs.Ytnjhbmcambofgaa
