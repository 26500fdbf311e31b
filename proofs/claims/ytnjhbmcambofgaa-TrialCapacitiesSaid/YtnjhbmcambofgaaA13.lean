/- Layer 4: the law on what capacities promise. -/
import Derived.Test.YtnjhbmcambofgaaS41
namespace Go.Proofs.Ytnjhbmcambofgaa
open Go.V
set_option linter.unusedSimpArgs false
set_option linter.unusedVariables false

def dr28 (t : Tst) : V.Spec
  | [.agg x, .int .i64 q] => (some (x = tstC t ∧ inQ q), .tup [encR (encL (dropF q) (famsM t)), I 0])
  | _ => bad
theorem agrE_tt {t : Tst} (h : okT t) (hp : 0 < (famsM t).length) : agrE t true = 0 := by
  unfold agrE
  rw [tfE_okT h]
  have : (((famsM t).length : Int) == 0) = false := by rw [beq_eq_false_iff_ne]; omega
  simp [this]
theorem sf28q (t : Tst) (h : okT t) (hp : 0 < (famsM t).length) : SF Try.prog 28 (dr28 t) := by
  refine sf_each ⟨_, _, Try.func28, by kernel_rfl, rfl⟩ fun args ha => ?_
  unfold dr28 at ha ⊢
  split at ha
  · rename_i x q
    obtain ⟨rfl, hq⟩ : x = tstC t ∧ inQ q := ha
    have := c28 t q (by have := h.n; omega)
    unfold flowB at this
    rw [decide_eq_true (show 0 ≤ q ∧ q ≤ 1000 from hq)] at this
    unfold agrLst at this
    rw [agrE_tt h hp] at this
    exact this
  · exact ha.elim
def cap33 (t : Tst) : V.Spec
  | [.agg x, .int .i64 l] => (some (x = tstC t ∧ -2000000000 ≤ l ∧ l ≤ 2000000000), .tup [I (capS (famsM t) l), I (capM (famsM t) l), I 0])
  | _ => bad
theorem sf33q (t : Tst) (h : okT t) (hp : 0 < (famsM t).length) : SF Try.prog 33 (cap33 t) := by
  refine sf_each ⟨_, _, Try.func33, by kernel_rfl, rfl⟩ fun args ha => ?_
  unfold cap33 at ha ⊢
  split at ha
  · rename_i x l
    obtain ⟨rfl, hl⟩ : x = tstC t ∧ -2000000000 ≤ l ∧ l ≤ 2000000000 := ha
    obtain ⟨rH, rL, c⟩ := caps_ex h hp l
    have hE : agrE t (limB l) = 0 := by rw [show limB l = true from decide_eq_true hl]; exact agrE_tt h hp
    rw [(capS_eq c).1, (capS_eq c).2]
    exact capK t l (by have := h.n; omega) (by rw [hE]; rfl) rH rL c
  · exact ha.elim
theorem caps_mono {t : Tst} {l l' : Int} {rH rL rH' rL' : Nat} (c : Caps t l rH rL) (c' : Caps t l' rH' rL') (h : l ≤ l') : rH ≤ rH' ∧ rL ≤ rL' := by
  have k1 := c.h
  have k2 := c.l
  constructor
  · refine Classical.byContradiction fun hc => ?_
    have h1 := c'.hle (x := rH') (by omega)
    have h2 := c.hle (x := rH') (by omega)
    omega
  · refine Classical.byContradiction fun hc => ?_
    have h1 := c'.lle (x := rL') (by omega)
    have h2 := c.lle (x := rL') (by omega)
    omega
theorem q_in (fl : Int) (h : 0 ≤ fl ∧ fl ≤ 65535) : inQ ((IntKind.i64.wrap fl).tmod 1001) := by
  rw [show IntKind.i64.wrap fl = fl from wi (by omega)]
  rw [Int.tmod_eq_emod_of_nonneg h.1]
  exact ⟨by omega, by omega⟩
set_option maxRecDepth 20000 in
set_option maxHeartbeats 2000000 in
theorem capsBig (t : Tst) (lim more fl : Int) (hf : 0 ≤ fl ∧ fl ≤ 65535) (hn : 20 < t.n) : SF Try.prog 13 (V.atS [.agg (tstC t), I lim, I more, .int .u16 fl] (.bool true)) := by
  have p0 : decide ((20 : Int) < (t.n : Int)) = true := decide_eq_true (by omega)
  refine sf_gen types_ok mixed (l := [(18, V.atS [] (.bool true))]) ⟨sf18, trivial⟩ (es := []) trivial (its := []) trivial (fr := []) trivial [] [] false [] [] 4 Try.func13 rfl (by kernel_rfl) fun args h => ?_
  have h : args = _ := h
  subst h
  refine ⟨rfl, ?_⟩
  show evalCode _ _ _ fun o => match o with
    | .normal st | .ret st => withP _ (_ ∧ PLe _ (.bool true))
    | _ => False
  repeat' first
    | exact PLe.refl _
    | exact BLe.refl _
    | exact PLeL.nil
    | exact BLeL.nil
    | refine ⟨?_, ?_⟩
    | refine PLeL.cons ?_ ?_
    | refine BLeL.cons ?_ ?_
    | refine ple_int ?_
    | refine ple_bool ?_
    | refine ple_tt ?_
    | refine ple_ff ?_
    | refine PLe.aggL ?_
    | refine PLe.tupL ?_
    | refine BLe.cellsL ?_
    | refine fun h => absurd h (by decide)
    | (refine fun h => ?_; exfalso; simp only [p0, Int.toNat_natCast, Bool.cond_true_left, Bool.cond_false_right, Bool.cond_true_right, Bool.cond_false_left, cond_true, cond_false, Bool.not_true, Bool.not_false, Bool.not_not, Bool.and_true, Bool.true_and, Bool.and_false, Bool.false_and, Bool.or_true, Bool.true_or, Bool.or_false, Bool.false_or, beq_self_eq_true, bne_self_eq_false, Bool.true_eq_false, Bool.false_eq_true, reduceCtorEq, Bool.and_self, Bool.or_self, Int.reduceBEq, Int.reduceBNe, Int.reduceNeg, decide_true, decide_false, Int.reduceLT, Int.reduceLE, Int.reduceGT] at h; done)
    | refine fun (h : @Eq Bool _ _) => ?_
  all_goals first
    | trivial
    | rfl
    | omega
    | (simp only [p0, Int.toNat_natCast, Bool.cond_true_left, Bool.cond_false_right, Bool.cond_true_right, Bool.cond_false_left, cond_true, cond_false, Bool.not_true, Bool.not_false, Bool.not_not, Bool.and_true, Bool.true_and, Bool.and_false, Bool.false_and, Bool.or_true, Bool.true_or, Bool.or_false, Bool.false_or, beq_self_eq_true, bne_self_eq_false, Bool.true_eq_false, Bool.false_eq_true, reduceCtorEq, Bool.and_self, Bool.or_self, Int.reduceBEq, Int.reduceBNe, Int.reduceNeg, decide_true, decide_false, Int.reduceLT, Int.reduceLE, Int.reduceGT]; done)
    | (show @Eq Bool _ _; simp only [p0, Int.toNat_natCast, Bool.cond_true_left, Bool.cond_false_right, Bool.cond_true_right, Bool.cond_false_left, cond_true, cond_false, Bool.not_true, Bool.not_false, Bool.not_not, Bool.and_true, Bool.true_and, Bool.and_false, Bool.false_and, Bool.or_true, Bool.true_or, Bool.or_false, Bool.false_or, beq_self_eq_true, bne_self_eq_false, Bool.true_eq_false, Bool.false_eq_true, reduceCtorEq, Bool.and_self, Bool.or_self, Int.reduceBEq, Int.reduceBNe, Int.reduceNeg, decide_true, decide_false, Int.reduceLT, Int.reduceLE, Int.reduceGT]; done)
    | skip
set_option maxRecDepth 20000 in
set_option maxHeartbeats 2000000 in
theorem capsE (t : Tst) (lim more fl : Int) (hf : 0 ≤ fl ∧ fl ≤ 65535) (hn : t.n ≤ 20) (p2 : (agrE t (decide (-2000000000 ≤ lim ∧ lim ≤ 2000000000)) != 0) = true) : SF Try.prog 13 (V.atS [.agg (tstC t), I lim, I more, .int .u16 fl] (.bool true)) := by
  have p0 : decide ((20 : Int) < (t.n : Int)) = false := decide_eq_false (by omega)
  refine sf_gen types_ok mixed (l := [(18, V.atS [] (.bool true)), (30, withinS), (25, ask2S t)]) ⟨sf18, sf30, sf25b t (by omega), trivial⟩ (es := []) trivial (its := []) trivial (fr := []) trivial [] [] false [] [] 4 Try.func13 rfl (by kernel_rfl) fun args h => ?_
  have h : args = _ := h
  subst h
  refine ⟨rfl, ?_⟩
  show evalCode _ _ _ fun o => match o with
    | .normal st | .ret st => withP _ (_ ∧ PLe _ (.bool true))
    | _ => False
  repeat' first
    | exact PLe.refl _
    | exact BLe.refl _
    | exact PLeL.nil
    | exact BLeL.nil
    | refine ⟨?_, ?_⟩
    | refine PLeL.cons ?_ ?_
    | refine BLeL.cons ?_ ?_
    | refine ple_int ?_
    | refine ple_bool ?_
    | refine ple_tt ?_
    | refine ple_ff ?_
    | refine PLe.aggL ?_
    | refine PLe.tupL ?_
    | refine BLe.cellsL ?_
    | refine fun h => absurd h (by decide)
    | (refine fun h => ?_; exfalso; simp only [p0, p2, Int.toNat_natCast, Bool.cond_true_left, Bool.cond_false_right, Bool.cond_true_right, Bool.cond_false_left, cond_true, cond_false, Bool.not_true, Bool.not_false, Bool.not_not, Bool.and_true, Bool.true_and, Bool.and_false, Bool.false_and, Bool.or_true, Bool.true_or, Bool.or_false, Bool.false_or, beq_self_eq_true, bne_self_eq_false, Bool.true_eq_false, Bool.false_eq_true, reduceCtorEq, Bool.and_self, Bool.or_self, Int.reduceBEq, Int.reduceBNe, Int.reduceNeg, decide_true, decide_false, Int.reduceLT, Int.reduceLE, Int.reduceGT] at h; done)
    | refine fun (h : @Eq Bool _ _) => ?_
  all_goals first
    | trivial
    | rfl
    | omega
    | exact ⟨rfl, rfl⟩
    | (simp only [p0, p2, Int.toNat_natCast, Bool.cond_true_left, Bool.cond_false_right, Bool.cond_true_right, Bool.cond_false_left, cond_true, cond_false, Bool.not_true, Bool.not_false, Bool.not_not, Bool.and_true, Bool.true_and, Bool.and_false, Bool.false_and, Bool.or_true, Bool.true_or, Bool.or_false, Bool.false_or, beq_self_eq_true, bne_self_eq_false, Bool.true_eq_false, Bool.false_eq_true, reduceCtorEq, Bool.and_self, Bool.or_self, Int.reduceBEq, Int.reduceBNe, Int.reduceNeg, decide_true, decide_false, Int.reduceLT, Int.reduceLE, Int.reduceGT]; done)
    | (show @Eq Bool _ _; simp only [p0, p2, Int.toNat_natCast, Bool.cond_true_left, Bool.cond_false_right, Bool.cond_true_right, Bool.cond_false_left, cond_true, cond_false, Bool.not_true, Bool.not_false, Bool.not_not, Bool.and_true, Bool.true_and, Bool.and_false, Bool.false_and, Bool.or_true, Bool.true_or, Bool.or_false, Bool.false_or, beq_self_eq_true, bne_self_eq_false, Bool.true_eq_false, Bool.false_eq_true, reduceCtorEq, Bool.and_self, Bool.or_self, Int.reduceBEq, Int.reduceBNe, Int.reduceNeg, decide_true, decide_false, Int.reduceLT, Int.reduceLE, Int.reduceGT]; done)
    | skip
set_option maxRecDepth 20000 in
set_option maxHeartbeats 2000000 in
theorem capsT0 (t : Tst) (lim more fl : Int) (hf : 0 ≤ fl ∧ fl ≤ 65535) (hn : t.n ≤ 20) (p2 : (agrE t (decide (-2000000000 ≤ lim ∧ lim ≤ 2000000000)) != 0) = false) (pS : decide (capS (famsM t) lim < 1000) = true) (pm : decide (more < lim) = true) : SF Try.prog 13 (V.atS [.agg (tstC t), I lim, I more, .int .u16 fl] (.bool true)) := by
  have p0 : decide ((20 : Int) < (t.n : Int)) = false := decide_eq_false (by omega)
  have hl : -2000000000 ≤ lim ∧ lim ≤ 2000000000 := of_decide_eq_true (agrE_t p2)
  have hok := (agrE_ok p2).1
  have hp := (agrE_ok p2).2.2
  obtain ⟨rH, rL, c⟩ := caps_ex hok hp lim
  have k1 := c.h
  have k2 := c.l
  have k3 := c.le
  have eS : capS (famsM t) lim = (rH : Int) - 1 := (capS_eq c).1
  have eM : capM (famsM t) lim = (rL : Int) - 1 := (capS_eq c).2
  have hq := q_in fl hf
  have f1 : decide (capS (famsM t) lim < -1) = false := decide_eq_false (by omega)
  have f2 : decide (capM (famsM t) lim < capS (famsM t) lim) = false := decide_eq_false (by omega)
  have f3 : decide (1000 < capM (famsM t) lim) = false := decide_eq_false (by omega)
  have f4 : (decide ((encL (dropF ((IntKind.i64.wrap fl).tmod 1001)) (famsM t)).hi ≤ lim) != decide (((IntKind.i64.wrap fl).tmod 1001) ≤ capS (famsM t) lim)) = false := by
    obtain ⟨m, hm⟩ : ∃ m : Nat, ((IntKind.i64.wrap fl).tmod 1001) = (m : Int) := ⟨((IntKind.i64.wrap fl).tmod 1001).toNat, by have := hq.1; omega⟩
    have := c.hle (x := m) (by have := hq.2; omega)
    rw [hm, eS, bne, show decide ((encL (dropF (m : Int)) (famsM t)).hi ≤ lim) = decide ((m : Int) ≤ (rH : Int) - 1) from decide_eq_decide.2 (this.trans (by omega))]
    simp
  have f5 : (decide ((encL (dropF ((IntKind.i64.wrap fl).tmod 1001)) (famsM t)).lo ≤ lim) != decide (((IntKind.i64.wrap fl).tmod 1001) ≤ capM (famsM t) lim)) = false := by
    obtain ⟨m, hm⟩ : ∃ m : Nat, ((IntKind.i64.wrap fl).tmod 1001) = (m : Int) := ⟨((IntKind.i64.wrap fl).tmod 1001).toNat, by have := hq.1; omega⟩
    have := c.lle (x := m) (by have := hq.2; omega)
    rw [hm, eM, bne, show decide ((encL (dropF (m : Int)) (famsM t)).lo ≤ lim) = decide ((m : Int) ≤ (rL : Int) - 1) from decide_eq_decide.2 (this.trans (by omega))]
    simp
  have e1 : IntKind.i64.wrap (capS (famsM t) lim + 1) = (rH : Int) := (wi (n := capS (famsM t) lim + 1) (by omega)).trans (by omega)
  have hr : rH < 1001 := by have := of_decide_eq_true pS; omega
  have hq2 : inQ (IntKind.i64.wrap (capS (famsM t) lim + 1)) := by rw [e1]; exact ⟨by omega, by omega⟩
  have f6 : decide ((encL (dropF (IntKind.i64.wrap (capS (famsM t) lim + 1))) (famsM t)).hi ≤ lim) = false := by
    rw [e1]
    refine decide_eq_false fun hc => ?_
    have := (c.hle (x := rH) hr).1 hc
    omega
  refine sf_gen types_ok mixed (l := [(18, V.atS [] (.bool true)), (30, withinS), (25, ask2S t), (20, V.atS [.agg (tstC t)] (.agg (tstC t))), (33, cap33 t), (28, dr28 t)]) ⟨sf18, sf30, sf25b t (by omega), c20 t (by omega), sf33q t hok hp, sf28q t hok hp, trivial⟩ (es := []) trivial (its := []) trivial (fr := []) trivial [] [] false [] [] 4 Try.func13 rfl (by kernel_rfl) fun args h => ?_
  have h : args = _ := h
  subst h
  refine ⟨rfl, ?_⟩
  show evalCode _ _ _ fun o => match o with
    | .normal st | .ret st => withP _ (_ ∧ PLe _ (.bool true))
    | _ => False
  repeat' first
    | refine fun h => absurd (h.symm.trans f4) (by decide)
    | refine fun h => absurd (h.symm.trans f5) (by decide)
    | refine fun h => absurd (h.symm.trans f6) (by decide)
    | exact PLe.refl _
    | exact BLe.refl _
    | exact PLeL.nil
    | exact BLeL.nil
    | refine ⟨?_, ?_⟩
    | refine PLeL.cons ?_ ?_
    | refine BLeL.cons ?_ ?_
    | refine ple_int ?_
    | refine ple_bool ?_
    | refine ple_tt ?_
    | refine ple_ff ?_
    | refine PLe.aggL ?_
    | refine PLe.tupL ?_
    | refine BLe.cellsL ?_
    | refine fun h => absurd h (by decide)
    | (refine fun h => ?_; exfalso; simp only [f1, f2, f3, pS, pm, Int.toNat_natCast, Bool.cond_true_left, Bool.cond_false_right, Bool.cond_true_right, Bool.cond_false_left, cond_true, cond_false, Bool.not_true, Bool.not_false, Bool.not_not, Bool.and_true, Bool.true_and, Bool.and_false, Bool.false_and, Bool.or_true, Bool.true_or, Bool.or_false, Bool.false_or, beq_self_eq_true, bne_self_eq_false, Bool.true_eq_false, Bool.false_eq_true, reduceCtorEq, Bool.and_self, Bool.or_self, Int.reduceBEq, Int.reduceBNe, Int.reduceNeg, decide_true, decide_false, Int.reduceLT, Int.reduceLE, Int.reduceGT] at h; done)
    | refine fun (h : @Eq Bool _ _) => ?_
  all_goals first
    | trivial
    | rfl
    | omega
    | exact ⟨rfl, rfl⟩
    | exact ⟨rfl, hl⟩
    | exact ⟨rfl, hq⟩
    | exact hl
    | exact hq
    | exact hl.1
    | exact hl.2
    | exact hq.1
    | exact hq.2
    | exact ⟨rfl, hq2⟩
    | exact hq2
    | exact hq2.1
    | exact hq2.2
    | (simp only [f1, f2, f3, pS, pm, Int.toNat_natCast, Bool.cond_true_left, Bool.cond_false_right, Bool.cond_true_right, Bool.cond_false_left, cond_true, cond_false, Bool.not_true, Bool.not_false, Bool.not_not, Bool.and_true, Bool.true_and, Bool.and_false, Bool.false_and, Bool.or_true, Bool.true_or, Bool.or_false, Bool.false_or, beq_self_eq_true, bne_self_eq_false, Bool.true_eq_false, Bool.false_eq_true, reduceCtorEq, Bool.and_self, Bool.or_self, Int.reduceBEq, Int.reduceBNe, Int.reduceNeg, decide_true, decide_false, Int.reduceLT, Int.reduceLE, Int.reduceGT]; done)
    | (show @Eq Bool _ _; simp only [f1, f2, f3, pS, pm, Int.toNat_natCast, Bool.cond_true_left, Bool.cond_false_right, Bool.cond_true_right, Bool.cond_false_left, cond_true, cond_false, Bool.not_true, Bool.not_false, Bool.not_not, Bool.and_true, Bool.true_and, Bool.and_false, Bool.false_and, Bool.or_true, Bool.true_or, Bool.or_false, Bool.false_or, beq_self_eq_true, bne_self_eq_false, Bool.true_eq_false, Bool.false_eq_true, reduceCtorEq, Bool.and_self, Bool.or_self, Int.reduceBEq, Int.reduceBNe, Int.reduceNeg, decide_true, decide_false, Int.reduceLT, Int.reduceLE, Int.reduceGT]; done)
    | skip
set_option maxRecDepth 20000 in
set_option maxHeartbeats 2000000 in
theorem capsT1 (t : Tst) (lim more fl : Int) (hf : 0 ≤ fl ∧ fl ≤ 65535) (hn : t.n ≤ 20) (p2 : (agrE t (decide (-2000000000 ≤ lim ∧ lim ≤ 2000000000)) != 0) = false) (pS : decide (capS (famsM t) lim < 1000) = true) (pm : decide (more < lim) = false) (pn : decide (2000000000 < more) = true) : SF Try.prog 13 (V.atS [.agg (tstC t), I lim, I more, .int .u16 fl] (.bool true)) := by
  have p0 : decide ((20 : Int) < (t.n : Int)) = false := decide_eq_false (by omega)
  have hl : -2000000000 ≤ lim ∧ lim ≤ 2000000000 := of_decide_eq_true (agrE_t p2)
  have hok := (agrE_ok p2).1
  have hp := (agrE_ok p2).2.2
  obtain ⟨rH, rL, c⟩ := caps_ex hok hp lim
  have k1 := c.h
  have k2 := c.l
  have k3 := c.le
  have eS : capS (famsM t) lim = (rH : Int) - 1 := (capS_eq c).1
  have eM : capM (famsM t) lim = (rL : Int) - 1 := (capS_eq c).2
  have hq := q_in fl hf
  have f1 : decide (capS (famsM t) lim < -1) = false := decide_eq_false (by omega)
  have f2 : decide (capM (famsM t) lim < capS (famsM t) lim) = false := decide_eq_false (by omega)
  have f3 : decide (1000 < capM (famsM t) lim) = false := decide_eq_false (by omega)
  have f4 : (decide ((encL (dropF ((IntKind.i64.wrap fl).tmod 1001)) (famsM t)).hi ≤ lim) != decide (((IntKind.i64.wrap fl).tmod 1001) ≤ capS (famsM t) lim)) = false := by
    obtain ⟨m, hm⟩ : ∃ m : Nat, ((IntKind.i64.wrap fl).tmod 1001) = (m : Int) := ⟨((IntKind.i64.wrap fl).tmod 1001).toNat, by have := hq.1; omega⟩
    have := c.hle (x := m) (by have := hq.2; omega)
    rw [hm, eS, bne, show decide ((encL (dropF (m : Int)) (famsM t)).hi ≤ lim) = decide ((m : Int) ≤ (rH : Int) - 1) from decide_eq_decide.2 (this.trans (by omega))]
    simp
  have f5 : (decide ((encL (dropF ((IntKind.i64.wrap fl).tmod 1001)) (famsM t)).lo ≤ lim) != decide (((IntKind.i64.wrap fl).tmod 1001) ≤ capM (famsM t) lim)) = false := by
    obtain ⟨m, hm⟩ : ∃ m : Nat, ((IntKind.i64.wrap fl).tmod 1001) = (m : Int) := ⟨((IntKind.i64.wrap fl).tmod 1001).toNat, by have := hq.1; omega⟩
    have := c.lle (x := m) (by have := hq.2; omega)
    rw [hm, eM, bne, show decide ((encL (dropF (m : Int)) (famsM t)).lo ≤ lim) = decide ((m : Int) ≤ (rL : Int) - 1) from decide_eq_decide.2 (this.trans (by omega))]
    simp
  have e1 : IntKind.i64.wrap (capS (famsM t) lim + 1) = (rH : Int) := (wi (n := capS (famsM t) lim + 1) (by omega)).trans (by omega)
  have hr : rH < 1001 := by have := of_decide_eq_true pS; omega
  have hq2 : inQ (IntKind.i64.wrap (capS (famsM t) lim + 1)) := by rw [e1]; exact ⟨by omega, by omega⟩
  have f6 : decide ((encL (dropF (IntKind.i64.wrap (capS (famsM t) lim + 1))) (famsM t)).hi ≤ lim) = false := by
    rw [e1]
    refine decide_eq_false fun hc => ?_
    have := (c.hle (x := rH) hr).1 hc
    omega
  refine sf_gen types_ok mixed (l := [(18, V.atS [] (.bool true)), (30, withinS), (25, ask2S t), (20, V.atS [.agg (tstC t)] (.agg (tstC t))), (33, cap33 t), (28, dr28 t)]) ⟨sf18, sf30, sf25b t (by omega), c20 t (by omega), sf33q t hok hp, sf28q t hok hp, trivial⟩ (es := []) trivial (its := []) trivial (fr := []) trivial [] [] false [] [] 4 Try.func13 rfl (by kernel_rfl) fun args h => ?_
  have h : args = _ := h
  subst h
  refine ⟨rfl, ?_⟩
  show evalCode _ _ _ fun o => match o with
    | .normal st | .ret st => withP _ (_ ∧ PLe _ (.bool true))
    | _ => False
  repeat' first
    | refine fun h => absurd (h.symm.trans f4) (by decide)
    | refine fun h => absurd (h.symm.trans f5) (by decide)
    | refine fun h => absurd (h.symm.trans f6) (by decide)
    | exact PLe.refl _
    | exact BLe.refl _
    | exact PLeL.nil
    | exact BLeL.nil
    | refine ⟨?_, ?_⟩
    | refine PLeL.cons ?_ ?_
    | refine BLeL.cons ?_ ?_
    | refine ple_int ?_
    | refine ple_bool ?_
    | refine ple_tt ?_
    | refine ple_ff ?_
    | refine PLe.aggL ?_
    | refine PLe.tupL ?_
    | refine BLe.cellsL ?_
    | refine fun h => absurd h (by decide)
    | (refine fun h => ?_; exfalso; simp only [f1, f2, f3, pS, pm, pn, Int.toNat_natCast, Bool.cond_true_left, Bool.cond_false_right, Bool.cond_true_right, Bool.cond_false_left, cond_true, cond_false, Bool.not_true, Bool.not_false, Bool.not_not, Bool.and_true, Bool.true_and, Bool.and_false, Bool.false_and, Bool.or_true, Bool.true_or, Bool.or_false, Bool.false_or, beq_self_eq_true, bne_self_eq_false, Bool.true_eq_false, Bool.false_eq_true, reduceCtorEq, Bool.and_self, Bool.or_self, Int.reduceBEq, Int.reduceBNe, Int.reduceNeg, decide_true, decide_false, Int.reduceLT, Int.reduceLE, Int.reduceGT] at h; done)
    | refine fun (h : @Eq Bool _ _) => ?_
  all_goals first
    | trivial
    | rfl
    | omega
    | exact ⟨rfl, rfl⟩
    | exact ⟨rfl, hl⟩
    | exact ⟨rfl, hq⟩
    | exact hl
    | exact hq
    | exact hl.1
    | exact hl.2
    | exact hq.1
    | exact hq.2
    | exact ⟨rfl, hq2⟩
    | exact hq2
    | exact hq2.1
    | exact hq2.2
    | (simp only [f1, f2, f3, pS, pm, pn, Int.toNat_natCast, Bool.cond_true_left, Bool.cond_false_right, Bool.cond_true_right, Bool.cond_false_left, cond_true, cond_false, Bool.not_true, Bool.not_false, Bool.not_not, Bool.and_true, Bool.true_and, Bool.and_false, Bool.false_and, Bool.or_true, Bool.true_or, Bool.or_false, Bool.false_or, beq_self_eq_true, bne_self_eq_false, Bool.true_eq_false, Bool.false_eq_true, reduceCtorEq, Bool.and_self, Bool.or_self, Int.reduceBEq, Int.reduceBNe, Int.reduceNeg, decide_true, decide_false, Int.reduceLT, Int.reduceLE, Int.reduceGT]; done)
    | (show @Eq Bool _ _; simp only [f1, f2, f3, pS, pm, pn, Int.toNat_natCast, Bool.cond_true_left, Bool.cond_false_right, Bool.cond_true_right, Bool.cond_false_left, cond_true, cond_false, Bool.not_true, Bool.not_false, Bool.not_not, Bool.and_true, Bool.true_and, Bool.and_false, Bool.false_and, Bool.or_true, Bool.true_or, Bool.or_false, Bool.false_or, beq_self_eq_true, bne_self_eq_false, Bool.true_eq_false, Bool.false_eq_true, reduceCtorEq, Bool.and_self, Bool.or_self, Int.reduceBEq, Int.reduceBNe, Int.reduceNeg, decide_true, decide_false, Int.reduceLT, Int.reduceLE, Int.reduceGT]; done)
    | skip
set_option maxRecDepth 20000 in
set_option maxHeartbeats 2000000 in
theorem capsT2 (t : Tst) (lim more fl : Int) (hf : 0 ≤ fl ∧ fl ≤ 65535) (hn : t.n ≤ 20) (p2 : (agrE t (decide (-2000000000 ≤ lim ∧ lim ≤ 2000000000)) != 0) = false) (pS : decide (capS (famsM t) lim < 1000) = true) (pm : decide (more < lim) = false) (pn : decide (2000000000 < more) = false) : SF Try.prog 13 (V.atS [.agg (tstC t), I lim, I more, .int .u16 fl] (.bool true)) := by
  have p0 : decide ((20 : Int) < (t.n : Int)) = false := decide_eq_false (by omega)
  have hl : -2000000000 ≤ lim ∧ lim ≤ 2000000000 := of_decide_eq_true (agrE_t p2)
  have hok := (agrE_ok p2).1
  have hp := (agrE_ok p2).2.2
  obtain ⟨rH, rL, c⟩ := caps_ex hok hp lim
  have k1 := c.h
  have k2 := c.l
  have k3 := c.le
  have eS : capS (famsM t) lim = (rH : Int) - 1 := (capS_eq c).1
  have eM : capM (famsM t) lim = (rL : Int) - 1 := (capS_eq c).2
  have hq := q_in fl hf
  have f1 : decide (capS (famsM t) lim < -1) = false := decide_eq_false (by omega)
  have f2 : decide (capM (famsM t) lim < capS (famsM t) lim) = false := decide_eq_false (by omega)
  have f3 : decide (1000 < capM (famsM t) lim) = false := decide_eq_false (by omega)
  have f4 : (decide ((encL (dropF ((IntKind.i64.wrap fl).tmod 1001)) (famsM t)).hi ≤ lim) != decide (((IntKind.i64.wrap fl).tmod 1001) ≤ capS (famsM t) lim)) = false := by
    obtain ⟨m, hm⟩ : ∃ m : Nat, ((IntKind.i64.wrap fl).tmod 1001) = (m : Int) := ⟨((IntKind.i64.wrap fl).tmod 1001).toNat, by have := hq.1; omega⟩
    have := c.hle (x := m) (by have := hq.2; omega)
    rw [hm, eS, bne, show decide ((encL (dropF (m : Int)) (famsM t)).hi ≤ lim) = decide ((m : Int) ≤ (rH : Int) - 1) from decide_eq_decide.2 (this.trans (by omega))]
    simp
  have f5 : (decide ((encL (dropF ((IntKind.i64.wrap fl).tmod 1001)) (famsM t)).lo ≤ lim) != decide (((IntKind.i64.wrap fl).tmod 1001) ≤ capM (famsM t) lim)) = false := by
    obtain ⟨m, hm⟩ : ∃ m : Nat, ((IntKind.i64.wrap fl).tmod 1001) = (m : Int) := ⟨((IntKind.i64.wrap fl).tmod 1001).toNat, by have := hq.1; omega⟩
    have := c.lle (x := m) (by have := hq.2; omega)
    rw [hm, eM, bne, show decide ((encL (dropF (m : Int)) (famsM t)).lo ≤ lim) = decide ((m : Int) ≤ (rL : Int) - 1) from decide_eq_decide.2 (this.trans (by omega))]
    simp
  have e1 : IntKind.i64.wrap (capS (famsM t) lim + 1) = (rH : Int) := (wi (n := capS (famsM t) lim + 1) (by omega)).trans (by omega)
  have hr : rH < 1001 := by have := of_decide_eq_true pS; omega
  have hq2 : inQ (IntKind.i64.wrap (capS (famsM t) lim + 1)) := by rw [e1]; exact ⟨by omega, by omega⟩
  have f6 : decide ((encL (dropF (IntKind.i64.wrap (capS (famsM t) lim + 1))) (famsM t)).hi ≤ lim) = false := by
    rw [e1]
    refine decide_eq_false fun hc => ?_
    have := (c.hle (x := rH) hr).1 hc
    omega
  have hm1 : lim ≤ more := by have := of_decide_eq_false pm; omega
  have hm2 : -2000000000 ≤ more ∧ more ≤ 2000000000 := by have := of_decide_eq_false pn; omega
  obtain ⟨rH', rL', c'⟩ := caps_ex hok hp more
  have hmono := caps_mono c c' hm1
  have eS' : capS (famsM t) more = (rH' : Int) - 1 := (capS_eq c').1
  have eM' : capM (famsM t) more = (rL' : Int) - 1 := (capS_eq c').2
  have f7 : decide (capS (famsM t) lim ≤ capS (famsM t) more) = true := decide_eq_true (by omega)
  have f8 : decide (capM (famsM t) lim ≤ capM (famsM t) more) = true := decide_eq_true (by omega)
  refine sf_gen types_ok mixed (l := [(18, V.atS [] (.bool true)), (30, withinS), (25, ask2S t), (20, V.atS [.agg (tstC t)] (.agg (tstC t))), (33, cap33 t), (28, dr28 t)]) ⟨sf18, sf30, sf25b t (by omega), c20 t (by omega), sf33q t hok hp, sf28q t hok hp, trivial⟩ (es := []) trivial (its := []) trivial (fr := []) trivial [] [] false [] [] 4 Try.func13 rfl (by kernel_rfl) fun args h => ?_
  have h : args = _ := h
  subst h
  refine ⟨rfl, ?_⟩
  show evalCode _ _ _ fun o => match o with
    | .normal st | .ret st => withP _ (_ ∧ PLe _ (.bool true))
    | _ => False
  repeat' first
    | refine fun h => absurd (h.symm.trans f4) (by decide)
    | refine fun h => absurd (h.symm.trans f5) (by decide)
    | refine fun h => absurd (h.symm.trans f6) (by decide)
    | exact PLe.refl _
    | exact BLe.refl _
    | exact PLeL.nil
    | exact BLeL.nil
    | refine ⟨?_, ?_⟩
    | refine PLeL.cons ?_ ?_
    | refine BLeL.cons ?_ ?_
    | refine ple_int ?_
    | refine ple_bool ?_
    | refine ple_tt ?_
    | refine ple_ff ?_
    | refine PLe.aggL ?_
    | refine PLe.tupL ?_
    | refine BLe.cellsL ?_
    | refine fun h => absurd h (by decide)
    | (refine fun h => ?_; exfalso; simp only [f1, f2, f3, pS, pm, pn, f7, f8, Int.toNat_natCast, Bool.cond_true_left, Bool.cond_false_right, Bool.cond_true_right, Bool.cond_false_left, cond_true, cond_false, Bool.not_true, Bool.not_false, Bool.not_not, Bool.and_true, Bool.true_and, Bool.and_false, Bool.false_and, Bool.or_true, Bool.true_or, Bool.or_false, Bool.false_or, beq_self_eq_true, bne_self_eq_false, Bool.true_eq_false, Bool.false_eq_true, reduceCtorEq, Bool.and_self, Bool.or_self, Int.reduceBEq, Int.reduceBNe, Int.reduceNeg, decide_true, decide_false, Int.reduceLT, Int.reduceLE, Int.reduceGT] at h; done)
    | refine fun (h : @Eq Bool _ _) => ?_
  all_goals first
    | trivial
    | rfl
    | omega
    | exact ⟨rfl, rfl⟩
    | exact ⟨rfl, hl⟩
    | exact ⟨rfl, hq⟩
    | exact hl
    | exact hq
    | exact hl.1
    | exact hl.2
    | exact hq.1
    | exact hq.2
    | exact ⟨rfl, hq2⟩
    | exact hq2
    | exact hq2.1
    | exact hq2.2
    | exact ⟨rfl, hm2⟩
    | exact hm2
    | exact hm2.1
    | exact hm2.2
    | (simp only [f1, f2, f3, pS, pm, pn, f7, f8, Int.toNat_natCast, Bool.cond_true_left, Bool.cond_false_right, Bool.cond_true_right, Bool.cond_false_left, cond_true, cond_false, Bool.not_true, Bool.not_false, Bool.not_not, Bool.and_true, Bool.true_and, Bool.and_false, Bool.false_and, Bool.or_true, Bool.true_or, Bool.or_false, Bool.false_or, beq_self_eq_true, bne_self_eq_false, Bool.true_eq_false, Bool.false_eq_true, reduceCtorEq, Bool.and_self, Bool.or_self, Int.reduceBEq, Int.reduceBNe, Int.reduceNeg, decide_true, decide_false, Int.reduceLT, Int.reduceLE, Int.reduceGT]; done)
    | (show @Eq Bool _ _; simp only [f1, f2, f3, pS, pm, pn, f7, f8, Int.toNat_natCast, Bool.cond_true_left, Bool.cond_false_right, Bool.cond_true_right, Bool.cond_false_left, cond_true, cond_false, Bool.not_true, Bool.not_false, Bool.not_not, Bool.and_true, Bool.true_and, Bool.and_false, Bool.false_and, Bool.or_true, Bool.true_or, Bool.or_false, Bool.false_or, beq_self_eq_true, bne_self_eq_false, Bool.true_eq_false, Bool.false_eq_true, reduceCtorEq, Bool.and_self, Bool.or_self, Int.reduceBEq, Int.reduceBNe, Int.reduceNeg, decide_true, decide_false, Int.reduceLT, Int.reduceLE, Int.reduceGT]; done)
    | skip
set_option maxRecDepth 20000 in
set_option maxHeartbeats 2000000 in
theorem capsF0 (t : Tst) (lim more fl : Int) (hf : 0 ≤ fl ∧ fl ≤ 65535) (hn : t.n ≤ 20) (p2 : (agrE t (decide (-2000000000 ≤ lim ∧ lim ≤ 2000000000)) != 0) = false) (pS : decide (capS (famsM t) lim < 1000) = false) (pm : decide (more < lim) = true) : SF Try.prog 13 (V.atS [.agg (tstC t), I lim, I more, .int .u16 fl] (.bool true)) := by
  have p0 : decide ((20 : Int) < (t.n : Int)) = false := decide_eq_false (by omega)
  have hl : -2000000000 ≤ lim ∧ lim ≤ 2000000000 := of_decide_eq_true (agrE_t p2)
  have hok := (agrE_ok p2).1
  have hp := (agrE_ok p2).2.2
  obtain ⟨rH, rL, c⟩ := caps_ex hok hp lim
  have k1 := c.h
  have k2 := c.l
  have k3 := c.le
  have eS : capS (famsM t) lim = (rH : Int) - 1 := (capS_eq c).1
  have eM : capM (famsM t) lim = (rL : Int) - 1 := (capS_eq c).2
  have hq := q_in fl hf
  have f1 : decide (capS (famsM t) lim < -1) = false := decide_eq_false (by omega)
  have f2 : decide (capM (famsM t) lim < capS (famsM t) lim) = false := decide_eq_false (by omega)
  have f3 : decide (1000 < capM (famsM t) lim) = false := decide_eq_false (by omega)
  have f4 : (decide ((encL (dropF ((IntKind.i64.wrap fl).tmod 1001)) (famsM t)).hi ≤ lim) != decide (((IntKind.i64.wrap fl).tmod 1001) ≤ capS (famsM t) lim)) = false := by
    obtain ⟨m, hm⟩ : ∃ m : Nat, ((IntKind.i64.wrap fl).tmod 1001) = (m : Int) := ⟨((IntKind.i64.wrap fl).tmod 1001).toNat, by have := hq.1; omega⟩
    have := c.hle (x := m) (by have := hq.2; omega)
    rw [hm, eS, bne, show decide ((encL (dropF (m : Int)) (famsM t)).hi ≤ lim) = decide ((m : Int) ≤ (rH : Int) - 1) from decide_eq_decide.2 (this.trans (by omega))]
    simp
  have f5 : (decide ((encL (dropF ((IntKind.i64.wrap fl).tmod 1001)) (famsM t)).lo ≤ lim) != decide (((IntKind.i64.wrap fl).tmod 1001) ≤ capM (famsM t) lim)) = false := by
    obtain ⟨m, hm⟩ : ∃ m : Nat, ((IntKind.i64.wrap fl).tmod 1001) = (m : Int) := ⟨((IntKind.i64.wrap fl).tmod 1001).toNat, by have := hq.1; omega⟩
    have := c.lle (x := m) (by have := hq.2; omega)
    rw [hm, eM, bne, show decide ((encL (dropF (m : Int)) (famsM t)).lo ≤ lim) = decide ((m : Int) ≤ (rL : Int) - 1) from decide_eq_decide.2 (this.trans (by omega))]
    simp
  refine sf_gen types_ok mixed (l := [(18, V.atS [] (.bool true)), (30, withinS), (25, ask2S t), (20, V.atS [.agg (tstC t)] (.agg (tstC t))), (33, cap33 t), (28, dr28 t)]) ⟨sf18, sf30, sf25b t (by omega), c20 t (by omega), sf33q t hok hp, sf28q t hok hp, trivial⟩ (es := []) trivial (its := []) trivial (fr := []) trivial [] [] false [] [] 4 Try.func13 rfl (by kernel_rfl) fun args h => ?_
  have h : args = _ := h
  subst h
  refine ⟨rfl, ?_⟩
  show evalCode _ _ _ fun o => match o with
    | .normal st | .ret st => withP _ (_ ∧ PLe _ (.bool true))
    | _ => False
  repeat' first
    | refine fun h => absurd (h.symm.trans f4) (by decide)
    | refine fun h => absurd (h.symm.trans f5) (by decide)
    | exact PLe.refl _
    | exact BLe.refl _
    | exact PLeL.nil
    | exact BLeL.nil
    | refine ⟨?_, ?_⟩
    | refine PLeL.cons ?_ ?_
    | refine BLeL.cons ?_ ?_
    | refine ple_int ?_
    | refine ple_bool ?_
    | refine ple_tt ?_
    | refine ple_ff ?_
    | refine PLe.aggL ?_
    | refine PLe.tupL ?_
    | refine BLe.cellsL ?_
    | refine fun h => absurd h (by decide)
    | (refine fun h => ?_; exfalso; simp only [f1, f2, f3, pS, pm, Int.toNat_natCast, Bool.cond_true_left, Bool.cond_false_right, Bool.cond_true_right, Bool.cond_false_left, cond_true, cond_false, Bool.not_true, Bool.not_false, Bool.not_not, Bool.and_true, Bool.true_and, Bool.and_false, Bool.false_and, Bool.or_true, Bool.true_or, Bool.or_false, Bool.false_or, beq_self_eq_true, bne_self_eq_false, Bool.true_eq_false, Bool.false_eq_true, reduceCtorEq, Bool.and_self, Bool.or_self, Int.reduceBEq, Int.reduceBNe, Int.reduceNeg, decide_true, decide_false, Int.reduceLT, Int.reduceLE, Int.reduceGT] at h; done)
    | refine fun (h : @Eq Bool _ _) => ?_
  all_goals first
    | trivial
    | rfl
    | omega
    | exact ⟨rfl, rfl⟩
    | exact ⟨rfl, hl⟩
    | exact ⟨rfl, hq⟩
    | exact hl
    | exact hq
    | exact hl.1
    | exact hl.2
    | exact hq.1
    | exact hq.2
    | (simp only [f1, f2, f3, pS, pm, Int.toNat_natCast, Bool.cond_true_left, Bool.cond_false_right, Bool.cond_true_right, Bool.cond_false_left, cond_true, cond_false, Bool.not_true, Bool.not_false, Bool.not_not, Bool.and_true, Bool.true_and, Bool.and_false, Bool.false_and, Bool.or_true, Bool.true_or, Bool.or_false, Bool.false_or, beq_self_eq_true, bne_self_eq_false, Bool.true_eq_false, Bool.false_eq_true, reduceCtorEq, Bool.and_self, Bool.or_self, Int.reduceBEq, Int.reduceBNe, Int.reduceNeg, decide_true, decide_false, Int.reduceLT, Int.reduceLE, Int.reduceGT]; done)
    | (show @Eq Bool _ _; simp only [f1, f2, f3, pS, pm, Int.toNat_natCast, Bool.cond_true_left, Bool.cond_false_right, Bool.cond_true_right, Bool.cond_false_left, cond_true, cond_false, Bool.not_true, Bool.not_false, Bool.not_not, Bool.and_true, Bool.true_and, Bool.and_false, Bool.false_and, Bool.or_true, Bool.true_or, Bool.or_false, Bool.false_or, beq_self_eq_true, bne_self_eq_false, Bool.true_eq_false, Bool.false_eq_true, reduceCtorEq, Bool.and_self, Bool.or_self, Int.reduceBEq, Int.reduceBNe, Int.reduceNeg, decide_true, decide_false, Int.reduceLT, Int.reduceLE, Int.reduceGT]; done)
    | skip
set_option maxRecDepth 20000 in
set_option maxHeartbeats 2000000 in
theorem capsF1 (t : Tst) (lim more fl : Int) (hf : 0 ≤ fl ∧ fl ≤ 65535) (hn : t.n ≤ 20) (p2 : (agrE t (decide (-2000000000 ≤ lim ∧ lim ≤ 2000000000)) != 0) = false) (pS : decide (capS (famsM t) lim < 1000) = false) (pm : decide (more < lim) = false) (pn : decide (2000000000 < more) = true) : SF Try.prog 13 (V.atS [.agg (tstC t), I lim, I more, .int .u16 fl] (.bool true)) := by
  have p0 : decide ((20 : Int) < (t.n : Int)) = false := decide_eq_false (by omega)
  have hl : -2000000000 ≤ lim ∧ lim ≤ 2000000000 := of_decide_eq_true (agrE_t p2)
  have hok := (agrE_ok p2).1
  have hp := (agrE_ok p2).2.2
  obtain ⟨rH, rL, c⟩ := caps_ex hok hp lim
  have k1 := c.h
  have k2 := c.l
  have k3 := c.le
  have eS : capS (famsM t) lim = (rH : Int) - 1 := (capS_eq c).1
  have eM : capM (famsM t) lim = (rL : Int) - 1 := (capS_eq c).2
  have hq := q_in fl hf
  have f1 : decide (capS (famsM t) lim < -1) = false := decide_eq_false (by omega)
  have f2 : decide (capM (famsM t) lim < capS (famsM t) lim) = false := decide_eq_false (by omega)
  have f3 : decide (1000 < capM (famsM t) lim) = false := decide_eq_false (by omega)
  have f4 : (decide ((encL (dropF ((IntKind.i64.wrap fl).tmod 1001)) (famsM t)).hi ≤ lim) != decide (((IntKind.i64.wrap fl).tmod 1001) ≤ capS (famsM t) lim)) = false := by
    obtain ⟨m, hm⟩ : ∃ m : Nat, ((IntKind.i64.wrap fl).tmod 1001) = (m : Int) := ⟨((IntKind.i64.wrap fl).tmod 1001).toNat, by have := hq.1; omega⟩
    have := c.hle (x := m) (by have := hq.2; omega)
    rw [hm, eS, bne, show decide ((encL (dropF (m : Int)) (famsM t)).hi ≤ lim) = decide ((m : Int) ≤ (rH : Int) - 1) from decide_eq_decide.2 (this.trans (by omega))]
    simp
  have f5 : (decide ((encL (dropF ((IntKind.i64.wrap fl).tmod 1001)) (famsM t)).lo ≤ lim) != decide (((IntKind.i64.wrap fl).tmod 1001) ≤ capM (famsM t) lim)) = false := by
    obtain ⟨m, hm⟩ : ∃ m : Nat, ((IntKind.i64.wrap fl).tmod 1001) = (m : Int) := ⟨((IntKind.i64.wrap fl).tmod 1001).toNat, by have := hq.1; omega⟩
    have := c.lle (x := m) (by have := hq.2; omega)
    rw [hm, eM, bne, show decide ((encL (dropF (m : Int)) (famsM t)).lo ≤ lim) = decide ((m : Int) ≤ (rL : Int) - 1) from decide_eq_decide.2 (this.trans (by omega))]
    simp
  refine sf_gen types_ok mixed (l := [(18, V.atS [] (.bool true)), (30, withinS), (25, ask2S t), (20, V.atS [.agg (tstC t)] (.agg (tstC t))), (33, cap33 t), (28, dr28 t)]) ⟨sf18, sf30, sf25b t (by omega), c20 t (by omega), sf33q t hok hp, sf28q t hok hp, trivial⟩ (es := []) trivial (its := []) trivial (fr := []) trivial [] [] false [] [] 4 Try.func13 rfl (by kernel_rfl) fun args h => ?_
  have h : args = _ := h
  subst h
  refine ⟨rfl, ?_⟩
  show evalCode _ _ _ fun o => match o with
    | .normal st | .ret st => withP _ (_ ∧ PLe _ (.bool true))
    | _ => False
  repeat' first
    | refine fun h => absurd (h.symm.trans f4) (by decide)
    | refine fun h => absurd (h.symm.trans f5) (by decide)
    | exact PLe.refl _
    | exact BLe.refl _
    | exact PLeL.nil
    | exact BLeL.nil
    | refine ⟨?_, ?_⟩
    | refine PLeL.cons ?_ ?_
    | refine BLeL.cons ?_ ?_
    | refine ple_int ?_
    | refine ple_bool ?_
    | refine ple_tt ?_
    | refine ple_ff ?_
    | refine PLe.aggL ?_
    | refine PLe.tupL ?_
    | refine BLe.cellsL ?_
    | refine fun h => absurd h (by decide)
    | (refine fun h => ?_; exfalso; simp only [f1, f2, f3, pS, pm, pn, Int.toNat_natCast, Bool.cond_true_left, Bool.cond_false_right, Bool.cond_true_right, Bool.cond_false_left, cond_true, cond_false, Bool.not_true, Bool.not_false, Bool.not_not, Bool.and_true, Bool.true_and, Bool.and_false, Bool.false_and, Bool.or_true, Bool.true_or, Bool.or_false, Bool.false_or, beq_self_eq_true, bne_self_eq_false, Bool.true_eq_false, Bool.false_eq_true, reduceCtorEq, Bool.and_self, Bool.or_self, Int.reduceBEq, Int.reduceBNe, Int.reduceNeg, decide_true, decide_false, Int.reduceLT, Int.reduceLE, Int.reduceGT] at h; done)
    | refine fun (h : @Eq Bool _ _) => ?_
  all_goals first
    | trivial
    | rfl
    | omega
    | exact ⟨rfl, rfl⟩
    | exact ⟨rfl, hl⟩
    | exact ⟨rfl, hq⟩
    | exact hl
    | exact hq
    | exact hl.1
    | exact hl.2
    | exact hq.1
    | exact hq.2
    | (simp only [f1, f2, f3, pS, pm, pn, Int.toNat_natCast, Bool.cond_true_left, Bool.cond_false_right, Bool.cond_true_right, Bool.cond_false_left, cond_true, cond_false, Bool.not_true, Bool.not_false, Bool.not_not, Bool.and_true, Bool.true_and, Bool.and_false, Bool.false_and, Bool.or_true, Bool.true_or, Bool.or_false, Bool.false_or, beq_self_eq_true, bne_self_eq_false, Bool.true_eq_false, Bool.false_eq_true, reduceCtorEq, Bool.and_self, Bool.or_self, Int.reduceBEq, Int.reduceBNe, Int.reduceNeg, decide_true, decide_false, Int.reduceLT, Int.reduceLE, Int.reduceGT]; done)
    | (show @Eq Bool _ _; simp only [f1, f2, f3, pS, pm, pn, Int.toNat_natCast, Bool.cond_true_left, Bool.cond_false_right, Bool.cond_true_right, Bool.cond_false_left, cond_true, cond_false, Bool.not_true, Bool.not_false, Bool.not_not, Bool.and_true, Bool.true_and, Bool.and_false, Bool.false_and, Bool.or_true, Bool.true_or, Bool.or_false, Bool.false_or, beq_self_eq_true, bne_self_eq_false, Bool.true_eq_false, Bool.false_eq_true, reduceCtorEq, Bool.and_self, Bool.or_self, Int.reduceBEq, Int.reduceBNe, Int.reduceNeg, decide_true, decide_false, Int.reduceLT, Int.reduceLE, Int.reduceGT]; done)
    | skip
set_option maxRecDepth 20000 in
set_option maxHeartbeats 2000000 in
theorem capsF2 (t : Tst) (lim more fl : Int) (hf : 0 ≤ fl ∧ fl ≤ 65535) (hn : t.n ≤ 20) (p2 : (agrE t (decide (-2000000000 ≤ lim ∧ lim ≤ 2000000000)) != 0) = false) (pS : decide (capS (famsM t) lim < 1000) = false) (pm : decide (more < lim) = false) (pn : decide (2000000000 < more) = false) : SF Try.prog 13 (V.atS [.agg (tstC t), I lim, I more, .int .u16 fl] (.bool true)) := by
  have p0 : decide ((20 : Int) < (t.n : Int)) = false := decide_eq_false (by omega)
  have hl : -2000000000 ≤ lim ∧ lim ≤ 2000000000 := of_decide_eq_true (agrE_t p2)
  have hok := (agrE_ok p2).1
  have hp := (agrE_ok p2).2.2
  obtain ⟨rH, rL, c⟩ := caps_ex hok hp lim
  have k1 := c.h
  have k2 := c.l
  have k3 := c.le
  have eS : capS (famsM t) lim = (rH : Int) - 1 := (capS_eq c).1
  have eM : capM (famsM t) lim = (rL : Int) - 1 := (capS_eq c).2
  have hq := q_in fl hf
  have f1 : decide (capS (famsM t) lim < -1) = false := decide_eq_false (by omega)
  have f2 : decide (capM (famsM t) lim < capS (famsM t) lim) = false := decide_eq_false (by omega)
  have f3 : decide (1000 < capM (famsM t) lim) = false := decide_eq_false (by omega)
  have f4 : (decide ((encL (dropF ((IntKind.i64.wrap fl).tmod 1001)) (famsM t)).hi ≤ lim) != decide (((IntKind.i64.wrap fl).tmod 1001) ≤ capS (famsM t) lim)) = false := by
    obtain ⟨m, hm⟩ : ∃ m : Nat, ((IntKind.i64.wrap fl).tmod 1001) = (m : Int) := ⟨((IntKind.i64.wrap fl).tmod 1001).toNat, by have := hq.1; omega⟩
    have := c.hle (x := m) (by have := hq.2; omega)
    rw [hm, eS, bne, show decide ((encL (dropF (m : Int)) (famsM t)).hi ≤ lim) = decide ((m : Int) ≤ (rH : Int) - 1) from decide_eq_decide.2 (this.trans (by omega))]
    simp
  have f5 : (decide ((encL (dropF ((IntKind.i64.wrap fl).tmod 1001)) (famsM t)).lo ≤ lim) != decide (((IntKind.i64.wrap fl).tmod 1001) ≤ capM (famsM t) lim)) = false := by
    obtain ⟨m, hm⟩ : ∃ m : Nat, ((IntKind.i64.wrap fl).tmod 1001) = (m : Int) := ⟨((IntKind.i64.wrap fl).tmod 1001).toNat, by have := hq.1; omega⟩
    have := c.lle (x := m) (by have := hq.2; omega)
    rw [hm, eM, bne, show decide ((encL (dropF (m : Int)) (famsM t)).lo ≤ lim) = decide ((m : Int) ≤ (rL : Int) - 1) from decide_eq_decide.2 (this.trans (by omega))]
    simp
  have hm1 : lim ≤ more := by have := of_decide_eq_false pm; omega
  have hm2 : -2000000000 ≤ more ∧ more ≤ 2000000000 := by have := of_decide_eq_false pn; omega
  obtain ⟨rH', rL', c'⟩ := caps_ex hok hp more
  have hmono := caps_mono c c' hm1
  have eS' : capS (famsM t) more = (rH' : Int) - 1 := (capS_eq c').1
  have eM' : capM (famsM t) more = (rL' : Int) - 1 := (capS_eq c').2
  have f7 : decide (capS (famsM t) lim ≤ capS (famsM t) more) = true := decide_eq_true (by omega)
  have f8 : decide (capM (famsM t) lim ≤ capM (famsM t) more) = true := decide_eq_true (by omega)
  refine sf_gen types_ok mixed (l := [(18, V.atS [] (.bool true)), (30, withinS), (25, ask2S t), (20, V.atS [.agg (tstC t)] (.agg (tstC t))), (33, cap33 t), (28, dr28 t)]) ⟨sf18, sf30, sf25b t (by omega), c20 t (by omega), sf33q t hok hp, sf28q t hok hp, trivial⟩ (es := []) trivial (its := []) trivial (fr := []) trivial [] [] false [] [] 4 Try.func13 rfl (by kernel_rfl) fun args h => ?_
  have h : args = _ := h
  subst h
  refine ⟨rfl, ?_⟩
  show evalCode _ _ _ fun o => match o with
    | .normal st | .ret st => withP _ (_ ∧ PLe _ (.bool true))
    | _ => False
  repeat' first
    | refine fun h => absurd (h.symm.trans f4) (by decide)
    | refine fun h => absurd (h.symm.trans f5) (by decide)
    | exact PLe.refl _
    | exact BLe.refl _
    | exact PLeL.nil
    | exact BLeL.nil
    | refine ⟨?_, ?_⟩
    | refine PLeL.cons ?_ ?_
    | refine BLeL.cons ?_ ?_
    | refine ple_int ?_
    | refine ple_bool ?_
    | refine ple_tt ?_
    | refine ple_ff ?_
    | refine PLe.aggL ?_
    | refine PLe.tupL ?_
    | refine BLe.cellsL ?_
    | refine fun h => absurd h (by decide)
    | (refine fun h => ?_; exfalso; simp only [f1, f2, f3, pS, pm, pn, f7, f8, Int.toNat_natCast, Bool.cond_true_left, Bool.cond_false_right, Bool.cond_true_right, Bool.cond_false_left, cond_true, cond_false, Bool.not_true, Bool.not_false, Bool.not_not, Bool.and_true, Bool.true_and, Bool.and_false, Bool.false_and, Bool.or_true, Bool.true_or, Bool.or_false, Bool.false_or, beq_self_eq_true, bne_self_eq_false, Bool.true_eq_false, Bool.false_eq_true, reduceCtorEq, Bool.and_self, Bool.or_self, Int.reduceBEq, Int.reduceBNe, Int.reduceNeg, decide_true, decide_false, Int.reduceLT, Int.reduceLE, Int.reduceGT] at h; done)
    | refine fun (h : @Eq Bool _ _) => ?_
  all_goals first
    | trivial
    | rfl
    | omega
    | exact ⟨rfl, rfl⟩
    | exact ⟨rfl, hl⟩
    | exact ⟨rfl, hq⟩
    | exact hl
    | exact hq
    | exact hl.1
    | exact hl.2
    | exact hq.1
    | exact hq.2
    | exact ⟨rfl, hm2⟩
    | exact hm2
    | exact hm2.1
    | exact hm2.2
    | (simp only [f1, f2, f3, pS, pm, pn, f7, f8, Int.toNat_natCast, Bool.cond_true_left, Bool.cond_false_right, Bool.cond_true_right, Bool.cond_false_left, cond_true, cond_false, Bool.not_true, Bool.not_false, Bool.not_not, Bool.and_true, Bool.true_and, Bool.and_false, Bool.false_and, Bool.or_true, Bool.true_or, Bool.or_false, Bool.false_or, beq_self_eq_true, bne_self_eq_false, Bool.true_eq_false, Bool.false_eq_true, reduceCtorEq, Bool.and_self, Bool.or_self, Int.reduceBEq, Int.reduceBNe, Int.reduceNeg, decide_true, decide_false, Int.reduceLT, Int.reduceLE, Int.reduceGT]; done)
    | (show @Eq Bool _ _; simp only [f1, f2, f3, pS, pm, pn, f7, f8, Int.toNat_natCast, Bool.cond_true_left, Bool.cond_false_right, Bool.cond_true_right, Bool.cond_false_left, cond_true, cond_false, Bool.not_true, Bool.not_false, Bool.not_not, Bool.and_true, Bool.true_and, Bool.and_false, Bool.false_and, Bool.or_true, Bool.true_or, Bool.or_false, Bool.false_or, beq_self_eq_true, bne_self_eq_false, Bool.true_eq_false, Bool.false_eq_true, reduceCtorEq, Bool.and_self, Bool.or_self, Int.reduceBEq, Int.reduceBNe, Int.reduceNeg, decide_true, decide_false, Int.reduceLT, Int.reduceLE, Int.reduceGT]; done)
    | skip
theorem capsA (t : Tst) (lim more fl : Int) (hf : 0 ≤ fl ∧ fl ≤ 65535) : SF Try.prog 13 (V.atS [.agg (tstC t), I lim, I more, .int .u16 fl] (.bool true)) := by
  by_cases hn : t.n ≤ 20
  · cases p2 : (agrE t (decide (-2000000000 ≤ lim ∧ lim ≤ 2000000000)) != 0) with
    | true => exact capsE t lim more fl hf hn p2
    | false =>
      cases pS : decide (capS (famsM t) lim < 1000) <;> cases pm : decide (more < lim) <;> cases pn : decide (2000000000 < more)
      · exact capsF2 t lim more fl hf hn p2 pS pm pn
      · exact capsF1 t lim more fl hf hn p2 pS pm pn
      · exact capsF0 t lim more fl hf hn p2 pS pm
      · exact capsF0 t lim more fl hf hn p2 pS pm
      · exact capsT2 t lim more fl hf hn p2 pS pm pn
      · exact capsT1 t lim more fl hf hn p2 pS pm pn
      · exact capsT0 t lim more fl hf hn p2 pS pm
      · exact capsT0 t lim more fl hf hn p2 pS pm
  · exact capsBig t lim more fl hf (by omega)
end Go.Proofs.Ytnjhbmcambofgaa
