/- Layer 4: the law on what is blamed, and on conflicts. -/
import Derived.Test.YtnjhbmcambofgaaS37
namespace Go.Proofs.Ytnjhbmcambofgaa
open Go.V
set_option linter.unusedSimpArgs false
set_option linter.unusedVariables false

set_option maxRecDepth 20000 in
set_option maxHeartbeats 2000000 in
theorem failsBig (t : Tst) (hn : 20 < t.n) : SF Try.prog 6 (V.atS [.agg (tstC t)] (.bool true)) := by
  have p0 : decide ((20 : Int) < (t.n : Int)) = true := decide_eq_true (by omega)
  refine sf_gen types_ok mixed (l := [(18, V.atS [] (.bool true))]) ⟨sf18, trivial⟩ (es := []) trivial (its := []) trivial (fr := []) trivial [] [] false [] [] 1 Try.func6 rfl (by kernel_rfl) fun args h => ?_
  have h : args = _ := h
  subst h
  refine ⟨rfl, ?_⟩
  show evalCode _ _ _ fun o => match o with
    | .normal st | .ret st => withP _ (_ ∧ PLe _ (.bool true))
    | _ => False
  repeat' first
    | exact PLe.refl _
    | exact BLe.refl _
    | exact PLeL.nil
    | exact BLeL.nil
    | refine ⟨?_, ?_⟩
    | refine PLeL.cons ?_ ?_
    | refine BLeL.cons ?_ ?_
    | refine ple_int ?_
    | refine ple_bool ?_
    | refine ple_tt ?_
    | refine ple_ff ?_
    | refine PLe.aggL ?_
    | refine PLe.tupL ?_
    | refine BLe.cellsL ?_
    | refine fun h => absurd h (by decide)
    | (refine fun h => ?_; exfalso; simp only [p0, Int.toNat_natCast, Bool.cond_true_left, Bool.cond_false_right, Bool.cond_true_right, Bool.cond_false_left, cond_true, cond_false, Bool.not_true, Bool.not_false, Bool.not_not, Bool.and_true, Bool.true_and, Bool.and_false, Bool.false_and, Bool.or_true, Bool.true_or, Bool.or_false, Bool.false_or, beq_self_eq_true, bne_self_eq_false, Bool.true_eq_false, Bool.false_eq_true, reduceCtorEq, Bool.and_self, Bool.or_self, Int.reduceBEq, Int.reduceBNe, Int.reduceNeg, decide_true, decide_false, Int.reduceLT, Int.reduceLE, Int.reduceGT] at h; done)
    | refine fun (h : @Eq Bool _ _) => ?_
  all_goals first
    | trivial
    | rfl
    | omega
    | (simp only [p0, Int.toNat_natCast, Bool.cond_true_left, Bool.cond_false_right, Bool.cond_true_right, Bool.cond_false_left, cond_true, cond_false, Bool.not_true, Bool.not_false, Bool.not_not, Bool.and_true, Bool.true_and, Bool.and_false, Bool.false_and, Bool.or_true, Bool.true_or, Bool.or_false, Bool.false_or, beq_self_eq_true, bne_self_eq_false, Bool.true_eq_false, Bool.false_eq_true, reduceCtorEq, Bool.and_self, Bool.or_self, Int.reduceBEq, Int.reduceBNe, Int.reduceNeg, decide_true, decide_false, Int.reduceLT, Int.reduceLE, Int.reduceGT]; done)
    | (show @Eq Bool _ _; simp only [p0, Int.toNat_natCast, Bool.cond_true_left, Bool.cond_false_right, Bool.cond_true_right, Bool.cond_false_left, cond_true, cond_false, Bool.not_true, Bool.not_false, Bool.not_not, Bool.and_true, Bool.true_and, Bool.and_false, Bool.false_and, Bool.or_true, Bool.true_or, Bool.or_false, Bool.false_or, beq_self_eq_true, bne_self_eq_false, Bool.true_eq_false, Bool.false_eq_true, reduceCtorEq, Bool.and_self, Bool.or_self, Int.reduceBEq, Int.reduceBNe, Int.reduceNeg, decide_true, decide_false, Int.reduceLT, Int.reduceLE, Int.reduceGT]; done)
    | skip
set_option maxRecDepth 20000 in
set_option maxHeartbeats 2000000 in
theorem failsE (t : Tst) (hn : t.n ≤ 20) (p1 : (tfE t != 0) = true) : SF Try.prog 6 (V.atS [.agg (tstC t)] (.bool true)) := by
  have p0 : decide ((20 : Int) < (t.n : Int)) = false := decide_eq_false (by omega)
  have p2 : (tfE t != 7) = true := by
    rcases tfE_or t with h | h | h <;> rw [h] <;> rfl
  have p3 : (tfE t == 0) = false := by simpa using p1
  refine sf_gen types_ok mixed (l := [(18, V.atS [] (.bool true)), (20, V.atS [.agg (tstC t)] (.agg (tstC t))), (35, V.atS [.agg (tstC t)] (.tup [I 0, I (tfE t)])), (36, V.atS [.agg (tstC t)] (.tup [.slice none 0 (fun _ => []), I (tfE t)])), (25, V.atS [.agg (tstC t), .ff, I 0] (I (tfE t)))]) ⟨sf18, c20 t (by omega), (by have := c35 t (by omega); unfold blN blE at this; rw [p1] at this; exact this), consE t (by omega) p1, (by have := c25z t (by omega); unfold agrE at this; rw [p1] at this; exact this), trivial⟩ (es := []) trivial (its := []) trivial (fr := []) trivial [] [] false [] [] 1 Try.func6 rfl (by kernel_rfl) fun args h => ?_
  have h : args = _ := h
  subst h
  refine ⟨rfl, ?_⟩
  show evalCode _ _ _ fun o => match o with
    | .normal st | .ret st => withP _ (_ ∧ PLe _ (.bool true))
    | _ => False
  repeat' first
    | exact PLe.refl _
    | exact BLe.refl _
    | exact PLeL.nil
    | exact BLeL.nil
    | refine ⟨?_, ?_⟩
    | refine PLeL.cons ?_ ?_
    | refine BLeL.cons ?_ ?_
    | refine ple_int ?_
    | refine ple_bool ?_
    | refine ple_tt ?_
    | refine ple_ff ?_
    | refine PLe.aggL ?_
    | refine PLe.tupL ?_
    | refine BLe.cellsL ?_
    | refine fun h => absurd h (by decide)
    | (refine fun h => ?_; exfalso; simp only [p0, p1, p2, p3, Int.toNat_natCast, Bool.cond_true_left, Bool.cond_false_right, Bool.cond_true_right, Bool.cond_false_left, cond_true, cond_false, Bool.not_true, Bool.not_false, Bool.not_not, Bool.and_true, Bool.true_and, Bool.and_false, Bool.false_and, Bool.or_true, Bool.true_or, Bool.or_false, Bool.false_or, beq_self_eq_true, bne_self_eq_false, Bool.true_eq_false, Bool.false_eq_true, reduceCtorEq, Bool.and_self, Bool.or_self, Int.reduceBEq, Int.reduceBNe, Int.reduceNeg, decide_true, decide_false, Int.reduceLT, Int.reduceLE, Int.reduceGT] at h; done)
    | refine fun (h : @Eq Bool _ _) => ?_
  all_goals first
    | trivial
    | rfl
    | omega
    | (simp only [p0, p1, p2, p3, Int.toNat_natCast, Bool.cond_true_left, Bool.cond_false_right, Bool.cond_true_right, Bool.cond_false_left, cond_true, cond_false, Bool.not_true, Bool.not_false, Bool.not_not, Bool.and_true, Bool.true_and, Bool.and_false, Bool.false_and, Bool.or_true, Bool.true_or, Bool.or_false, Bool.false_or, beq_self_eq_true, bne_self_eq_false, Bool.true_eq_false, Bool.false_eq_true, reduceCtorEq, Bool.and_self, Bool.or_self, Int.reduceBEq, Int.reduceBNe, Int.reduceNeg, decide_true, decide_false, Int.reduceLT, Int.reduceLE, Int.reduceGT]; done)
    | (show @Eq Bool _ _; simp only [p0, p1, p2, p3, Int.toNat_natCast, Bool.cond_true_left, Bool.cond_false_right, Bool.cond_true_right, Bool.cond_false_left, cond_true, cond_false, Bool.not_true, Bool.not_false, Bool.not_not, Bool.and_true, Bool.true_and, Bool.and_false, Bool.false_and, Bool.or_true, Bool.true_or, Bool.or_false, Bool.false_or, beq_self_eq_true, bne_self_eq_false, Bool.true_eq_false, Bool.false_eq_true, reduceCtorEq, Bool.and_self, Bool.or_self, Int.reduceBEq, Int.reduceBNe, Int.reduceNeg, decide_true, decide_false, Int.reduceLT, Int.reduceLE, Int.reduceGT]; done)
    | skip
set_option maxRecDepth 20000 in
set_option maxHeartbeats 2000000 in
theorem failsZ (t : Tst) (hn : t.n ≤ 20) (hok : okT t) (hp : 0 < (famsM t).length) : SF Try.prog 6 (V.atS [.agg (tstC t)] (.bool true)) := by
  have p0 : decide ((20 : Int) < (t.n : Int)) = false := decide_eq_false (by omega)
  have hA : allH t = false := by
    cases hb : allH t with
    | false => rfl
    | true => rw [(allH_iff hok).1 hb] at hp; cases hp
  have hE : agrE t true = 0 := by
    unfold agrE
    rw [tfE_okT hok]
    have : (((famsM t).length : Int) == 0) = false := by rw [beq_eq_false_iff_ne]; omega
    simp [this]
  refine sf_gen types_ok mixed (l := [(18, V.atS [] (.bool true)), (20, V.atS [.agg (tstC t)] (.agg (tstC t))), (35, V.atS [.agg (tstC t)] (.tup [I 0, I 7])), (36, V.atS [.agg (tstC t)] (.tup [.slice none 0 (fun _ => []), I 7])), (25, V.atS [.agg (tstC t), .ff, I 0] (I 0))]) ⟨sf18, c20 t (by omega), (by have := c35 t (by omega); unfold blN blE at this; rw [tfE_okT hok, bl_none hok hp] at this; exact this), consF t hok hA, (by have := c25z t (by omega); rw [hE] at this; exact this), trivial⟩ (es := []) trivial (its := []) trivial (fr := []) trivial [] [] false [] [] 1 Try.func6 rfl (by kernel_rfl) fun args h => ?_
  have h : args = _ := h
  subst h
  refine ⟨rfl, ?_⟩
  show evalCode _ _ _ fun o => match o with
    | .normal st | .ret st => withP _ (_ ∧ PLe _ (.bool true))
    | _ => False
  repeat' first
    | exact PLe.refl _
    | exact BLe.refl _
    | exact PLeL.nil
    | exact BLeL.nil
    | refine ⟨?_, ?_⟩
    | refine PLeL.cons ?_ ?_
    | refine BLeL.cons ?_ ?_
    | refine ple_int ?_
    | refine ple_bool ?_
    | refine ple_tt ?_
    | refine ple_ff ?_
    | refine PLe.aggL ?_
    | refine PLe.tupL ?_
    | refine BLe.cellsL ?_
    | refine fun h => absurd h (by decide)
    | (refine fun h => ?_; exfalso; simp only [p0, Int.toNat_natCast, Bool.cond_true_left, Bool.cond_false_right, Bool.cond_true_right, Bool.cond_false_left, cond_true, cond_false, Bool.not_true, Bool.not_false, Bool.not_not, Bool.and_true, Bool.true_and, Bool.and_false, Bool.false_and, Bool.or_true, Bool.true_or, Bool.or_false, Bool.false_or, beq_self_eq_true, bne_self_eq_false, Bool.true_eq_false, Bool.false_eq_true, reduceCtorEq, Bool.and_self, Bool.or_self, Int.reduceBEq, Int.reduceBNe, Int.reduceNeg, decide_true, decide_false, Int.reduceLT, Int.reduceLE, Int.reduceGT] at h; done)
    | refine fun (h : @Eq Bool _ _) => ?_
  all_goals first
    | trivial
    | rfl
    | omega
    | (simp only [p0, Int.toNat_natCast, Bool.cond_true_left, Bool.cond_false_right, Bool.cond_true_right, Bool.cond_false_left, cond_true, cond_false, Bool.not_true, Bool.not_false, Bool.not_not, Bool.and_true, Bool.true_and, Bool.and_false, Bool.false_and, Bool.or_true, Bool.true_or, Bool.or_false, Bool.false_or, beq_self_eq_true, bne_self_eq_false, Bool.true_eq_false, Bool.false_eq_true, reduceCtorEq, Bool.and_self, Bool.or_self, Int.reduceBEq, Int.reduceBNe, Int.reduceNeg, decide_true, decide_false, Int.reduceLT, Int.reduceLE, Int.reduceGT]; done)
    | (show @Eq Bool _ _; simp only [p0, Int.toNat_natCast, Bool.cond_true_left, Bool.cond_false_right, Bool.cond_true_right, Bool.cond_false_left, cond_true, cond_false, Bool.not_true, Bool.not_false, Bool.not_not, Bool.and_true, Bool.true_and, Bool.and_false, Bool.false_and, Bool.or_true, Bool.true_or, Bool.or_false, Bool.false_or, beq_self_eq_true, bne_self_eq_false, Bool.true_eq_false, Bool.false_eq_true, reduceCtorEq, Bool.and_self, Bool.or_self, Int.reduceBEq, Int.reduceBNe, Int.reduceNeg, decide_true, decide_false, Int.reduceLT, Int.reduceLE, Int.reduceGT]; done)
    | skip
set_option maxRecDepth 20000 in
set_option maxHeartbeats 2000000 in
theorem failsN (t : Tst) (hn : t.n ≤ 20) (hok : okT t) (hF : famsM t = []) : SF Try.prog 6 (V.atS [.agg (tstC t)] (.bool true)) := by
  have p0 : decide ((20 : Int) < (t.n : Int)) = false := decide_eq_false (by omega)
  have hE : agrE t true = 7 := by
    unfold agrE
    rw [tfE_okT hok, hF]
    rfl
  have hall : (allP t t.nb).length ≤ 1600 := by
    have hb := hok.b
    have hc := hok.c
    have hnb : t.nb ≤ 40 := by unfold Tst.nb; omega
    have hnc : t.nc ≤ 40 := by unfold Tst.nc; omega
    rw [allP_len]
    exact Nat.le_trans (Nat.mul_le_mul hnb hnc) (by omega)
  refine sf_gen types_ok mixed (l := [(18, V.atS [] (.bool true)), (20, V.atS [.agg (tstC t)] (.agg (tstC t))), (35, V.atS [.agg (tstC t)] (.tup [I (blM t), I 0])), (36, V.atS [.agg (tstC t)] (.tup [.slice none (allP t t.nb).length (getP (allP t t.nb)), I 0])), (37, V.atS [.agg (tstC t)] (.slice none (allP t t.nb).length (getP (allP t t.nb)))), (38, V.atS [.agg (tstC t)] (I (blM t))), (25, V.atS [.agg (tstC t), .ff, I 0] (I 7))]) ⟨sf18, c20 t (by omega), (by have := c35 t (by omega); unfold blN blE at this; rw [tfE_okT hok, bl_some hok hF] at this; exact this), consT t hok ((allH_iff hok).2 hF), c37 t hok, (by have := c38 t hok; rw [bl_rb hok] at this; exact this), (by have := c25z t (by omega); rw [hE] at this; exact this), trivial⟩ (es := []) trivial (its := []) trivial (fr := []) trivial [] [] false [] [] 1 Try.func6 rfl (by kernel_rfl) fun args h => ?_
  have h : args = _ := h
  subst h
  refine ⟨rfl, ?_⟩
  show evalCode _ _ _ fun o => match o with
    | .normal st | .ret st => withP _ (_ ∧ PLe _ (.bool true))
    | _ => False
  repeat' first
    | exact PLe.refl _
    | exact BLe.refl _
    | exact PLeL.nil
    | exact BLeL.nil
    | refine ⟨?_, ?_⟩
    | refine PLeL.cons ?_ ?_
    | refine BLeL.cons ?_ ?_
    | refine ple_int ?_
    | refine ple_bool ?_
    | refine ple_tt ?_
    | refine ple_ff ?_
    | refine PLe.aggL ?_
    | refine PLe.tupL ?_
    | refine BLe.cellsL ?_
    | refine halt_rng (cnt 9) (allP t t.nb).length [5, 8, 9] [] (fun k => [.slice none (allP t t.nb).length (getP (allP t t.nb)), .slice none (allP t t.nb).length (getP (allP t t.nb)), I (k : Nat)]) (fun k => []) (fun _ => True) rfl (.mk ?_ ?_) trivial ?_
    | refine fun h => absurd h (by decide)
    | (refine fun h => ?_; exfalso; simp only [p0, Int.toNat_natCast, Bool.cond_true_left, Bool.cond_false_right, Bool.cond_true_right, Bool.cond_false_left, cond_true, cond_false, Bool.not_true, Bool.not_false, Bool.not_not, Bool.and_true, Bool.true_and, Bool.and_false, Bool.false_and, Bool.or_true, Bool.true_or, Bool.or_false, Bool.false_or, beq_self_eq_true, bne_self_eq_false, Bool.true_eq_false, Bool.false_eq_true, reduceCtorEq, Bool.and_self, Bool.or_self, Int.reduceBEq, Int.reduceBNe, Int.reduceNeg, decide_true, decide_false, Int.reduceLT, Int.reduceLE, Int.reduceGT] at h; done)
    | refine fun (h : @Eq Bool _ _) => ?_
  all_goals first
    | trivial
    | rfl
    | omega
    | (simp only [p0, Int.toNat_natCast, Bool.cond_true_left, Bool.cond_false_right, Bool.cond_true_right, Bool.cond_false_left, cond_true, cond_false, Bool.not_true, Bool.not_false, Bool.not_not, Bool.and_true, Bool.true_and, Bool.and_false, Bool.false_and, Bool.or_true, Bool.true_or, Bool.or_false, Bool.false_or, beq_self_eq_true, bne_self_eq_false, Bool.true_eq_false, Bool.false_eq_true, reduceCtorEq, Bool.and_self, Bool.or_self, Int.reduceBEq, Int.reduceBNe, Int.reduceNeg, decide_true, decide_false, Int.reduceLT, Int.reduceLE, Int.reduceGT]; done)
    | (show @Eq Bool _ _; simp only [p0, Int.toNat_natCast, Bool.cond_true_left, Bool.cond_false_right, Bool.cond_true_right, Bool.cond_false_left, cond_true, cond_false, Bool.not_true, Bool.not_false, Bool.not_not, Bool.and_true, Bool.true_and, Bool.and_false, Bool.false_and, Bool.or_true, Bool.true_or, Bool.or_false, Bool.false_or, beq_self_eq_true, bne_self_eq_false, Bool.true_eq_false, Bool.false_eq_true, reduceCtorEq, Bool.and_self, Bool.or_self, Int.reduceBEq, Int.reduceBNe, Int.reduceNeg, decide_true, decide_false, Int.reduceLT, Int.reduceLE, Int.reduceGT]; done)
    | skip
  intro k hk _
  refine ⟨fun h1 => ?_, fun h1 => ?_⟩
  · have hlt : k < (allP t t.nb).length := by
      have : (k : Int) < ((allP t t.nb).length : Int) := of_decide_eq_true h1
      omega
    have e1 := succ_w hlt (by omega)
    clear h1
    repeat' first
      | exact PLe.refl _
      | exact BLe.refl _
      | exact PLeL.nil
      | exact BLeL.nil
      | refine ⟨?_, ?_⟩
      | refine PLeL.cons ?_ ?_
      | refine BLeL.cons ?_ ?_
      | refine ple_int ?_
      | refine ple_bool ?_
      | refine ple_tt ?_
      | refine ple_ff ?_
      | refine PLe.aggL ?_
      | refine PLe.tupL ?_
      | refine BLe.cellsL ?_
      | refine next_rng (cn := cnt 9) rfl (fun _ => rfl) hlt trivial (.mk ?_ ?_)
      | refine fun h => absurd h (by decide)
      | (refine fun h => ?_; exfalso; simp only [p0, Int.toNat_natCast, Bool.cond_true_left, Bool.cond_false_right, Bool.cond_true_right, Bool.cond_false_left, cond_true, cond_false, Bool.not_true, Bool.not_false, Bool.not_not, Bool.and_true, Bool.true_and, Bool.and_false, Bool.false_and, Bool.or_true, Bool.true_or, Bool.or_false, Bool.false_or, beq_self_eq_true, bne_self_eq_false, Bool.true_eq_false, Bool.false_eq_true, reduceCtorEq, Bool.and_self, Bool.or_self, Int.reduceBEq, Int.reduceBNe, Int.reduceNeg, decide_true, decide_false, Int.reduceLT, Int.reduceLE, Int.reduceGT] at h; done)
      | refine fun (h : @Eq Bool _ _) => ?_
    all_goals first
      | trivial
      | rfl
      | omega
      | exact e1
      | (show (0 : Int) ≤ (k : Int); omega)
      | (show (k : Int) < ((allP t t.nb).length : Int); omega)
      | (simp only [p0, Int.toNat_natCast, Bool.cond_true_left, Bool.cond_false_right, Bool.cond_true_right, Bool.cond_false_left, cond_true, cond_false, Bool.not_true, Bool.not_false, Bool.not_not, Bool.and_true, Bool.true_and, Bool.and_false, Bool.false_and, Bool.or_true, Bool.true_or, Bool.or_false, Bool.false_or, beq_self_eq_true, bne_self_eq_false, Bool.true_eq_false, Bool.false_eq_true, reduceCtorEq, Bool.and_self, Bool.or_self, Int.reduceBEq, Int.reduceBNe, Int.reduceNeg, decide_true, decide_false, Int.reduceLT, Int.reduceLE, Int.reduceGT]; done)
      | (show @Eq Bool _ _; simp only [p0, Int.toNat_natCast, Bool.cond_true_left, Bool.cond_false_right, Bool.cond_true_right, Bool.cond_false_left, cond_true, cond_false, Bool.not_true, Bool.not_false, Bool.not_not, Bool.and_true, Bool.true_and, Bool.and_false, Bool.false_and, Bool.or_true, Bool.true_or, Bool.or_false, Bool.false_or, beq_self_eq_true, bne_self_eq_false, Bool.true_eq_false, Bool.false_eq_true, reduceCtorEq, Bool.and_self, Bool.or_self, Int.reduceBEq, Int.reduceBNe, Int.reduceNeg, decide_true, decide_false, Int.reduceLT, Int.reduceLE, Int.reduceGT]; done)
      | skip
  · have hkm : k = (allP t t.nb).length := by
      have : ¬ ((k : Int) < ((allP t t.nb).length : Int)) := of_decide_eq_false h1
      omega
    subst hkm
    clear h1
    repeat' first
      | exact PLe.refl _
      | exact BLe.refl _
      | exact PLeL.nil
      | exact BLeL.nil
      | refine ⟨?_, ?_⟩
      | refine PLeL.cons ?_ ?_
      | refine BLeL.cons ?_ ?_
      | refine ple_int ?_
      | refine ple_bool ?_
      | refine ple_tt ?_
      | refine ple_ff ?_
      | refine PLe.aggL ?_
      | refine PLe.tupL ?_
      | refine BLe.cellsL ?_
      | refine fun h => absurd h (by decide)
      | (refine fun h => ?_; exfalso; simp only [p0, Int.toNat_natCast, Bool.cond_true_left, Bool.cond_false_right, Bool.cond_true_right, Bool.cond_false_left, cond_true, cond_false, Bool.not_true, Bool.not_false, Bool.not_not, Bool.and_true, Bool.true_and, Bool.and_false, Bool.false_and, Bool.or_true, Bool.true_or, Bool.or_false, Bool.false_or, beq_self_eq_true, bne_self_eq_false, Bool.true_eq_false, Bool.false_eq_true, reduceCtorEq, Bool.and_self, Bool.or_self, Int.reduceBEq, Int.reduceBNe, Int.reduceNeg, decide_true, decide_false, Int.reduceLT, Int.reduceLE, Int.reduceGT] at h; done)
      | refine fun (h : @Eq Bool _ _) => ?_
    all_goals first
      | trivial
      | rfl
      | omega
      | (simp only [p0, Int.toNat_natCast, Bool.cond_true_left, Bool.cond_false_right, Bool.cond_true_right, Bool.cond_false_left, cond_true, cond_false, Bool.not_true, Bool.not_false, Bool.not_not, Bool.and_true, Bool.true_and, Bool.and_false, Bool.false_and, Bool.or_true, Bool.true_or, Bool.or_false, Bool.false_or, beq_self_eq_true, bne_self_eq_false, Bool.true_eq_false, Bool.false_eq_true, reduceCtorEq, Bool.and_self, Bool.or_self, Int.reduceBEq, Int.reduceBNe, Int.reduceNeg, decide_true, decide_false, Int.reduceLT, Int.reduceLE, Int.reduceGT]; done)
      | (show @Eq Bool _ _; simp only [p0, Int.toNat_natCast, Bool.cond_true_left, Bool.cond_false_right, Bool.cond_true_right, Bool.cond_false_left, cond_true, cond_false, Bool.not_true, Bool.not_false, Bool.not_not, Bool.and_true, Bool.true_and, Bool.and_false, Bool.false_and, Bool.or_true, Bool.true_or, Bool.or_false, Bool.false_or, beq_self_eq_true, bne_self_eq_false, Bool.true_eq_false, Bool.false_eq_true, reduceCtorEq, Bool.and_self, Bool.or_self, Int.reduceBEq, Int.reduceBNe, Int.reduceNeg, decide_true, decide_false, Int.reduceLT, Int.reduceLE, Int.reduceGT]; done)
      | skip
theorem failsA (t : Tst) : SF Try.prog 6 (V.atS [.agg (tstC t)] (.bool true)) := by
  by_cases hn : t.n ≤ 20
  · cases p1 : (tfE t != 0) with
    | true => exact failsE t hn p1
    | false =>
      have hok : okT t := tfE_ok (by simpa using p1)
      by_cases hF : famsM t = []
      · exact failsN t hn hok hF
      · exact failsZ t hn hok (List.length_pos_iff.2 hF)
  · exact failsBig t (by omega)
end Go.Proofs.Ytnjhbmcambofgaa
