/- Layer 4: the law on either a curve or a proof. -/
import Derived.Test.YtnjhbmcambofgaaS39
namespace Go.Proofs.Ytnjhbmcambofgaa
open Go.V
set_option linter.unusedSimpArgs false
set_option linter.unusedVariables false

set_option maxRecDepth 20000 in
set_option maxHeartbeats 2000000 in
theorem eitherBig1 (t : Tst) (m : Nat) (p : Nat → Int × Int) (A B C : Int) (hn : 20 < t.n) : SF Try.prog 14 (V.atS [.agg (tstC t), .slice none m fun i => pairL (p i), .agg [I A, I B, I C]] (.bool true)) := by
  have p0 : decide ((20 : Int) < (t.n : Int)) = true := decide_eq_true (by omega)
  refine sf_gen types_ok mixed (l := [(18, V.atS [] (.bool true))]) ⟨sf18, trivial⟩ (es := []) trivial (its := []) trivial (fr := []) trivial [] [] false [] [] 3 Try.func14 rfl (by kernel_rfl) fun args h => ?_
  have h : args = _ := h
  subst h
  refine ⟨rfl, ?_⟩
  show evalCode _ _ _ fun o => match o with
    | .normal st | .ret st => withP _ (_ ∧ PLe _ (.bool true))
    | _ => False
  repeat' first | (exact PLe.refl _) | (exact BLe.refl _) | (exact PLeL.nil) | (exact BLeL.nil) | (refine ⟨?_, ?_⟩) | (refine PLeL.cons ?_ ?_) | (refine BLeL.cons ?_ ?_) | (refine ple_int ?_) | (refine ple_bool ?_) | (refine ple_tt ?_) | (refine ple_ff ?_) | (refine PLe.aggL ?_) | (refine PLe.tupL ?_) | (refine BLe.cellsL ?_) | (refine fun h => absurd h (by decide)) | (refine fun h => ?_; exfalso; simp only [p0, Int.toNat_natCast, Bool.cond_true_left, Bool.cond_false_right, Bool.cond_true_right, Bool.cond_false_left, cond_true, cond_false, Bool.not_true, Bool.not_false, Bool.not_not, Bool.and_true, Bool.true_and, Bool.and_false, Bool.false_and, Bool.or_true, Bool.true_or, Bool.or_false, Bool.false_or, beq_self_eq_true, bne_self_eq_false, Bool.true_eq_false, Bool.false_eq_true, reduceCtorEq, Bool.and_self, Bool.or_self, Int.reduceBEq, Int.reduceBNe, Int.reduceNeg, decide_true, decide_false, Int.reduceLT, Int.reduceLE, Int.reduceGT] at h; done) | (refine fun (h : @Eq Bool _ _) => ?_)
  all_goals first | trivial | rfl | omega | (simp only [p0, Int.toNat_natCast, Bool.cond_true_left, Bool.cond_false_right, Bool.cond_true_right, Bool.cond_false_left, cond_true, cond_false, Bool.not_true, Bool.not_false, Bool.not_not, Bool.and_true, Bool.true_and, Bool.and_false, Bool.false_and, Bool.or_true, Bool.true_or, Bool.or_false, Bool.false_or, beq_self_eq_true, bne_self_eq_false, Bool.true_eq_false, Bool.false_eq_true, reduceCtorEq, Bool.and_self, Bool.or_self, Int.reduceBEq, Int.reduceBNe, Int.reduceNeg, decide_true, decide_false, Int.reduceLT, Int.reduceLE, Int.reduceGT]; done) | (show @Eq Bool _ _; simp only [p0, Int.toNat_natCast, Bool.cond_true_left, Bool.cond_false_right, Bool.cond_true_right, Bool.cond_false_left, cond_true, cond_false, Bool.not_true, Bool.not_false, Bool.not_not, Bool.and_true, Bool.true_and, Bool.and_false, Bool.false_and, Bool.or_true, Bool.true_or, Bool.or_false, Bool.false_or, beq_self_eq_true, bne_self_eq_false, Bool.true_eq_false, Bool.false_eq_true, reduceCtorEq, Bool.and_self, Bool.or_self, Int.reduceBEq, Int.reduceBNe, Int.reduceNeg, decide_true, decide_false, Int.reduceLT, Int.reduceLE, Int.reduceGT]; done) | skip
set_option maxRecDepth 20000 in
set_option maxHeartbeats 2000000 in
theorem eitherBig2 (t : Tst) (m : Nat) (p : Nat → Int × Int) (A B C : Int) (hn : t.n ≤ 20) (hm : 1700 < m) : SF Try.prog 14 (V.atS [.agg (tstC t), .slice none m fun i => pairL (p i), .agg [I A, I B, I C]] (.bool true)) := by
  have p0 : decide ((20 : Int) < (t.n : Int)) = false := decide_eq_false (by omega)
  have p00 : decide ((1700 : Int) < (m : Int)) = true := decide_eq_true (by omega)
  refine sf_gen types_ok mixed (l := [(18, V.atS [] (.bool true))]) ⟨sf18, trivial⟩ (es := []) trivial (its := []) trivial (fr := []) trivial [] [] false [] [] 3 Try.func14 rfl (by kernel_rfl) fun args h => ?_
  have h : args = _ := h
  subst h
  refine ⟨rfl, ?_⟩
  show evalCode _ _ _ fun o => match o with
    | .normal st | .ret st => withP _ (_ ∧ PLe _ (.bool true))
    | _ => False
  repeat' first | (exact PLe.refl _) | (exact BLe.refl _) | (exact PLeL.nil) | (exact BLeL.nil) | (refine ⟨?_, ?_⟩) | (refine PLeL.cons ?_ ?_) | (refine BLeL.cons ?_ ?_) | (refine ple_int ?_) | (refine ple_bool ?_) | (refine ple_tt ?_) | (refine ple_ff ?_) | (refine PLe.aggL ?_) | (refine PLe.tupL ?_) | (refine BLe.cellsL ?_) | (refine fun h => absurd h (by decide)) | (refine fun h => ?_; exfalso; simp only [p0, p00, Int.toNat_natCast, Bool.cond_true_left, Bool.cond_false_right, Bool.cond_true_right, Bool.cond_false_left, cond_true, cond_false, Bool.not_true, Bool.not_false, Bool.not_not, Bool.and_true, Bool.true_and, Bool.and_false, Bool.false_and, Bool.or_true, Bool.true_or, Bool.or_false, Bool.false_or, beq_self_eq_true, bne_self_eq_false, Bool.true_eq_false, Bool.false_eq_true, reduceCtorEq, Bool.and_self, Bool.or_self, Int.reduceBEq, Int.reduceBNe, Int.reduceNeg, decide_true, decide_false, Int.reduceLT, Int.reduceLE, Int.reduceGT] at h; done) | (refine fun (h : @Eq Bool _ _) => ?_)
  all_goals first | trivial | rfl | omega | (simp only [p0, p00, Int.toNat_natCast, Bool.cond_true_left, Bool.cond_false_right, Bool.cond_true_right, Bool.cond_false_left, cond_true, cond_false, Bool.not_true, Bool.not_false, Bool.not_not, Bool.and_true, Bool.true_and, Bool.and_false, Bool.false_and, Bool.or_true, Bool.true_or, Bool.or_false, Bool.false_or, beq_self_eq_true, bne_self_eq_false, Bool.true_eq_false, Bool.false_eq_true, reduceCtorEq, Bool.and_self, Bool.or_self, Int.reduceBEq, Int.reduceBNe, Int.reduceNeg, decide_true, decide_false, Int.reduceLT, Int.reduceLE, Int.reduceGT]; done) | (show @Eq Bool _ _; simp only [p0, p00, Int.toNat_natCast, Bool.cond_true_left, Bool.cond_false_right, Bool.cond_true_right, Bool.cond_false_left, cond_true, cond_false, Bool.not_true, Bool.not_false, Bool.not_not, Bool.and_true, Bool.true_and, Bool.and_false, Bool.false_and, Bool.or_true, Bool.true_or, Bool.or_false, Bool.false_or, beq_self_eq_true, bne_self_eq_false, Bool.true_eq_false, Bool.false_eq_true, reduceCtorEq, Bool.and_self, Bool.or_self, Int.reduceBEq, Int.reduceBNe, Int.reduceNeg, decide_true, decide_false, Int.reduceLT, Int.reduceLE, Int.reduceGT]; done) | skip
set_option maxRecDepth 20000 in
set_option maxHeartbeats 2000000 in
theorem eitherE (t : Tst) (m : Nat) (p : Nat → Int × Int) (A B C : Int) (hn : t.n ≤ 20) (hm : m ≤ 1700) (p1 : (tfE t != 0) = true) : SF Try.prog 14 (V.atS [.agg (tstC t), .slice none m fun i => pairL (p i), .agg [I A, I B, I C]] (.bool true)) := by
  have p0 : decide ((20 : Int) < (t.n : Int)) = false := decide_eq_false (by omega)
  have p00 : decide ((1700 : Int) < (m : Int)) = false := decide_eq_false (by omega)
  refine sf_gen types_ok mixed (l := [(18, V.atS [] (.bool true)), (21, V.atS [.agg (tstC t)] (I (tfE t)))]) ⟨sf18, c21 t (by omega), trivial⟩ (es := []) trivial (its := []) trivial (fr := []) trivial [] [] false [] [] 3 Try.func14 rfl (by kernel_rfl) fun args h => ?_
  have h : args = _ := h
  subst h
  refine ⟨rfl, ?_⟩
  show evalCode _ _ _ fun o => match o with
    | .normal st | .ret st => withP _ (_ ∧ PLe _ (.bool true))
    | _ => False
  repeat' first | (exact PLe.refl _) | (exact BLe.refl _) | (exact PLeL.nil) | (exact BLeL.nil) | (refine ⟨?_, ?_⟩) | (refine PLeL.cons ?_ ?_) | (refine BLeL.cons ?_ ?_) | (refine ple_int ?_) | (refine ple_bool ?_) | (refine ple_tt ?_) | (refine ple_ff ?_) | (refine PLe.aggL ?_) | (refine PLe.tupL ?_) | (refine BLe.cellsL ?_) | (refine fun h => absurd h (by decide)) | (refine fun h => ?_; exfalso; simp only [p0, p00, p1, Int.toNat_natCast, Bool.cond_true_left, Bool.cond_false_right, Bool.cond_true_right, Bool.cond_false_left, cond_true, cond_false, Bool.not_true, Bool.not_false, Bool.not_not, Bool.and_true, Bool.true_and, Bool.and_false, Bool.false_and, Bool.or_true, Bool.true_or, Bool.or_false, Bool.false_or, beq_self_eq_true, bne_self_eq_false, Bool.true_eq_false, Bool.false_eq_true, reduceCtorEq, Bool.and_self, Bool.or_self, Int.reduceBEq, Int.reduceBNe, Int.reduceNeg, decide_true, decide_false, Int.reduceLT, Int.reduceLE, Int.reduceGT] at h; done) | (refine fun (h : @Eq Bool _ _) => ?_)
  all_goals first | trivial | rfl | omega | (simp only [p0, p00, p1, Int.toNat_natCast, Bool.cond_true_left, Bool.cond_false_right, Bool.cond_true_right, Bool.cond_false_left, cond_true, cond_false, Bool.not_true, Bool.not_false, Bool.not_not, Bool.and_true, Bool.true_and, Bool.and_false, Bool.false_and, Bool.or_true, Bool.true_or, Bool.or_false, Bool.false_or, beq_self_eq_true, bne_self_eq_false, Bool.true_eq_false, Bool.false_eq_true, reduceCtorEq, Bool.and_self, Bool.or_self, Int.reduceBEq, Int.reduceBNe, Int.reduceNeg, decide_true, decide_false, Int.reduceLT, Int.reduceLE, Int.reduceGT]; done) | (show @Eq Bool _ _; simp only [p0, p00, p1, Int.toNat_natCast, Bool.cond_true_left, Bool.cond_false_right, Bool.cond_true_right, Bool.cond_false_left, cond_true, cond_false, Bool.not_true, Bool.not_false, Bool.not_not, Bool.and_true, Bool.true_and, Bool.and_false, Bool.false_and, Bool.or_true, Bool.true_or, Bool.or_false, Bool.false_or, beq_self_eq_true, bne_self_eq_false, Bool.true_eq_false, Bool.false_eq_true, reduceCtorEq, Bool.and_self, Bool.or_self, Int.reduceBEq, Int.reduceBNe, Int.reduceNeg, decide_true, decide_false, Int.reduceLT, Int.reduceLE, Int.reduceGT]; done) | skip
set_option maxRecDepth 20000 in
set_option maxHeartbeats 2000000 in
theorem eitherZ (t : Tst) (m : Nat) (p : Nat → Int × Int) (A B C : Int) (hn : t.n ≤ 20) (hm : m ≤ 1700) (hok : okT t) (hp : 0 < (famsM t).length) : SF Try.prog 14 (V.atS [.agg (tstC t), .slice none m fun i => pairL (p i), .agg [I A, I B, I C]] (.bool true)) := by
  have p0 : decide ((20 : Int) < (t.n : Int)) = false := decide_eq_false (by omega)
  have p00 : decide ((1700 : Int) < (m : Int)) = false := decide_eq_false (by omega)
  have hA : allH t = false := by
    cases hb : allH t with
    | false => rfl
    | true => rw [(allH_iff hok).1 hb] at hp; cases hp
  have hE : agrE t true = 0 := by
    unfold agrE
    rw [tfE_okT hok]
    have : (((famsM t).length : Int) == 0) = false := by rw [beq_eq_false_iff_ne]; omega
    simp [this]
  refine sf_gen types_ok mixed (l := [(18, V.atS [] (.bool true)), (20, V.atS [.agg (tstC t)] (.agg (tstC t))), (21, V.atS [.agg (tstC t)] (I 0)), (24, V.atS [.agg (tstC t)] (.tup [I (manyL (famsM t)), encR (encL restsF (famsM t)), encR (encL bF (famsM t)), encR (encL cF (famsM t)), I 0])), (36, V.atS [.agg (tstC t)] (.tup [.slice none 0 (fun _ => []), I 7])), (35, V.atS [.agg (tstC t)] (.tup [I 0, I 7])), (39, pairsS t p m (.bool false))]) ⟨sf18, c20 t (by omega), (by have := c21 t (by omega); rw [tfE_okT hok] at this; exact this), (by have := c24 t (by omega); unfold curV agrLst at this; rw [hE] at this; exact this), consF t hok hA, (by have := c35 t (by omega); unfold blN blE at this; rw [tfE_okT hok, bl_none hok hp] at this; exact this), sf_pairs (by have := c39 t (by omega) m p (by omega); rw [prv_none hok hp] at this; exact this), trivial⟩ (es := []) trivial (its := []) trivial (fr := []) trivial [] [] false [] [] 3 Try.func14 rfl (by kernel_rfl) fun args h => ?_
  have h : args = _ := h
  subst h
  refine ⟨rfl, ?_⟩
  show evalCode _ _ _ fun o => match o with
    | .normal st | .ret st => withP _ (_ ∧ PLe _ (.bool true))
    | _ => False
  repeat' first | (exact PLe.refl _) | (exact BLe.refl _) | (exact PLeL.nil) | (exact BLeL.nil) | (refine ⟨?_, ?_⟩) | (refine PLeL.cons ?_ ?_) | (refine BLeL.cons ?_ ?_) | (refine ple_int ?_) | (refine ple_bool ?_) | (refine ple_tt ?_) | (refine ple_ff ?_) | (refine PLe.aggL ?_) | (refine PLe.tupL ?_) | (refine BLe.cellsL ?_) | (refine fun h => absurd h (by decide)) | (refine fun h => ?_; exfalso; simp only [p0, p00, Int.toNat_natCast, Bool.cond_true_left, Bool.cond_false_right, Bool.cond_true_right, Bool.cond_false_left, cond_true, cond_false, Bool.not_true, Bool.not_false, Bool.not_not, Bool.and_true, Bool.true_and, Bool.and_false, Bool.false_and, Bool.or_true, Bool.true_or, Bool.or_false, Bool.false_or, beq_self_eq_true, bne_self_eq_false, Bool.true_eq_false, Bool.false_eq_true, reduceCtorEq, Bool.and_self, Bool.or_self, Int.reduceBEq, Int.reduceBNe, Int.reduceNeg, decide_true, decide_false, Int.reduceLT, Int.reduceLE, Int.reduceGT] at h; done) | (refine fun (h : @Eq Bool _ _) => ?_)
  all_goals first | trivial | rfl | omega | (show (0 + m) * 16 ≤ 140737488355328; omega) | (exact Nat.zero_add m) | (intro i hi; exact absurd hi (by omega)) | (intro i hi; exact ⟨rfl, rfl⟩) | (intro i hi; rfl) | (simp only [p0, p00, Int.toNat_natCast, Bool.cond_true_left, Bool.cond_false_right, Bool.cond_true_right, Bool.cond_false_left, cond_true, cond_false, Bool.not_true, Bool.not_false, Bool.not_not, Bool.and_true, Bool.true_and, Bool.and_false, Bool.false_and, Bool.or_true, Bool.true_or, Bool.or_false, Bool.false_or, beq_self_eq_true, bne_self_eq_false, Bool.true_eq_false, Bool.false_eq_true, reduceCtorEq, Bool.and_self, Bool.or_self, Int.reduceBEq, Int.reduceBNe, Int.reduceNeg, decide_true, decide_false, Int.reduceLT, Int.reduceLE, Int.reduceGT]; done) | (show @Eq Bool _ _; simp only [p0, p00, Int.toNat_natCast, Bool.cond_true_left, Bool.cond_false_right, Bool.cond_true_right, Bool.cond_false_left, cond_true, cond_false, Bool.not_true, Bool.not_false, Bool.not_not, Bool.and_true, Bool.true_and, Bool.and_false, Bool.false_and, Bool.or_true, Bool.true_or, Bool.or_false, Bool.false_or, beq_self_eq_true, bne_self_eq_false, Bool.true_eq_false, Bool.false_eq_true, reduceCtorEq, Bool.and_self, Bool.or_self, Int.reduceBEq, Int.reduceBNe, Int.reduceNeg, decide_true, decide_false, Int.reduceLT, Int.reduceLE, Int.reduceGT]; done) | skip
set_option maxRecDepth 20000 in
set_option maxHeartbeats 2000000 in
theorem eitherN (t : Tst) (m : Nat) (p : Nat → Int × Int) (A B C : Int) (hn : t.n ≤ 20) (hm : m ≤ 1700) (hok : okT t) (hF : famsM t = []) (q : Nat) (hqn : q < t.n) (hq : blM t = (q : Int)) (e1 : agrE (cutT t q) true = 0) (e2 : agrE (cutT t (q + 1)) true = 7) : SF Try.prog 14 (V.atS [.agg (tstC t), .slice none m fun i => pairL (p i), .agg [I A, I B, I C]] (.bool true)) := by
  have p0 : decide ((20 : Int) < (t.n : Int)) = false := decide_eq_false (by omega)
  have p00 : decide ((1700 : Int) < (m : Int)) = false := decide_eq_false (by omega)
  have hE : agrE t true = 7 := by
    unfold agrE
    rw [tfE_okT hok, hF]
    rfl
  have hn12 := hok.n
  have hall : (allP t t.nb).length ≤ 1600 := by
    have hb := hok.b
    have hc := hok.c
    have hnb : t.nb ≤ 40 := by unfold Tst.nb; omega
    have hnc : t.nc ≤ 40 := by unfold Tst.nc; omega
    rw [allP_len]
    exact Nat.le_trans (Nat.mul_le_mul hnb hnc) (by omega)
  have q1 : decide ((q : Int) < 0) = false := decide_eq_false (by omega)
  have q2 : decide ((t.n : Int) ≤ (q : Int)) = false := decide_eq_false (by omega)
  have ew : (IntKind.i64.wrap ((q : Int) + 1)).toNat = q + 1 := by rw [show IntKind.i64.wrap ((q : Int) + 1) = (q : Int) + 1 from wi (by omega)]; omega
  have ew0 : 0 ≤ IntKind.i64.wrap ((q : Int) + 1) := by rw [show IntKind.i64.wrap ((q : Int) + 1) = (q : Int) + 1 from wi (by omega)]; omega
  have ew1 : IntKind.i64.wrap ((q : Int) + 1) ≤ (t.n : Int) := by rw [show IntKind.i64.wrap ((q : Int) + 1) = (q : Int) + 1 from wi (by omega)]; omega
  have x1 : (agrE t true == 0) = false := by rw [hE]; rfl
  have x2 : (agrE t true != 7) = false := by rw [hE]; rfl
  have x3 : (agrE (cutT t q) true == 0) = true := by rw [e1]; rfl
  have e2w : agrE (cutT t (IntKind.i64.wrap ((q : Int) + 1)).toNat) true = 7 := by rw [ew]; exact e2
  have x4 : (agrE (cutT t (IntKind.i64.wrap ((q : Int) + 1)).toNat) true == 7) = true := by rw [e2w]; rfl
  have hL : isL stpL t.n fun i => stpL (t.s i) := isLt t (by omega)
  have hL1 : isL stpL (q : Int).toNat fun i => stpL (t.s i) := .mk t.s (by omega) rfl
  have hL2 : isL stpL (IntKind.i64.wrap ((q : Int) + 1)).toNat fun i => stpL (t.s i) := .mk t.s (by omega) rfl
  refine sf_gen types_ok mixed (l := [(18, V.atS [] (.bool true)), (20, V.atS [.agg (tstC t)] (.agg (tstC t))), (21, V.atS [.agg (tstC t)] (I 0)), (24, curvesS), (36, V.atS [.agg (tstC t)] (.tup [.slice none (allP t t.nb).length (getP (allP t t.nb)), I 0])), (35, V.atS [.agg (tstC t)] (.tup [I (q : Nat), I 0])), (39, V.atS [.agg (tstC t), .slice none (allP t t.nb).length (getP (allP t t.nb))] (.bool true)), (22, V.atS [.agg (tstC t), .agg [I A, I B, I C]] (.bool false))]) ⟨sf18, c20 t (by omega), (by have := c21 t (by omega); rw [tfE_okT hok] at this; exact this), sf24, consT t hok ((allH_iff hok).2 hF), (by have := c35 t (by omega); unfold blN blE at this; rw [tfE_okT hok, bl_some hok hF, hq] at this; exact this), (by have := c39 t (by omega) (allP t t.nb).length (fun i => (allP t t.nb).getD i (0, 0)) (by omega); rw [prv_own hok hF] at this; exact this), (by have := c22 t A B C (by omega); rw [agr_none hok hF, Bool.and_false] at this; exact this), trivial⟩ (es := []) trivial (its := []) trivial (fr := []) trivial [] [] false [] [] 3 Try.func14 rfl (by kernel_rfl) fun args h => ?_
  have h : args = _ := h
  subst h
  refine ⟨rfl, ?_⟩
  show evalCode _ _ _ fun o => match o with
    | .normal st | .ret st => withP _ (_ ∧ PLe _ (.bool true))
    | _ => False
  repeat' first | (refine fun h => absurd (h.symm.trans x1) (by decide)) | (refine fun h => absurd (h.symm.trans x2) (by decide)) | (refine fun h => absurd (h.symm.trans x3) (by decide)) | (refine fun h => absurd (h.symm.trans x4) (by decide)) | (exact PLe.refl _) | (exact BLe.refl _) | (exact PLeL.nil) | (exact BLeL.nil) | (refine ⟨?_, ?_⟩) | (refine PLeL.cons ?_ ?_) | (refine BLeL.cons ?_ ?_) | (refine ple_int ?_) | (refine ple_bool ?_) | (refine ple_tt ?_) | (refine ple_ff ?_) | (refine PLe.aggL ?_) | (refine PLe.tupL ?_) | (refine BLe.cellsL ?_) | (refine fun h => absurd h (by decide)) | (refine fun h => ?_; exfalso; simp only [p0, p00, q1, q2, Int.toNat_natCast, Bool.cond_true_left, Bool.cond_false_right, Bool.cond_true_right, Bool.cond_false_left, cond_true, cond_false, Bool.not_true, Bool.not_false, Bool.not_not, Bool.and_true, Bool.true_and, Bool.and_false, Bool.false_and, Bool.or_true, Bool.true_or, Bool.or_false, Bool.false_or, beq_self_eq_true, bne_self_eq_false, Bool.true_eq_false, Bool.false_eq_true, reduceCtorEq, Bool.and_self, Bool.or_self, Int.reduceBEq, Int.reduceBNe, Int.reduceNeg, decide_true, decide_false, Int.reduceLT, Int.reduceLE, Int.reduceGT] at h; done) | (refine fun (h : @Eq Bool _ _) => ?_)
  all_goals first | trivial | rfl | omega | (exact hL) | (exact hL1) | (exact hL2) | (exact ew0) | (exact ew1) | (exact x1) | (exact x2) | (exact x3) | (exact x4) | (simp only [p0, p00, q1, q2, Int.toNat_natCast, Bool.cond_true_left, Bool.cond_false_right, Bool.cond_true_right, Bool.cond_false_left, cond_true, cond_false, Bool.not_true, Bool.not_false, Bool.not_not, Bool.and_true, Bool.true_and, Bool.and_false, Bool.false_and, Bool.or_true, Bool.true_or, Bool.or_false, Bool.false_or, beq_self_eq_true, bne_self_eq_false, Bool.true_eq_false, Bool.false_eq_true, reduceCtorEq, Bool.and_self, Bool.or_self, Int.reduceBEq, Int.reduceBNe, Int.reduceNeg, decide_true, decide_false, Int.reduceLT, Int.reduceLE, Int.reduceGT]; done) | (show @Eq Bool _ _; simp only [p0, p00, q1, q2, Int.toNat_natCast, Bool.cond_true_left, Bool.cond_false_right, Bool.cond_true_right, Bool.cond_false_left, cond_true, cond_false, Bool.not_true, Bool.not_false, Bool.not_not, Bool.and_true, Bool.true_and, Bool.and_false, Bool.false_and, Bool.or_true, Bool.true_or, Bool.or_false, Bool.false_or, beq_self_eq_true, bne_self_eq_false, Bool.true_eq_false, Bool.false_eq_true, reduceCtorEq, Bool.and_self, Bool.or_self, Int.reduceBEq, Int.reduceBNe, Int.reduceNeg, decide_true, decide_false, Int.reduceLT, Int.reduceLE, Int.reduceGT]; done) | skip
theorem eitherA (t : Tst) (m : Nat) (p : Nat → Int × Int) (A B C : Int) : SF Try.prog 14 (V.atS [.agg (tstC t), .slice none m fun i => pairL (p i), .agg [I A, I B, I C]] (.bool true)) := by
  by_cases hn : t.n ≤ 20
  · by_cases hm : m ≤ 1700
    · cases p1 : (tfE t != 0) with
      | true => exact eitherE t m p A B C hn hm p1
      | false =>
        have hok : okT t := tfE_ok (by simpa using p1)
        by_cases hF : famsM t = []
        · obtain ⟨q, hqn, hq, e1, e2⟩ := bl_first hok hF
          exact eitherN t m p A B C hn hm hok hF q hqn hq e1 e2
        · exact eitherZ t m p A B C hn hm hok (List.length_pos_iff.2 hF)
    · exact eitherBig2 t m p A B C hn (by omega)
  · exact eitherBig1 t m p A B C (by omega)
end Go.Proofs.Ytnjhbmcambofgaa
