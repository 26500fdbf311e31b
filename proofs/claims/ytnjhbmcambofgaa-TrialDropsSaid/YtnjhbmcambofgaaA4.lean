/- Layer 4: the law on drawdowns. -/
import Derived.Test.YtnjhbmcambofgaaS35
namespace Go.Proofs.Ytnjhbmcambofgaa
open Go.V
set_option linter.unusedSimpArgs false
set_option linter.unusedVariables false

/-- Whether the flows are too few, too many, or out of range among the first k. -/
def wide0 (m : Nat) : Bool := decide ((m : Int) < 1) || decide (12 < (m : Int))
def wideB (m : Nat) (qs : Nat → Int) (k : Nat) : Bool := wide0 m || !qsB qs k
theorem wideB_end (m : Nat) (qs : Nat → Int) : okQ qs m = !wideB m qs m := by
  unfold okQ wideB wide0
  have e : decide (1 ≤ (m : Int) ∧ (m : Int) ≤ 12) = !(decide ((m : Int) < 1) || decide (12 < (m : Int))) := by
    by_cases h1 : (m : Int) < 1 <;> by_cases h2 : 12 < (m : Int) <;> simp [h1, h2] <;> omega
  rw [e]
  cases (decide ((m : Int) < 1) || decide (12 < (m : Int))) <;> cases qsB qs m <;> rfl
theorem wideB_t {m k : Nat} {qs : Nat → Int} (h : wideB m qs k = true) : wideB m qs (k + 1) = true := by
  unfold wideB at h ⊢
  have e : qsB qs (k + 1) = (qsB qs k && decide (0 ≤ qs k ∧ qs k ≤ 1000)) := rfl
  rw [e]
  cases h0 : wide0 m with
  | true => rfl
  | false =>
    rw [h0] at h
    cases h1 : qsB qs k with
    | true => rw [h1] at h; cases h
    | false => rfl
theorem wideB_f {m k : Nat} {qs : Nat → Int} (h : wideB m qs k = false) : wideB m qs (k + 1) = !decide (0 ≤ qs k ∧ qs k ≤ 1000) := by
  unfold wideB at h ⊢
  have e : qsB qs (k + 1) = (qsB qs k && decide (0 ≤ qs k ∧ qs k ≤ 1000)) := rfl
  rw [e]
  rw [Bool.or_eq_false_iff] at h
  rw [h.1, show qsB qs k = true by simpa using h.2]
  rfl
set_option maxRecDepth 20000 in
set_option maxHeartbeats 2000000 in
theorem dropsBig1 (t : Tst) (q : Int) (m : Nat) (qs : Nat → Int) (hn : 20 < t.n) : SF Try.prog 4 (V.atS [.agg (tstC t), I q, .slice none m fun i => intL (qs i)] (.bool true)) := by
  have p0 : decide ((20 : Int) < (t.n : Int)) = true := decide_eq_true (by omega)
  refine sf_gen types_ok mixed (l := [(18, V.atS [] (.bool true))]) ⟨sf18, trivial⟩ (es := []) trivial (its := []) trivial (fr := []) trivial [] [] false [] [] 3 Try.func4 rfl (by kernel_rfl) fun args h => ?_
  have h : args = _ := h
  subst h
  refine ⟨rfl, ?_⟩
  show evalCode _ _ _ fun o => match o with
    | .normal st | .ret st => withP _ (_ ∧ PLe _ (.bool true))
    | _ => False
  repeat' first
    | exact PLe.refl _
    | exact BLe.refl _
    | exact PLeL.nil
    | exact BLeL.nil
    | refine ⟨?_, ?_⟩
    | refine PLeL.cons ?_ ?_
    | refine BLeL.cons ?_ ?_
    | refine ple_int ?_
    | refine ple_bool ?_
    | refine ple_tt ?_
    | refine ple_ff ?_
    | refine PLe.aggL ?_
    | refine PLe.tupL ?_
    | refine BLe.cellsL ?_
    | refine fun h => absurd h (by decide)
    | (refine fun h => ?_; exfalso; simp only [p0, Int.toNat_natCast, Bool.cond_true_left, Bool.cond_false_right, Bool.cond_true_right, Bool.cond_false_left, cond_true, cond_false, Bool.not_true, Bool.not_false, Bool.not_not, Bool.and_true, Bool.true_and, Bool.and_false, Bool.false_and, Bool.or_true, Bool.true_or, Bool.or_false, Bool.false_or, beq_self_eq_true, bne_self_eq_false, Bool.true_eq_false, Bool.false_eq_true, reduceCtorEq, Bool.and_self, Bool.or_self, Int.reduceBEq, Int.reduceBNe, Int.reduceNeg, decide_true, decide_false, Int.reduceLT, Int.reduceLE, Int.reduceGT] at h; done)
    | refine fun (h : @Eq Bool _ _) => ?_
  all_goals first
    | trivial
    | rfl
    | omega
    | (simp only [p0, Int.toNat_natCast, Bool.cond_true_left, Bool.cond_false_right, Bool.cond_true_right, Bool.cond_false_left, cond_true, cond_false, Bool.not_true, Bool.not_false, Bool.not_not, Bool.and_true, Bool.true_and, Bool.and_false, Bool.false_and, Bool.or_true, Bool.true_or, Bool.or_false, Bool.false_or, beq_self_eq_true, bne_self_eq_false, Bool.true_eq_false, Bool.false_eq_true, reduceCtorEq, Bool.and_self, Bool.or_self, Int.reduceBEq, Int.reduceBNe, Int.reduceNeg, decide_true, decide_false, Int.reduceLT, Int.reduceLE, Int.reduceGT]; done)
    | (show @Eq Bool _ _; simp only [p0, Int.toNat_natCast, Bool.cond_true_left, Bool.cond_false_right, Bool.cond_true_right, Bool.cond_false_left, cond_true, cond_false, Bool.not_true, Bool.not_false, Bool.not_not, Bool.and_true, Bool.true_and, Bool.and_false, Bool.false_and, Bool.or_true, Bool.true_or, Bool.or_false, Bool.false_or, beq_self_eq_true, bne_self_eq_false, Bool.true_eq_false, Bool.false_eq_true, reduceCtorEq, Bool.and_self, Bool.or_self, Int.reduceBEq, Int.reduceBNe, Int.reduceNeg, decide_true, decide_false, Int.reduceLT, Int.reduceLE, Int.reduceGT]; done)
    | skip
set_option maxRecDepth 20000 in
set_option maxHeartbeats 2000000 in
theorem dropsBig2 (t : Tst) (q : Int) (m : Nat) (qs : Nat → Int) (hn : t.n ≤ 20) (hm : 20 < m) : SF Try.prog 4 (V.atS [.agg (tstC t), I q, .slice none m fun i => intL (qs i)] (.bool true)) := by
  have p0 : decide ((20 : Int) < (t.n : Int)) = false := decide_eq_false (by omega)
  have p1 : decide ((20 : Int) < (m : Int)) = true := decide_eq_true (by omega)
  refine sf_gen types_ok mixed (l := [(18, V.atS [] (.bool true))]) ⟨sf18, trivial⟩ (es := []) trivial (its := []) trivial (fr := []) trivial [] [] false [] [] 3 Try.func4 rfl (by kernel_rfl) fun args h => ?_
  have h : args = _ := h
  subst h
  refine ⟨rfl, ?_⟩
  show evalCode _ _ _ fun o => match o with
    | .normal st | .ret st => withP _ (_ ∧ PLe _ (.bool true))
    | _ => False
  repeat' first
    | exact PLe.refl _
    | exact BLe.refl _
    | exact PLeL.nil
    | exact BLeL.nil
    | refine ⟨?_, ?_⟩
    | refine PLeL.cons ?_ ?_
    | refine BLeL.cons ?_ ?_
    | refine ple_int ?_
    | refine ple_bool ?_
    | refine ple_tt ?_
    | refine ple_ff ?_
    | refine PLe.aggL ?_
    | refine PLe.tupL ?_
    | refine BLe.cellsL ?_
    | refine fun h => absurd h (by decide)
    | (refine fun h => ?_; exfalso; simp only [p0, p1, Int.toNat_natCast, Bool.cond_true_left, Bool.cond_false_right, Bool.cond_true_right, Bool.cond_false_left, cond_true, cond_false, Bool.not_true, Bool.not_false, Bool.not_not, Bool.and_true, Bool.true_and, Bool.and_false, Bool.false_and, Bool.or_true, Bool.true_or, Bool.or_false, Bool.false_or, beq_self_eq_true, bne_self_eq_false, Bool.true_eq_false, Bool.false_eq_true, reduceCtorEq, Bool.and_self, Bool.or_self, Int.reduceBEq, Int.reduceBNe, Int.reduceNeg, decide_true, decide_false, Int.reduceLT, Int.reduceLE, Int.reduceGT] at h; done)
    | refine fun (h : @Eq Bool _ _) => ?_
  all_goals first
    | trivial
    | rfl
    | omega
    | (simp only [p0, p1, Int.toNat_natCast, Bool.cond_true_left, Bool.cond_false_right, Bool.cond_true_right, Bool.cond_false_left, cond_true, cond_false, Bool.not_true, Bool.not_false, Bool.not_not, Bool.and_true, Bool.true_and, Bool.and_false, Bool.false_and, Bool.or_true, Bool.true_or, Bool.or_false, Bool.false_or, beq_self_eq_true, bne_self_eq_false, Bool.true_eq_false, Bool.false_eq_true, reduceCtorEq, Bool.and_self, Bool.or_self, Int.reduceBEq, Int.reduceBNe, Int.reduceNeg, decide_true, decide_false, Int.reduceLT, Int.reduceLE, Int.reduceGT]; done)
    | (show @Eq Bool _ _; simp only [p0, p1, Int.toNat_natCast, Bool.cond_true_left, Bool.cond_false_right, Bool.cond_true_right, Bool.cond_false_left, cond_true, cond_false, Bool.not_true, Bool.not_false, Bool.not_not, Bool.and_true, Bool.true_and, Bool.and_false, Bool.false_and, Bool.or_true, Bool.true_or, Bool.or_false, Bool.false_or, beq_self_eq_true, bne_self_eq_false, Bool.true_eq_false, Bool.false_eq_true, reduceCtorEq, Bool.and_self, Bool.or_self, Int.reduceBEq, Int.reduceBNe, Int.reduceNeg, decide_true, decide_false, Int.reduceLT, Int.reduceLE, Int.reduceGT]; done)
    | skip
set_option maxRecDepth 20000 in
set_option maxHeartbeats 4000000 in
theorem drops00 (t : Tst) (q : Int) (m : Nat) (qs : Nat → Int) (hn : t.n ≤ 20) (hm : m ≤ 20) (p1 : (agrE t (decide (0 ≤ q ∧ q ≤ 1000)) != 0) = true) (p2 : (agrE t (!wideB m qs m) != 0) = true) : SF Try.prog 4 (V.atS [.agg (tstC t), I q, .slice none m fun i => intL (qs i)] (.bool true)) := by
  have p0 : decide ((20 : Int) < (t.n : Int)) = false := decide_eq_false (by omega)
  have p00 : decide ((20 : Int) < (m : Int)) = false := decide_eq_false (by omega)
  have p1y : (agrE t (decide (0 ≤ q ∧ q ≤ 1000)) == 0) = false := by simpa using p1
  have p2y : (agrE t (!wideB m qs m) == 0) = false := by simpa using p2
  refine sf_gen types_ok mixed (l := [(18, V.atS [] (.bool true)), (20, V.atS [.agg (tstC t)] (.agg (tstC t))), (25, ask2S t), (30, withinS), (28, V.atS [.agg (tstC t), I q] (.tup [encR (⟨0, 0⟩), I (agrE t (decide (0 ≤ q ∧ q ≤ 1000)))])), (29, listS t qs m (.tup [I (0), I (agrE t (!wideB m qs m))]))]) ⟨sf18, c20 t (by omega), sf25b t (by omega), sf30, (by have := c28 t q (by omega); rw [show agrLst t (flowB q) = [] from agrE_no p1] at this; exact this), (by refine sf_list ?_; have := c29 t qs m (by omega) (by omega); rw [show widM t qs m = 0 from (by unfold widM; rw [wideB_end, p2]; rfl), wideB_end] at this; exact this), trivial⟩ (es := []) trivial (its := []) trivial (fr := []) trivial [] [] false [] [] 3 Try.func4 rfl (by kernel_rfl) fun args h => ?_
  have h : args = _ := h
  subst h
  refine ⟨rfl, ?_⟩
  show evalCode _ _ _ fun o => match o with
    | .normal st | .ret st => withP _ (_ ∧ PLe _ (.bool true))
    | _ => False
  cases p5 : decide ((m : Int) < 1) with
  | true =>
    have w5 : wideB m qs 0 = true := by unfold wideB wide0; rw [p5]; rfl
    repeat' first
      | exact PLe.refl _
      | exact BLe.refl _
      | exact PLeL.nil
      | exact BLeL.nil
      | refine ⟨?_, ?_⟩
      | refine PLeL.cons ?_ ?_
      | refine BLeL.cons ?_ ?_
      | refine ple_int ?_
      | refine ple_bool ?_
      | refine ple_tt ?_
      | refine ple_ff ?_
      | refine PLe.aggL ?_
      | refine PLe.tupL ?_
      | refine BLe.cellsL ?_
      | refine halt_rng (cnt 12) m [1, 2, 3, 7, 8, 9, 10, 11, 12] [3, 7] (fun k => [I q, .slice none m fun i => intL (qs i), .ptr 3 0, .ptr 7 0, I (agrE t (decide (0 ≤ q ∧ q ≤ 1000))), I (0), I (agrE t (!wideB m qs m)), .bool (wideB m qs k), I (k : Nat)]) (fun k => [.cells (tstC t), .cells (rngL (⟨0, 0⟩))]) (fun _ => True) rfl (.mk ?_ ?_) trivial ?_
      | refine fun h => absurd h (by decide)
      | (refine fun h => ?_; exfalso; simp only [p0, p00, p1, p1y, p2, p2y, p5, w5, Int.toNat_natCast, Bool.cond_true_left, Bool.cond_false_right, Bool.cond_true_right, Bool.cond_false_left, cond_true, cond_false, Bool.not_true, Bool.not_false, Bool.not_not, Bool.and_true, Bool.true_and, Bool.and_false, Bool.false_and, Bool.or_true, Bool.true_or, Bool.or_false, Bool.false_or, beq_self_eq_true, bne_self_eq_false, Bool.true_eq_false, Bool.false_eq_true, reduceCtorEq, Bool.and_self, Bool.or_self, Int.reduceBEq, Int.reduceBNe, Int.reduceNeg, decide_true, decide_false, Int.reduceLT, Int.reduceLE, Int.reduceGT] at h; done)
      | refine fun (h : @Eq Bool _ _) => ?_
    all_goals first
      | trivial
      | rfl
      | omega
      | exact ⟨rfl, rfl⟩
      | exact ⟨rfl, by omega, fun i hi => rfl⟩
      | exact Nat.zero_add m
      | (intro i hi; rfl)
      | exact w5
      | exact w6
      | exact w7
      | (show (0 + m) * 8 ≤ 140737488355328; omega)
      | (intro i hi; exact absurd hi (by omega))
      | (intro i hi; exact ⟨rfl, rfl⟩)
      | (simp only [p0, p00, p1, p1y, p2, p2y, p5, w5, Int.toNat_natCast, Bool.cond_true_left, Bool.cond_false_right, Bool.cond_true_right, Bool.cond_false_left, cond_true, cond_false, Bool.not_true, Bool.not_false, Bool.not_not, Bool.and_true, Bool.true_and, Bool.and_false, Bool.false_and, Bool.or_true, Bool.true_or, Bool.or_false, Bool.false_or, beq_self_eq_true, bne_self_eq_false, Bool.true_eq_false, Bool.false_eq_true, reduceCtorEq, Bool.and_self, Bool.or_self, Int.reduceBEq, Int.reduceBNe, Int.reduceNeg, decide_true, decide_false, Int.reduceLT, Int.reduceLE, Int.reduceGT]; done)
      | (show @Eq Bool _ _; simp only [p0, p00, p1, p1y, p2, p2y, p5, w5, Int.toNat_natCast, Bool.cond_true_left, Bool.cond_false_right, Bool.cond_true_right, Bool.cond_false_left, cond_true, cond_false, Bool.not_true, Bool.not_false, Bool.not_not, Bool.and_true, Bool.true_and, Bool.and_false, Bool.false_and, Bool.or_true, Bool.true_or, Bool.or_false, Bool.false_or, beq_self_eq_true, bne_self_eq_false, Bool.true_eq_false, Bool.false_eq_true, reduceCtorEq, Bool.and_self, Bool.or_self, Int.reduceBEq, Int.reduceBNe, Int.reduceNeg, decide_true, decide_false, Int.reduceLT, Int.reduceLE, Int.reduceGT]; done)
      | skip
    intro k hk _
    refine ⟨fun h1 => ?_, fun h1 => ?_⟩
    · have hlt : k < m := by
        have : (k : Int) < (m : Int) := of_decide_eq_true h1
        omega
      have e1 := succ_w hlt (by omega)
      clear h1
      refine (Bool.eq_false_or_eq_true (wideB m qs k)).elim (fun w6 => ?_) fun w6 => ?_
      · have w7 := wideB_t w6
        repeat' first
          | exact PLe.refl _
          | exact BLe.refl _
          | exact PLeL.nil
          | exact BLeL.nil
          | refine ⟨?_, ?_⟩
          | refine PLeL.cons ?_ ?_
          | refine BLeL.cons ?_ ?_
          | refine ple_int ?_
          | refine ple_bool ?_
          | refine ple_tt ?_
          | refine ple_ff ?_
          | refine PLe.aggL ?_
          | refine PLe.tupL ?_
          | refine BLe.cellsL ?_
          | refine next_rng (cn := cnt 12) rfl (fun _ => rfl) hlt trivial (.mk ?_ ?_)
          | refine fun h => absurd h (by decide)
          | (refine fun h => ?_; exfalso; simp only [w6, w7, Int.toNat_natCast, Bool.cond_true_left, Bool.cond_false_right, Bool.cond_true_right, Bool.cond_false_left, cond_true, cond_false, Bool.not_true, Bool.not_false, Bool.not_not, Bool.and_true, Bool.true_and, Bool.and_false, Bool.false_and, Bool.or_true, Bool.true_or, Bool.or_false, Bool.false_or, beq_self_eq_true, bne_self_eq_false, Bool.true_eq_false, Bool.false_eq_true, reduceCtorEq, Bool.and_self, Bool.or_self, Int.reduceBEq, Int.reduceBNe, Int.reduceNeg, decide_true, decide_false, Int.reduceLT, Int.reduceLE, Int.reduceGT] at h; done)
          | refine fun (h : @Eq Bool _ _) => ?_
        all_goals first
          | trivial
          | rfl
          | omega
          | exact e1
          | exact w7
          | (simp only [w6, w7, Int.toNat_natCast, Bool.cond_true_left, Bool.cond_false_right, Bool.cond_true_right, Bool.cond_false_left, cond_true, cond_false, Bool.not_true, Bool.not_false, Bool.not_not, Bool.and_true, Bool.true_and, Bool.and_false, Bool.false_and, Bool.or_true, Bool.true_or, Bool.or_false, Bool.false_or, beq_self_eq_true, bne_self_eq_false, Bool.true_eq_false, Bool.false_eq_true, reduceCtorEq, Bool.and_self, Bool.or_self, Int.reduceBEq, Int.reduceBNe, Int.reduceNeg, decide_true, decide_false, Int.reduceLT, Int.reduceLE, Int.reduceGT]; done)
          | (show @Eq Bool _ _; simp only [w6, w7, Int.toNat_natCast, Bool.cond_true_left, Bool.cond_false_right, Bool.cond_true_right, Bool.cond_false_left, cond_true, cond_false, Bool.not_true, Bool.not_false, Bool.not_not, Bool.and_true, Bool.true_and, Bool.and_false, Bool.false_and, Bool.or_true, Bool.true_or, Bool.or_false, Bool.false_or, beq_self_eq_true, bne_self_eq_false, Bool.true_eq_false, Bool.false_eq_true, reduceCtorEq, Bool.and_self, Bool.or_self, Int.reduceBEq, Int.reduceBNe, Int.reduceNeg, decide_true, decide_false, Int.reduceLT, Int.reduceLE, Int.reduceGT]; done)
          | skip
      · have w7 := wideB_f w6
        repeat' first
          | exact PLe.refl _
          | exact BLe.refl _
          | exact PLeL.nil
          | exact BLeL.nil
          | refine ⟨?_, ?_⟩
          | refine PLeL.cons ?_ ?_
          | refine BLeL.cons ?_ ?_
          | refine ple_int ?_
          | refine ple_bool ?_
          | refine ple_tt ?_
          | refine ple_ff ?_
          | refine PLe.aggL ?_
          | refine PLe.tupL ?_
          | refine BLe.cellsL ?_
          | refine next_rng (cn := cnt 12) rfl (fun _ => rfl) hlt trivial (.mk ?_ ?_)
          | refine fun h => absurd h (by decide)
          | (refine fun h => ?_; exfalso; simp only [w6, Int.toNat_natCast, Bool.cond_true_left, Bool.cond_false_right, Bool.cond_true_right, Bool.cond_false_left, cond_true, cond_false, Bool.not_true, Bool.not_false, Bool.not_not, Bool.and_true, Bool.true_and, Bool.and_false, Bool.false_and, Bool.or_true, Bool.true_or, Bool.or_false, Bool.false_or, beq_self_eq_true, bne_self_eq_false, Bool.true_eq_false, Bool.false_eq_true, reduceCtorEq, Bool.and_self, Bool.or_self, Int.reduceBEq, Int.reduceBNe, Int.reduceNeg, decide_true, decide_false, Int.reduceLT, Int.reduceLE, Int.reduceGT] at h; done)
          | refine fun (h : @Eq Bool _ _) => ?_
        all_goals first
          | trivial
          | rfl
          | omega
          | exact e1
          | exact w7.symm
          | (show (0 : Int) ≤ (k : Int); omega)
          | (show (k : Int) < (m : Int); omega)
          | (simp only [w6, Int.toNat_natCast, Bool.cond_true_left, Bool.cond_false_right, Bool.cond_true_right, Bool.cond_false_left, cond_true, cond_false, Bool.not_true, Bool.not_false, Bool.not_not, Bool.and_true, Bool.true_and, Bool.and_false, Bool.false_and, Bool.or_true, Bool.true_or, Bool.or_false, Bool.false_or, beq_self_eq_true, bne_self_eq_false, Bool.true_eq_false, Bool.false_eq_true, reduceCtorEq, Bool.and_self, Bool.or_self, Int.reduceBEq, Int.reduceBNe, Int.reduceNeg, decide_true, decide_false, Int.reduceLT, Int.reduceLE, Int.reduceGT]; done)
          | (show @Eq Bool _ _; simp only [w6, Int.toNat_natCast, Bool.cond_true_left, Bool.cond_false_right, Bool.cond_true_right, Bool.cond_false_left, cond_true, cond_false, Bool.not_true, Bool.not_false, Bool.not_not, Bool.and_true, Bool.true_and, Bool.and_false, Bool.false_and, Bool.or_true, Bool.true_or, Bool.or_false, Bool.false_or, beq_self_eq_true, bne_self_eq_false, Bool.true_eq_false, Bool.false_eq_true, reduceCtorEq, Bool.and_self, Bool.or_self, Int.reduceBEq, Int.reduceBNe, Int.reduceNeg, decide_true, decide_false, Int.reduceLT, Int.reduceLE, Int.reduceGT]; done)
          | skip
    · have hkm : k = m := by
        have : ¬ ((k : Int) < (m : Int)) := of_decide_eq_false h1
        omega
      subst hkm
      clear h1
      repeat' first
        | exact PLe.refl _
        | exact BLe.refl _
        | exact PLeL.nil
        | exact BLeL.nil
        | refine ⟨?_, ?_⟩
        | refine PLeL.cons ?_ ?_
        | refine BLeL.cons ?_ ?_
        | refine ple_int ?_
        | refine ple_bool ?_
        | refine ple_tt ?_
        | refine ple_ff ?_
        | refine PLe.aggL ?_
        | refine PLe.tupL ?_
        | refine BLe.cellsL ?_
        | refine fun h => absurd h (by decide)
        | (refine fun h => ?_; exfalso; simp only [p0, p00, p1, p1y, p2, p2y, Int.toNat_natCast, Bool.cond_true_left, Bool.cond_false_right, Bool.cond_true_right, Bool.cond_false_left, cond_true, cond_false, Bool.not_true, Bool.not_false, Bool.not_not, Bool.and_true, Bool.true_and, Bool.and_false, Bool.false_and, Bool.or_true, Bool.true_or, Bool.or_false, Bool.false_or, beq_self_eq_true, bne_self_eq_false, Bool.true_eq_false, Bool.false_eq_true, reduceCtorEq, Bool.and_self, Bool.or_self, Int.reduceBEq, Int.reduceBNe, Int.reduceNeg, decide_true, decide_false, Int.reduceLT, Int.reduceLE, Int.reduceGT] at h; done)
        | refine fun (h : @Eq Bool _ _) => ?_
      all_goals first
        | trivial
        | rfl
        | omega
        | exact ⟨rfl, rfl⟩
        | exact ⟨rfl, by omega, fun i hi => rfl⟩
        | exact Nat.zero_add m
        | (intro i hi; rfl)
        | exact w5
        | exact w6
        | exact w7
        | (show (0 + m) * 8 ≤ 140737488355328; omega)
        | (intro i hi; exact absurd hi (by omega))
        | (intro i hi; exact ⟨rfl, rfl⟩)
        | (simp only [p0, p00, p1, p1y, p2, p2y, Int.toNat_natCast, Bool.cond_true_left, Bool.cond_false_right, Bool.cond_true_right, Bool.cond_false_left, cond_true, cond_false, Bool.not_true, Bool.not_false, Bool.not_not, Bool.and_true, Bool.true_and, Bool.and_false, Bool.false_and, Bool.or_true, Bool.true_or, Bool.or_false, Bool.false_or, beq_self_eq_true, bne_self_eq_false, Bool.true_eq_false, Bool.false_eq_true, reduceCtorEq, Bool.and_self, Bool.or_self, Int.reduceBEq, Int.reduceBNe, Int.reduceNeg, decide_true, decide_false, Int.reduceLT, Int.reduceLE, Int.reduceGT]; done)
        | (show @Eq Bool _ _; simp only [p0, p00, p1, p1y, p2, p2y, Int.toNat_natCast, Bool.cond_true_left, Bool.cond_false_right, Bool.cond_true_right, Bool.cond_false_left, cond_true, cond_false, Bool.not_true, Bool.not_false, Bool.not_not, Bool.and_true, Bool.true_and, Bool.and_false, Bool.false_and, Bool.or_true, Bool.true_or, Bool.or_false, Bool.false_or, beq_self_eq_true, bne_self_eq_false, Bool.true_eq_false, Bool.false_eq_true, reduceCtorEq, Bool.and_self, Bool.or_self, Int.reduceBEq, Int.reduceBNe, Int.reduceNeg, decide_true, decide_false, Int.reduceLT, Int.reduceLE, Int.reduceGT]; done)
        | skip
  | false =>
    have w5 : wideB m qs 0 = decide (12 < (m : Int)) := by unfold wideB wide0; rw [p5]; cases decide (12 < (m : Int)) <;> rfl
    repeat' first
      | exact PLe.refl _
      | exact BLe.refl _
      | exact PLeL.nil
      | exact BLeL.nil
      | refine ⟨?_, ?_⟩
      | refine PLeL.cons ?_ ?_
      | refine BLeL.cons ?_ ?_
      | refine ple_int ?_
      | refine ple_bool ?_
      | refine ple_tt ?_
      | refine ple_ff ?_
      | refine PLe.aggL ?_
      | refine PLe.tupL ?_
      | refine BLe.cellsL ?_
      | refine halt_rng (cnt 12) m [1, 2, 3, 7, 8, 9, 10, 11, 12] [3, 7] (fun k => [I q, .slice none m fun i => intL (qs i), .ptr 3 0, .ptr 7 0, I (agrE t (decide (0 ≤ q ∧ q ≤ 1000))), I (0), I (agrE t (!wideB m qs m)), .bool (wideB m qs k), I (k : Nat)]) (fun k => [.cells (tstC t), .cells (rngL (⟨0, 0⟩))]) (fun _ => True) rfl (.mk ?_ ?_) trivial ?_
      | refine fun h => absurd h (by decide)
      | (refine fun h => ?_; exfalso; simp only [p0, p00, p1, p1y, p2, p2y, p5, w5, Int.toNat_natCast, Bool.cond_true_left, Bool.cond_false_right, Bool.cond_true_right, Bool.cond_false_left, cond_true, cond_false, Bool.not_true, Bool.not_false, Bool.not_not, Bool.and_true, Bool.true_and, Bool.and_false, Bool.false_and, Bool.or_true, Bool.true_or, Bool.or_false, Bool.false_or, beq_self_eq_true, bne_self_eq_false, Bool.true_eq_false, Bool.false_eq_true, reduceCtorEq, Bool.and_self, Bool.or_self, Int.reduceBEq, Int.reduceBNe, Int.reduceNeg, decide_true, decide_false, Int.reduceLT, Int.reduceLE, Int.reduceGT] at h; done)
      | refine fun (h : @Eq Bool _ _) => ?_
    all_goals first
      | trivial
      | rfl
      | omega
      | exact ⟨rfl, rfl⟩
      | exact ⟨rfl, by omega, fun i hi => rfl⟩
      | exact Nat.zero_add m
      | (intro i hi; rfl)
      | exact w5
      | exact w6
      | exact w7
      | (show (0 + m) * 8 ≤ 140737488355328; omega)
      | (intro i hi; exact absurd hi (by omega))
      | (intro i hi; exact ⟨rfl, rfl⟩)
      | exact w5.symm
      | (simp only [p0, p00, p1, p1y, p2, p2y, p5, w5, Int.toNat_natCast, Bool.cond_true_left, Bool.cond_false_right, Bool.cond_true_right, Bool.cond_false_left, cond_true, cond_false, Bool.not_true, Bool.not_false, Bool.not_not, Bool.and_true, Bool.true_and, Bool.and_false, Bool.false_and, Bool.or_true, Bool.true_or, Bool.or_false, Bool.false_or, beq_self_eq_true, bne_self_eq_false, Bool.true_eq_false, Bool.false_eq_true, reduceCtorEq, Bool.and_self, Bool.or_self, Int.reduceBEq, Int.reduceBNe, Int.reduceNeg, decide_true, decide_false, Int.reduceLT, Int.reduceLE, Int.reduceGT]; done)
      | (show @Eq Bool _ _; simp only [p0, p00, p1, p1y, p2, p2y, p5, w5, Int.toNat_natCast, Bool.cond_true_left, Bool.cond_false_right, Bool.cond_true_right, Bool.cond_false_left, cond_true, cond_false, Bool.not_true, Bool.not_false, Bool.not_not, Bool.and_true, Bool.true_and, Bool.and_false, Bool.false_and, Bool.or_true, Bool.true_or, Bool.or_false, Bool.false_or, beq_self_eq_true, bne_self_eq_false, Bool.true_eq_false, Bool.false_eq_true, reduceCtorEq, Bool.and_self, Bool.or_self, Int.reduceBEq, Int.reduceBNe, Int.reduceNeg, decide_true, decide_false, Int.reduceLT, Int.reduceLE, Int.reduceGT]; done)
      | skip
    intro k hk _
    refine ⟨fun h1 => ?_, fun h1 => ?_⟩
    · have hlt : k < m := by
        have : (k : Int) < (m : Int) := of_decide_eq_true h1
        omega
      have e1 := succ_w hlt (by omega)
      clear h1
      refine (Bool.eq_false_or_eq_true (wideB m qs k)).elim (fun w6 => ?_) fun w6 => ?_
      · have w7 := wideB_t w6
        repeat' first
          | exact PLe.refl _
          | exact BLe.refl _
          | exact PLeL.nil
          | exact BLeL.nil
          | refine ⟨?_, ?_⟩
          | refine PLeL.cons ?_ ?_
          | refine BLeL.cons ?_ ?_
          | refine ple_int ?_
          | refine ple_bool ?_
          | refine ple_tt ?_
          | refine ple_ff ?_
          | refine PLe.aggL ?_
          | refine PLe.tupL ?_
          | refine BLe.cellsL ?_
          | refine next_rng (cn := cnt 12) rfl (fun _ => rfl) hlt trivial (.mk ?_ ?_)
          | refine fun h => absurd h (by decide)
          | (refine fun h => ?_; exfalso; simp only [w6, w7, Int.toNat_natCast, Bool.cond_true_left, Bool.cond_false_right, Bool.cond_true_right, Bool.cond_false_left, cond_true, cond_false, Bool.not_true, Bool.not_false, Bool.not_not, Bool.and_true, Bool.true_and, Bool.and_false, Bool.false_and, Bool.or_true, Bool.true_or, Bool.or_false, Bool.false_or, beq_self_eq_true, bne_self_eq_false, Bool.true_eq_false, Bool.false_eq_true, reduceCtorEq, Bool.and_self, Bool.or_self, Int.reduceBEq, Int.reduceBNe, Int.reduceNeg, decide_true, decide_false, Int.reduceLT, Int.reduceLE, Int.reduceGT] at h; done)
          | refine fun (h : @Eq Bool _ _) => ?_
        all_goals first
          | trivial
          | rfl
          | omega
          | exact e1
          | exact w7
          | (simp only [w6, w7, Int.toNat_natCast, Bool.cond_true_left, Bool.cond_false_right, Bool.cond_true_right, Bool.cond_false_left, cond_true, cond_false, Bool.not_true, Bool.not_false, Bool.not_not, Bool.and_true, Bool.true_and, Bool.and_false, Bool.false_and, Bool.or_true, Bool.true_or, Bool.or_false, Bool.false_or, beq_self_eq_true, bne_self_eq_false, Bool.true_eq_false, Bool.false_eq_true, reduceCtorEq, Bool.and_self, Bool.or_self, Int.reduceBEq, Int.reduceBNe, Int.reduceNeg, decide_true, decide_false, Int.reduceLT, Int.reduceLE, Int.reduceGT]; done)
          | (show @Eq Bool _ _; simp only [w6, w7, Int.toNat_natCast, Bool.cond_true_left, Bool.cond_false_right, Bool.cond_true_right, Bool.cond_false_left, cond_true, cond_false, Bool.not_true, Bool.not_false, Bool.not_not, Bool.and_true, Bool.true_and, Bool.and_false, Bool.false_and, Bool.or_true, Bool.true_or, Bool.or_false, Bool.false_or, beq_self_eq_true, bne_self_eq_false, Bool.true_eq_false, Bool.false_eq_true, reduceCtorEq, Bool.and_self, Bool.or_self, Int.reduceBEq, Int.reduceBNe, Int.reduceNeg, decide_true, decide_false, Int.reduceLT, Int.reduceLE, Int.reduceGT]; done)
          | skip
      · have w7 := wideB_f w6
        repeat' first
          | exact PLe.refl _
          | exact BLe.refl _
          | exact PLeL.nil
          | exact BLeL.nil
          | refine ⟨?_, ?_⟩
          | refine PLeL.cons ?_ ?_
          | refine BLeL.cons ?_ ?_
          | refine ple_int ?_
          | refine ple_bool ?_
          | refine ple_tt ?_
          | refine ple_ff ?_
          | refine PLe.aggL ?_
          | refine PLe.tupL ?_
          | refine BLe.cellsL ?_
          | refine next_rng (cn := cnt 12) rfl (fun _ => rfl) hlt trivial (.mk ?_ ?_)
          | refine fun h => absurd h (by decide)
          | (refine fun h => ?_; exfalso; simp only [w6, Int.toNat_natCast, Bool.cond_true_left, Bool.cond_false_right, Bool.cond_true_right, Bool.cond_false_left, cond_true, cond_false, Bool.not_true, Bool.not_false, Bool.not_not, Bool.and_true, Bool.true_and, Bool.and_false, Bool.false_and, Bool.or_true, Bool.true_or, Bool.or_false, Bool.false_or, beq_self_eq_true, bne_self_eq_false, Bool.true_eq_false, Bool.false_eq_true, reduceCtorEq, Bool.and_self, Bool.or_self, Int.reduceBEq, Int.reduceBNe, Int.reduceNeg, decide_true, decide_false, Int.reduceLT, Int.reduceLE, Int.reduceGT] at h; done)
          | refine fun (h : @Eq Bool _ _) => ?_
        all_goals first
          | trivial
          | rfl
          | omega
          | exact e1
          | exact w7.symm
          | (show (0 : Int) ≤ (k : Int); omega)
          | (show (k : Int) < (m : Int); omega)
          | (simp only [w6, Int.toNat_natCast, Bool.cond_true_left, Bool.cond_false_right, Bool.cond_true_right, Bool.cond_false_left, cond_true, cond_false, Bool.not_true, Bool.not_false, Bool.not_not, Bool.and_true, Bool.true_and, Bool.and_false, Bool.false_and, Bool.or_true, Bool.true_or, Bool.or_false, Bool.false_or, beq_self_eq_true, bne_self_eq_false, Bool.true_eq_false, Bool.false_eq_true, reduceCtorEq, Bool.and_self, Bool.or_self, Int.reduceBEq, Int.reduceBNe, Int.reduceNeg, decide_true, decide_false, Int.reduceLT, Int.reduceLE, Int.reduceGT]; done)
          | (show @Eq Bool _ _; simp only [w6, Int.toNat_natCast, Bool.cond_true_left, Bool.cond_false_right, Bool.cond_true_right, Bool.cond_false_left, cond_true, cond_false, Bool.not_true, Bool.not_false, Bool.not_not, Bool.and_true, Bool.true_and, Bool.and_false, Bool.false_and, Bool.or_true, Bool.true_or, Bool.or_false, Bool.false_or, beq_self_eq_true, bne_self_eq_false, Bool.true_eq_false, Bool.false_eq_true, reduceCtorEq, Bool.and_self, Bool.or_self, Int.reduceBEq, Int.reduceBNe, Int.reduceNeg, decide_true, decide_false, Int.reduceLT, Int.reduceLE, Int.reduceGT]; done)
          | skip
    · have hkm : k = m := by
        have : ¬ ((k : Int) < (m : Int)) := of_decide_eq_false h1
        omega
      subst hkm
      clear h1
      repeat' first
        | exact PLe.refl _
        | exact BLe.refl _
        | exact PLeL.nil
        | exact BLeL.nil
        | refine ⟨?_, ?_⟩
        | refine PLeL.cons ?_ ?_
        | refine BLeL.cons ?_ ?_
        | refine ple_int ?_
        | refine ple_bool ?_
        | refine ple_tt ?_
        | refine ple_ff ?_
        | refine PLe.aggL ?_
        | refine PLe.tupL ?_
        | refine BLe.cellsL ?_
        | refine fun h => absurd h (by decide)
        | (refine fun h => ?_; exfalso; simp only [p0, p00, p1, p1y, p2, p2y, Int.toNat_natCast, Bool.cond_true_left, Bool.cond_false_right, Bool.cond_true_right, Bool.cond_false_left, cond_true, cond_false, Bool.not_true, Bool.not_false, Bool.not_not, Bool.and_true, Bool.true_and, Bool.and_false, Bool.false_and, Bool.or_true, Bool.true_or, Bool.or_false, Bool.false_or, beq_self_eq_true, bne_self_eq_false, Bool.true_eq_false, Bool.false_eq_true, reduceCtorEq, Bool.and_self, Bool.or_self, Int.reduceBEq, Int.reduceBNe, Int.reduceNeg, decide_true, decide_false, Int.reduceLT, Int.reduceLE, Int.reduceGT] at h; done)
        | refine fun (h : @Eq Bool _ _) => ?_
      all_goals first
        | trivial
        | rfl
        | omega
        | exact ⟨rfl, rfl⟩
        | exact ⟨rfl, by omega, fun i hi => rfl⟩
        | exact Nat.zero_add m
        | (intro i hi; rfl)
        | exact w5
        | exact w6
        | exact w7
        | (show (0 + m) * 8 ≤ 140737488355328; omega)
        | (intro i hi; exact absurd hi (by omega))
        | (intro i hi; exact ⟨rfl, rfl⟩)
        | (simp only [p0, p00, p1, p1y, p2, p2y, Int.toNat_natCast, Bool.cond_true_left, Bool.cond_false_right, Bool.cond_true_right, Bool.cond_false_left, cond_true, cond_false, Bool.not_true, Bool.not_false, Bool.not_not, Bool.and_true, Bool.true_and, Bool.and_false, Bool.false_and, Bool.or_true, Bool.true_or, Bool.or_false, Bool.false_or, beq_self_eq_true, bne_self_eq_false, Bool.true_eq_false, Bool.false_eq_true, reduceCtorEq, Bool.and_self, Bool.or_self, Int.reduceBEq, Int.reduceBNe, Int.reduceNeg, decide_true, decide_false, Int.reduceLT, Int.reduceLE, Int.reduceGT]; done)
        | (show @Eq Bool _ _; simp only [p0, p00, p1, p1y, p2, p2y, Int.toNat_natCast, Bool.cond_true_left, Bool.cond_false_right, Bool.cond_true_right, Bool.cond_false_left, cond_true, cond_false, Bool.not_true, Bool.not_false, Bool.not_not, Bool.and_true, Bool.true_and, Bool.and_false, Bool.false_and, Bool.or_true, Bool.true_or, Bool.or_false, Bool.false_or, beq_self_eq_true, bne_self_eq_false, Bool.true_eq_false, Bool.false_eq_true, reduceCtorEq, Bool.and_self, Bool.or_self, Int.reduceBEq, Int.reduceBNe, Int.reduceNeg, decide_true, decide_false, Int.reduceLT, Int.reduceLE, Int.reduceGT]; done)
        | skip
set_option maxRecDepth 20000 in
set_option maxHeartbeats 4000000 in
theorem drops01 (t : Tst) (q : Int) (m : Nat) (qs : Nat → Int) (hn : t.n ≤ 20) (hm : m ≤ 20) (p1 : (agrE t (decide (0 ≤ q ∧ q ≤ 1000)) != 0) = true) (p2 : (agrE t (!wideB m qs m) != 0) = false) : SF Try.prog 4 (V.atS [.agg (tstC t), I q, .slice none m fun i => intL (qs i)] (.bool true)) := by
  have p0 : decide ((20 : Int) < (t.n : Int)) = false := decide_eq_false (by omega)
  have p00 : decide ((20 : Int) < (m : Int)) = false := decide_eq_false (by omega)
  have p1y : (agrE t (decide (0 ≤ q ∧ q ≤ 1000)) == 0) = false := by simpa using p1
  have p2z : agrE t (!wideB m qs m) = 0 := by simpa using p2
  have p2y : (agrE t (!wideB m qs m) == 0) = true := by rw [p2z]; rfl
  refine sf_gen types_ok mixed (l := [(18, V.atS [] (.bool true)), (20, V.atS [.agg (tstC t)] (.agg (tstC t))), (25, ask2S t), (30, withinS), (28, V.atS [.agg (tstC t), I q] (.tup [encR (⟨0, 0⟩), I (agrE t (decide (0 ≤ q ∧ q ≤ 1000)))])), (29, listS t qs m (.tup [I ((rwN (fun i => rwD (famsM t) (qs i)) m).1), I (agrE t (!wideB m qs m))])), (32, V.atS [.agg (tstC t), .slice none m fun i => intL (qs i)] (I ((rwN (fun i => rwD (famsM t) (qs i)) m).1)))]) ⟨sf18, c20 t (by omega), sf25b t (by omega), sf30, (by have := c28 t q (by omega); rw [show agrLst t (flowB q) = [] from agrE_no p1] at this; exact this), (by refine sf_list ?_; have := c29 t qs m (by omega) (by omega); rw [show widM t qs m = (rwN (fun i => rwD (famsM t) (qs i)) m).1 from wid_eq (by rw [wideB_end]; exact p2), wideB_end] at this; exact this), c32 t qs m (agrE_ok p2).1 (by omega), trivial⟩ (es := []) trivial (its := []) trivial (fr := []) trivial [] [] false [] [] 3 Try.func4 rfl (by kernel_rfl) fun args h => ?_
  have h : args = _ := h
  subst h
  refine ⟨rfl, ?_⟩
  show evalCode _ _ _ fun o => match o with
    | .normal st | .ret st => withP _ (_ ∧ PLe _ (.bool true))
    | _ => False
  cases p5 : decide ((m : Int) < 1) with
  | true =>
    have w5 : wideB m qs 0 = true := by unfold wideB wide0; rw [p5]; rfl
    repeat' first
      | exact PLe.refl _
      | exact BLe.refl _
      | exact PLeL.nil
      | exact BLeL.nil
      | refine ⟨?_, ?_⟩
      | refine PLeL.cons ?_ ?_
      | refine BLeL.cons ?_ ?_
      | refine ple_int ?_
      | refine ple_bool ?_
      | refine ple_tt ?_
      | refine ple_ff ?_
      | refine PLe.aggL ?_
      | refine PLe.tupL ?_
      | refine BLe.cellsL ?_
      | refine halt_rng (cnt 12) m [1, 2, 3, 7, 8, 9, 10, 11, 12] [3, 7] (fun k => [I q, .slice none m fun i => intL (qs i), .ptr 3 0, .ptr 7 0, I (agrE t (decide (0 ≤ q ∧ q ≤ 1000))), I ((rwN (fun i => rwD (famsM t) (qs i)) m).1), I (agrE t (!wideB m qs m)), .bool (wideB m qs k), I (k : Nat)]) (fun k => [.cells (tstC t), .cells (rngL (⟨0, 0⟩))]) (fun _ => True) rfl (.mk ?_ ?_) trivial ?_
      | refine fun h => absurd h (by decide)
      | (refine fun h => ?_; exfalso; simp only [p0, p00, p1, p1y, p2z, p2y, p5, w5, Int.toNat_natCast, Bool.cond_true_left, Bool.cond_false_right, Bool.cond_true_right, Bool.cond_false_left, cond_true, cond_false, Bool.not_true, Bool.not_false, Bool.not_not, Bool.and_true, Bool.true_and, Bool.and_false, Bool.false_and, Bool.or_true, Bool.true_or, Bool.or_false, Bool.false_or, beq_self_eq_true, bne_self_eq_false, Bool.true_eq_false, Bool.false_eq_true, reduceCtorEq, Bool.and_self, Bool.or_self, Int.reduceBEq, Int.reduceBNe, Int.reduceNeg, decide_true, decide_false, Int.reduceLT, Int.reduceLE, Int.reduceGT] at h; done)
      | refine fun (h : @Eq Bool _ _) => ?_
    all_goals first
      | trivial
      | rfl
      | omega
      | exact ⟨rfl, rfl⟩
      | exact ⟨rfl, by omega, fun i hi => rfl⟩
      | exact Nat.zero_add m
      | (intro i hi; rfl)
      | exact w5
      | exact w6
      | exact w7
      | (show (0 + m) * 8 ≤ 140737488355328; omega)
      | (intro i hi; exact absurd hi (by omega))
      | (intro i hi; exact ⟨rfl, rfl⟩)
      | (simp only [p0, p00, p1, p1y, p2z, p2y, p5, w5, Int.toNat_natCast, Bool.cond_true_left, Bool.cond_false_right, Bool.cond_true_right, Bool.cond_false_left, cond_true, cond_false, Bool.not_true, Bool.not_false, Bool.not_not, Bool.and_true, Bool.true_and, Bool.and_false, Bool.false_and, Bool.or_true, Bool.true_or, Bool.or_false, Bool.false_or, beq_self_eq_true, bne_self_eq_false, Bool.true_eq_false, Bool.false_eq_true, reduceCtorEq, Bool.and_self, Bool.or_self, Int.reduceBEq, Int.reduceBNe, Int.reduceNeg, decide_true, decide_false, Int.reduceLT, Int.reduceLE, Int.reduceGT]; done)
      | (show @Eq Bool _ _; simp only [p0, p00, p1, p1y, p2z, p2y, p5, w5, Int.toNat_natCast, Bool.cond_true_left, Bool.cond_false_right, Bool.cond_true_right, Bool.cond_false_left, cond_true, cond_false, Bool.not_true, Bool.not_false, Bool.not_not, Bool.and_true, Bool.true_and, Bool.and_false, Bool.false_and, Bool.or_true, Bool.true_or, Bool.or_false, Bool.false_or, beq_self_eq_true, bne_self_eq_false, Bool.true_eq_false, Bool.false_eq_true, reduceCtorEq, Bool.and_self, Bool.or_self, Int.reduceBEq, Int.reduceBNe, Int.reduceNeg, decide_true, decide_false, Int.reduceLT, Int.reduceLE, Int.reduceGT]; done)
      | skip
    intro k hk _
    refine ⟨fun h1 => ?_, fun h1 => ?_⟩
    · have hlt : k < m := by
        have : (k : Int) < (m : Int) := of_decide_eq_true h1
        omega
      have e1 := succ_w hlt (by omega)
      clear h1
      refine (Bool.eq_false_or_eq_true (wideB m qs k)).elim (fun w6 => ?_) fun w6 => ?_
      · have w7 := wideB_t w6
        repeat' first
          | exact PLe.refl _
          | exact BLe.refl _
          | exact PLeL.nil
          | exact BLeL.nil
          | refine ⟨?_, ?_⟩
          | refine PLeL.cons ?_ ?_
          | refine BLeL.cons ?_ ?_
          | refine ple_int ?_
          | refine ple_bool ?_
          | refine ple_tt ?_
          | refine ple_ff ?_
          | refine PLe.aggL ?_
          | refine PLe.tupL ?_
          | refine BLe.cellsL ?_
          | refine next_rng (cn := cnt 12) rfl (fun _ => rfl) hlt trivial (.mk ?_ ?_)
          | refine fun h => absurd h (by decide)
          | (refine fun h => ?_; exfalso; simp only [w6, w7, Int.toNat_natCast, Bool.cond_true_left, Bool.cond_false_right, Bool.cond_true_right, Bool.cond_false_left, cond_true, cond_false, Bool.not_true, Bool.not_false, Bool.not_not, Bool.and_true, Bool.true_and, Bool.and_false, Bool.false_and, Bool.or_true, Bool.true_or, Bool.or_false, Bool.false_or, beq_self_eq_true, bne_self_eq_false, Bool.true_eq_false, Bool.false_eq_true, reduceCtorEq, Bool.and_self, Bool.or_self, Int.reduceBEq, Int.reduceBNe, Int.reduceNeg, decide_true, decide_false, Int.reduceLT, Int.reduceLE, Int.reduceGT] at h; done)
          | refine fun (h : @Eq Bool _ _) => ?_
        all_goals first
          | trivial
          | rfl
          | omega
          | exact e1
          | exact w7
          | (simp only [w6, w7, Int.toNat_natCast, Bool.cond_true_left, Bool.cond_false_right, Bool.cond_true_right, Bool.cond_false_left, cond_true, cond_false, Bool.not_true, Bool.not_false, Bool.not_not, Bool.and_true, Bool.true_and, Bool.and_false, Bool.false_and, Bool.or_true, Bool.true_or, Bool.or_false, Bool.false_or, beq_self_eq_true, bne_self_eq_false, Bool.true_eq_false, Bool.false_eq_true, reduceCtorEq, Bool.and_self, Bool.or_self, Int.reduceBEq, Int.reduceBNe, Int.reduceNeg, decide_true, decide_false, Int.reduceLT, Int.reduceLE, Int.reduceGT]; done)
          | (show @Eq Bool _ _; simp only [w6, w7, Int.toNat_natCast, Bool.cond_true_left, Bool.cond_false_right, Bool.cond_true_right, Bool.cond_false_left, cond_true, cond_false, Bool.not_true, Bool.not_false, Bool.not_not, Bool.and_true, Bool.true_and, Bool.and_false, Bool.false_and, Bool.or_true, Bool.true_or, Bool.or_false, Bool.false_or, beq_self_eq_true, bne_self_eq_false, Bool.true_eq_false, Bool.false_eq_true, reduceCtorEq, Bool.and_self, Bool.or_self, Int.reduceBEq, Int.reduceBNe, Int.reduceNeg, decide_true, decide_false, Int.reduceLT, Int.reduceLE, Int.reduceGT]; done)
          | skip
      · have w7 := wideB_f w6
        repeat' first
          | exact PLe.refl _
          | exact BLe.refl _
          | exact PLeL.nil
          | exact BLeL.nil
          | refine ⟨?_, ?_⟩
          | refine PLeL.cons ?_ ?_
          | refine BLeL.cons ?_ ?_
          | refine ple_int ?_
          | refine ple_bool ?_
          | refine ple_tt ?_
          | refine ple_ff ?_
          | refine PLe.aggL ?_
          | refine PLe.tupL ?_
          | refine BLe.cellsL ?_
          | refine next_rng (cn := cnt 12) rfl (fun _ => rfl) hlt trivial (.mk ?_ ?_)
          | refine fun h => absurd h (by decide)
          | (refine fun h => ?_; exfalso; simp only [w6, Int.toNat_natCast, Bool.cond_true_left, Bool.cond_false_right, Bool.cond_true_right, Bool.cond_false_left, cond_true, cond_false, Bool.not_true, Bool.not_false, Bool.not_not, Bool.and_true, Bool.true_and, Bool.and_false, Bool.false_and, Bool.or_true, Bool.true_or, Bool.or_false, Bool.false_or, beq_self_eq_true, bne_self_eq_false, Bool.true_eq_false, Bool.false_eq_true, reduceCtorEq, Bool.and_self, Bool.or_self, Int.reduceBEq, Int.reduceBNe, Int.reduceNeg, decide_true, decide_false, Int.reduceLT, Int.reduceLE, Int.reduceGT] at h; done)
          | refine fun (h : @Eq Bool _ _) => ?_
        all_goals first
          | trivial
          | rfl
          | omega
          | exact e1
          | exact w7.symm
          | (show (0 : Int) ≤ (k : Int); omega)
          | (show (k : Int) < (m : Int); omega)
          | (simp only [w6, Int.toNat_natCast, Bool.cond_true_left, Bool.cond_false_right, Bool.cond_true_right, Bool.cond_false_left, cond_true, cond_false, Bool.not_true, Bool.not_false, Bool.not_not, Bool.and_true, Bool.true_and, Bool.and_false, Bool.false_and, Bool.or_true, Bool.true_or, Bool.or_false, Bool.false_or, beq_self_eq_true, bne_self_eq_false, Bool.true_eq_false, Bool.false_eq_true, reduceCtorEq, Bool.and_self, Bool.or_self, Int.reduceBEq, Int.reduceBNe, Int.reduceNeg, decide_true, decide_false, Int.reduceLT, Int.reduceLE, Int.reduceGT]; done)
          | (show @Eq Bool _ _; simp only [w6, Int.toNat_natCast, Bool.cond_true_left, Bool.cond_false_right, Bool.cond_true_right, Bool.cond_false_left, cond_true, cond_false, Bool.not_true, Bool.not_false, Bool.not_not, Bool.and_true, Bool.true_and, Bool.and_false, Bool.false_and, Bool.or_true, Bool.true_or, Bool.or_false, Bool.false_or, beq_self_eq_true, bne_self_eq_false, Bool.true_eq_false, Bool.false_eq_true, reduceCtorEq, Bool.and_self, Bool.or_self, Int.reduceBEq, Int.reduceBNe, Int.reduceNeg, decide_true, decide_false, Int.reduceLT, Int.reduceLE, Int.reduceGT]; done)
          | skip
    · have hkm : k = m := by
        have : ¬ ((k : Int) < (m : Int)) := of_decide_eq_false h1
        omega
      subst hkm
      clear h1
      repeat' first
        | exact PLe.refl _
        | exact BLe.refl _
        | exact PLeL.nil
        | exact BLeL.nil
        | refine ⟨?_, ?_⟩
        | refine PLeL.cons ?_ ?_
        | refine BLeL.cons ?_ ?_
        | refine ple_int ?_
        | refine ple_bool ?_
        | refine ple_tt ?_
        | refine ple_ff ?_
        | refine PLe.aggL ?_
        | refine PLe.tupL ?_
        | refine BLe.cellsL ?_
        | refine fun h => absurd h (by decide)
        | (refine fun h => ?_; exfalso; simp only [p0, p00, p1, p1y, p2z, p2y, Int.toNat_natCast, Bool.cond_true_left, Bool.cond_false_right, Bool.cond_true_right, Bool.cond_false_left, cond_true, cond_false, Bool.not_true, Bool.not_false, Bool.not_not, Bool.and_true, Bool.true_and, Bool.and_false, Bool.false_and, Bool.or_true, Bool.true_or, Bool.or_false, Bool.false_or, beq_self_eq_true, bne_self_eq_false, Bool.true_eq_false, Bool.false_eq_true, reduceCtorEq, Bool.and_self, Bool.or_self, Int.reduceBEq, Int.reduceBNe, Int.reduceNeg, decide_true, decide_false, Int.reduceLT, Int.reduceLE, Int.reduceGT] at h; done)
        | refine fun (h : @Eq Bool _ _) => ?_
      all_goals first
        | trivial
        | rfl
        | omega
        | exact ⟨rfl, rfl⟩
        | exact ⟨rfl, by omega, fun i hi => rfl⟩
        | exact Nat.zero_add m
        | (intro i hi; rfl)
        | exact w5
        | exact w6
        | exact w7
        | (show (0 + m) * 8 ≤ 140737488355328; omega)
        | (intro i hi; exact absurd hi (by omega))
        | (intro i hi; exact ⟨rfl, rfl⟩)
        | (simp only [p0, p00, p1, p1y, p2z, p2y, Int.toNat_natCast, Bool.cond_true_left, Bool.cond_false_right, Bool.cond_true_right, Bool.cond_false_left, cond_true, cond_false, Bool.not_true, Bool.not_false, Bool.not_not, Bool.and_true, Bool.true_and, Bool.and_false, Bool.false_and, Bool.or_true, Bool.true_or, Bool.or_false, Bool.false_or, beq_self_eq_true, bne_self_eq_false, Bool.true_eq_false, Bool.false_eq_true, reduceCtorEq, Bool.and_self, Bool.or_self, Int.reduceBEq, Int.reduceBNe, Int.reduceNeg, decide_true, decide_false, Int.reduceLT, Int.reduceLE, Int.reduceGT]; done)
        | (show @Eq Bool _ _; simp only [p0, p00, p1, p1y, p2z, p2y, Int.toNat_natCast, Bool.cond_true_left, Bool.cond_false_right, Bool.cond_true_right, Bool.cond_false_left, cond_true, cond_false, Bool.not_true, Bool.not_false, Bool.not_not, Bool.and_true, Bool.true_and, Bool.and_false, Bool.false_and, Bool.or_true, Bool.true_or, Bool.or_false, Bool.false_or, beq_self_eq_true, bne_self_eq_false, Bool.true_eq_false, Bool.false_eq_true, reduceCtorEq, Bool.and_self, Bool.or_self, Int.reduceBEq, Int.reduceBNe, Int.reduceNeg, decide_true, decide_false, Int.reduceLT, Int.reduceLE, Int.reduceGT]; done)
        | skip
  | false =>
    have w5 : wideB m qs 0 = decide (12 < (m : Int)) := by unfold wideB wide0; rw [p5]; cases decide (12 < (m : Int)) <;> rfl
    repeat' first
      | exact PLe.refl _
      | exact BLe.refl _
      | exact PLeL.nil
      | exact BLeL.nil
      | refine ⟨?_, ?_⟩
      | refine PLeL.cons ?_ ?_
      | refine BLeL.cons ?_ ?_
      | refine ple_int ?_
      | refine ple_bool ?_
      | refine ple_tt ?_
      | refine ple_ff ?_
      | refine PLe.aggL ?_
      | refine PLe.tupL ?_
      | refine BLe.cellsL ?_
      | refine halt_rng (cnt 12) m [1, 2, 3, 7, 8, 9, 10, 11, 12] [3, 7] (fun k => [I q, .slice none m fun i => intL (qs i), .ptr 3 0, .ptr 7 0, I (agrE t (decide (0 ≤ q ∧ q ≤ 1000))), I ((rwN (fun i => rwD (famsM t) (qs i)) m).1), I (agrE t (!wideB m qs m)), .bool (wideB m qs k), I (k : Nat)]) (fun k => [.cells (tstC t), .cells (rngL (⟨0, 0⟩))]) (fun _ => True) rfl (.mk ?_ ?_) trivial ?_
      | refine fun h => absurd h (by decide)
      | (refine fun h => ?_; exfalso; simp only [p0, p00, p1, p1y, p2z, p2y, p5, w5, Int.toNat_natCast, Bool.cond_true_left, Bool.cond_false_right, Bool.cond_true_right, Bool.cond_false_left, cond_true, cond_false, Bool.not_true, Bool.not_false, Bool.not_not, Bool.and_true, Bool.true_and, Bool.and_false, Bool.false_and, Bool.or_true, Bool.true_or, Bool.or_false, Bool.false_or, beq_self_eq_true, bne_self_eq_false, Bool.true_eq_false, Bool.false_eq_true, reduceCtorEq, Bool.and_self, Bool.or_self, Int.reduceBEq, Int.reduceBNe, Int.reduceNeg, decide_true, decide_false, Int.reduceLT, Int.reduceLE, Int.reduceGT] at h; done)
      | refine fun (h : @Eq Bool _ _) => ?_
    all_goals first
      | trivial
      | rfl
      | omega
      | exact ⟨rfl, rfl⟩
      | exact ⟨rfl, by omega, fun i hi => rfl⟩
      | exact Nat.zero_add m
      | (intro i hi; rfl)
      | exact w5
      | exact w6
      | exact w7
      | (show (0 + m) * 8 ≤ 140737488355328; omega)
      | (intro i hi; exact absurd hi (by omega))
      | (intro i hi; exact ⟨rfl, rfl⟩)
      | exact w5.symm
      | (simp only [p0, p00, p1, p1y, p2z, p2y, p5, w5, Int.toNat_natCast, Bool.cond_true_left, Bool.cond_false_right, Bool.cond_true_right, Bool.cond_false_left, cond_true, cond_false, Bool.not_true, Bool.not_false, Bool.not_not, Bool.and_true, Bool.true_and, Bool.and_false, Bool.false_and, Bool.or_true, Bool.true_or, Bool.or_false, Bool.false_or, beq_self_eq_true, bne_self_eq_false, Bool.true_eq_false, Bool.false_eq_true, reduceCtorEq, Bool.and_self, Bool.or_self, Int.reduceBEq, Int.reduceBNe, Int.reduceNeg, decide_true, decide_false, Int.reduceLT, Int.reduceLE, Int.reduceGT]; done)
      | (show @Eq Bool _ _; simp only [p0, p00, p1, p1y, p2z, p2y, p5, w5, Int.toNat_natCast, Bool.cond_true_left, Bool.cond_false_right, Bool.cond_true_right, Bool.cond_false_left, cond_true, cond_false, Bool.not_true, Bool.not_false, Bool.not_not, Bool.and_true, Bool.true_and, Bool.and_false, Bool.false_and, Bool.or_true, Bool.true_or, Bool.or_false, Bool.false_or, beq_self_eq_true, bne_self_eq_false, Bool.true_eq_false, Bool.false_eq_true, reduceCtorEq, Bool.and_self, Bool.or_self, Int.reduceBEq, Int.reduceBNe, Int.reduceNeg, decide_true, decide_false, Int.reduceLT, Int.reduceLE, Int.reduceGT]; done)
      | skip
    intro k hk _
    refine ⟨fun h1 => ?_, fun h1 => ?_⟩
    · have hlt : k < m := by
        have : (k : Int) < (m : Int) := of_decide_eq_true h1
        omega
      have e1 := succ_w hlt (by omega)
      clear h1
      refine (Bool.eq_false_or_eq_true (wideB m qs k)).elim (fun w6 => ?_) fun w6 => ?_
      · have w7 := wideB_t w6
        repeat' first
          | exact PLe.refl _
          | exact BLe.refl _
          | exact PLeL.nil
          | exact BLeL.nil
          | refine ⟨?_, ?_⟩
          | refine PLeL.cons ?_ ?_
          | refine BLeL.cons ?_ ?_
          | refine ple_int ?_
          | refine ple_bool ?_
          | refine ple_tt ?_
          | refine ple_ff ?_
          | refine PLe.aggL ?_
          | refine PLe.tupL ?_
          | refine BLe.cellsL ?_
          | refine next_rng (cn := cnt 12) rfl (fun _ => rfl) hlt trivial (.mk ?_ ?_)
          | refine fun h => absurd h (by decide)
          | (refine fun h => ?_; exfalso; simp only [w6, w7, Int.toNat_natCast, Bool.cond_true_left, Bool.cond_false_right, Bool.cond_true_right, Bool.cond_false_left, cond_true, cond_false, Bool.not_true, Bool.not_false, Bool.not_not, Bool.and_true, Bool.true_and, Bool.and_false, Bool.false_and, Bool.or_true, Bool.true_or, Bool.or_false, Bool.false_or, beq_self_eq_true, bne_self_eq_false, Bool.true_eq_false, Bool.false_eq_true, reduceCtorEq, Bool.and_self, Bool.or_self, Int.reduceBEq, Int.reduceBNe, Int.reduceNeg, decide_true, decide_false, Int.reduceLT, Int.reduceLE, Int.reduceGT] at h; done)
          | refine fun (h : @Eq Bool _ _) => ?_
        all_goals first
          | trivial
          | rfl
          | omega
          | exact e1
          | exact w7
          | (simp only [w6, w7, Int.toNat_natCast, Bool.cond_true_left, Bool.cond_false_right, Bool.cond_true_right, Bool.cond_false_left, cond_true, cond_false, Bool.not_true, Bool.not_false, Bool.not_not, Bool.and_true, Bool.true_and, Bool.and_false, Bool.false_and, Bool.or_true, Bool.true_or, Bool.or_false, Bool.false_or, beq_self_eq_true, bne_self_eq_false, Bool.true_eq_false, Bool.false_eq_true, reduceCtorEq, Bool.and_self, Bool.or_self, Int.reduceBEq, Int.reduceBNe, Int.reduceNeg, decide_true, decide_false, Int.reduceLT, Int.reduceLE, Int.reduceGT]; done)
          | (show @Eq Bool _ _; simp only [w6, w7, Int.toNat_natCast, Bool.cond_true_left, Bool.cond_false_right, Bool.cond_true_right, Bool.cond_false_left, cond_true, cond_false, Bool.not_true, Bool.not_false, Bool.not_not, Bool.and_true, Bool.true_and, Bool.and_false, Bool.false_and, Bool.or_true, Bool.true_or, Bool.or_false, Bool.false_or, beq_self_eq_true, bne_self_eq_false, Bool.true_eq_false, Bool.false_eq_true, reduceCtorEq, Bool.and_self, Bool.or_self, Int.reduceBEq, Int.reduceBNe, Int.reduceNeg, decide_true, decide_false, Int.reduceLT, Int.reduceLE, Int.reduceGT]; done)
          | skip
      · have w7 := wideB_f w6
        repeat' first
          | exact PLe.refl _
          | exact BLe.refl _
          | exact PLeL.nil
          | exact BLeL.nil
          | refine ⟨?_, ?_⟩
          | refine PLeL.cons ?_ ?_
          | refine BLeL.cons ?_ ?_
          | refine ple_int ?_
          | refine ple_bool ?_
          | refine ple_tt ?_
          | refine ple_ff ?_
          | refine PLe.aggL ?_
          | refine PLe.tupL ?_
          | refine BLe.cellsL ?_
          | refine next_rng (cn := cnt 12) rfl (fun _ => rfl) hlt trivial (.mk ?_ ?_)
          | refine fun h => absurd h (by decide)
          | (refine fun h => ?_; exfalso; simp only [w6, Int.toNat_natCast, Bool.cond_true_left, Bool.cond_false_right, Bool.cond_true_right, Bool.cond_false_left, cond_true, cond_false, Bool.not_true, Bool.not_false, Bool.not_not, Bool.and_true, Bool.true_and, Bool.and_false, Bool.false_and, Bool.or_true, Bool.true_or, Bool.or_false, Bool.false_or, beq_self_eq_true, bne_self_eq_false, Bool.true_eq_false, Bool.false_eq_true, reduceCtorEq, Bool.and_self, Bool.or_self, Int.reduceBEq, Int.reduceBNe, Int.reduceNeg, decide_true, decide_false, Int.reduceLT, Int.reduceLE, Int.reduceGT] at h; done)
          | refine fun (h : @Eq Bool _ _) => ?_
        all_goals first
          | trivial
          | rfl
          | omega
          | exact e1
          | exact w7.symm
          | (show (0 : Int) ≤ (k : Int); omega)
          | (show (k : Int) < (m : Int); omega)
          | (simp only [w6, Int.toNat_natCast, Bool.cond_true_left, Bool.cond_false_right, Bool.cond_true_right, Bool.cond_false_left, cond_true, cond_false, Bool.not_true, Bool.not_false, Bool.not_not, Bool.and_true, Bool.true_and, Bool.and_false, Bool.false_and, Bool.or_true, Bool.true_or, Bool.or_false, Bool.false_or, beq_self_eq_true, bne_self_eq_false, Bool.true_eq_false, Bool.false_eq_true, reduceCtorEq, Bool.and_self, Bool.or_self, Int.reduceBEq, Int.reduceBNe, Int.reduceNeg, decide_true, decide_false, Int.reduceLT, Int.reduceLE, Int.reduceGT]; done)
          | (show @Eq Bool _ _; simp only [w6, Int.toNat_natCast, Bool.cond_true_left, Bool.cond_false_right, Bool.cond_true_right, Bool.cond_false_left, cond_true, cond_false, Bool.not_true, Bool.not_false, Bool.not_not, Bool.and_true, Bool.true_and, Bool.and_false, Bool.false_and, Bool.or_true, Bool.true_or, Bool.or_false, Bool.false_or, beq_self_eq_true, bne_self_eq_false, Bool.true_eq_false, Bool.false_eq_true, reduceCtorEq, Bool.and_self, Bool.or_self, Int.reduceBEq, Int.reduceBNe, Int.reduceNeg, decide_true, decide_false, Int.reduceLT, Int.reduceLE, Int.reduceGT]; done)
          | skip
    · have hkm : k = m := by
        have : ¬ ((k : Int) < (m : Int)) := of_decide_eq_false h1
        omega
      subst hkm
      clear h1
      repeat' first
        | exact PLe.refl _
        | exact BLe.refl _
        | exact PLeL.nil
        | exact BLeL.nil
        | refine ⟨?_, ?_⟩
        | refine PLeL.cons ?_ ?_
        | refine BLeL.cons ?_ ?_
        | refine ple_int ?_
        | refine ple_bool ?_
        | refine ple_tt ?_
        | refine ple_ff ?_
        | refine PLe.aggL ?_
        | refine PLe.tupL ?_
        | refine BLe.cellsL ?_
        | refine fun h => absurd h (by decide)
        | (refine fun h => ?_; exfalso; simp only [p0, p00, p1, p1y, p2z, p2y, Int.toNat_natCast, Bool.cond_true_left, Bool.cond_false_right, Bool.cond_true_right, Bool.cond_false_left, cond_true, cond_false, Bool.not_true, Bool.not_false, Bool.not_not, Bool.and_true, Bool.true_and, Bool.and_false, Bool.false_and, Bool.or_true, Bool.true_or, Bool.or_false, Bool.false_or, beq_self_eq_true, bne_self_eq_false, Bool.true_eq_false, Bool.false_eq_true, reduceCtorEq, Bool.and_self, Bool.or_self, Int.reduceBEq, Int.reduceBNe, Int.reduceNeg, decide_true, decide_false, Int.reduceLT, Int.reduceLE, Int.reduceGT] at h; done)
        | refine fun (h : @Eq Bool _ _) => ?_
      all_goals first
        | trivial
        | rfl
        | omega
        | exact ⟨rfl, rfl⟩
        | exact ⟨rfl, by omega, fun i hi => rfl⟩
        | exact Nat.zero_add m
        | (intro i hi; rfl)
        | exact w5
        | exact w6
        | exact w7
        | (show (0 + m) * 8 ≤ 140737488355328; omega)
        | (intro i hi; exact absurd hi (by omega))
        | (intro i hi; exact ⟨rfl, rfl⟩)
        | (simp only [p0, p00, p1, p1y, p2z, p2y, Int.toNat_natCast, Bool.cond_true_left, Bool.cond_false_right, Bool.cond_true_right, Bool.cond_false_left, cond_true, cond_false, Bool.not_true, Bool.not_false, Bool.not_not, Bool.and_true, Bool.true_and, Bool.and_false, Bool.false_and, Bool.or_true, Bool.true_or, Bool.or_false, Bool.false_or, beq_self_eq_true, bne_self_eq_false, Bool.true_eq_false, Bool.false_eq_true, reduceCtorEq, Bool.and_self, Bool.or_self, Int.reduceBEq, Int.reduceBNe, Int.reduceNeg, decide_true, decide_false, Int.reduceLT, Int.reduceLE, Int.reduceGT]; done)
        | (show @Eq Bool _ _; simp only [p0, p00, p1, p1y, p2z, p2y, Int.toNat_natCast, Bool.cond_true_left, Bool.cond_false_right, Bool.cond_true_right, Bool.cond_false_left, cond_true, cond_false, Bool.not_true, Bool.not_false, Bool.not_not, Bool.and_true, Bool.true_and, Bool.and_false, Bool.false_and, Bool.or_true, Bool.true_or, Bool.or_false, Bool.false_or, beq_self_eq_true, bne_self_eq_false, Bool.true_eq_false, Bool.false_eq_true, reduceCtorEq, Bool.and_self, Bool.or_self, Int.reduceBEq, Int.reduceBNe, Int.reduceNeg, decide_true, decide_false, Int.reduceLT, Int.reduceLE, Int.reduceGT]; done)
        | skip
set_option maxRecDepth 20000 in
set_option maxHeartbeats 4000000 in
theorem drops10 (t : Tst) (q : Int) (m : Nat) (qs : Nat → Int) (hn : t.n ≤ 20) (hm : m ≤ 20) (p1 : (agrE t (decide (0 ≤ q ∧ q ≤ 1000)) != 0) = false) (p2 : (agrE t (!wideB m qs m) != 0) = true) : SF Try.prog 4 (V.atS [.agg (tstC t), I q, .slice none m fun i => intL (qs i)] (.bool true)) := by
  have p0 : decide ((20 : Int) < (t.n : Int)) = false := decide_eq_false (by omega)
  have p00 : decide ((20 : Int) < (m : Int)) = false := decide_eq_false (by omega)
  have p1z : agrE t (decide (0 ≤ q ∧ q ≤ 1000)) = 0 := by simpa using p1
  have p1y : (agrE t (decide (0 ≤ q ∧ q ≤ 1000)) == 0) = true := by rw [p1z]; rfl
  have p2y : (agrE t (!wideB m qs m) == 0) = false := by simpa using p2
  refine sf_gen types_ok mixed (l := [(18, V.atS [] (.bool true)), (20, V.atS [.agg (tstC t)] (.agg (tstC t))), (25, ask2S t), (30, withinS), (28, V.atS [.agg (tstC t), I q] (.tup [encR (encL (dropF q) (famsM t)), I (agrE t (decide (0 ≤ q ∧ q ≤ 1000)))])), (29, listS t qs m (.tup [I (0), I (agrE t (!wideB m qs m))])), (31, V.atS [.agg (tstC t), I q] (.tup [encR (encL (dropF q) (famsM t)), .bool (Nat.blt 0 (famsM t).length)])), (27, rangeS)]) ⟨sf18, c20 t (by omega), sf25b t (by omega), sf30, (by have := c28 t q (by omega); rw [show agrLst t (flowB q) = famsM t from (agrE_ok p1).2.1] at this; exact this), (by refine sf_list ?_; have := c29 t qs m (by omega) (by omega); rw [show widM t qs m = 0 from (by unfold widM; rw [wideB_end, p2]; rfl), wideB_end] at this; exact this), c31 t q (agrE_ok p1).1, sf27, trivial⟩ (es := []) trivial (its := []) trivial (fr := []) trivial [] [] false [] [] 3 Try.func4 rfl (by kernel_rfl) fun args h => ?_
  have h : args = _ := h
  subst h
  refine ⟨rfl, ?_⟩
  show evalCode _ _ _ fun o => match o with
    | .normal st | .ret st => withP _ (_ ∧ PLe _ (.bool true))
    | _ => False
  cases p5 : decide ((m : Int) < 1) with
  | true =>
    have w5 : wideB m qs 0 = true := by unfold wideB wide0; rw [p5]; rfl
    repeat' first
      | exact PLe.refl _
      | exact BLe.refl _
      | exact PLeL.nil
      | exact BLeL.nil
      | refine ⟨?_, ?_⟩
      | refine PLeL.cons ?_ ?_
      | refine BLeL.cons ?_ ?_
      | refine ple_int ?_
      | refine ple_bool ?_
      | refine ple_tt ?_
      | refine ple_ff ?_
      | refine PLe.aggL ?_
      | refine PLe.tupL ?_
      | refine BLe.cellsL ?_
      | refine halt_rng (cnt 12) m [1, 2, 3, 7, 8, 9, 10, 11, 12] [3, 7] (fun k => [I q, .slice none m fun i => intL (qs i), .ptr 3 0, .ptr 7 0, I (agrE t (decide (0 ≤ q ∧ q ≤ 1000))), I (0), I (agrE t (!wideB m qs m)), .bool (wideB m qs k), I (k : Nat)]) (fun k => [.cells (tstC t), .cells (rngL (encL (dropF q) (famsM t)))]) (fun _ => True) rfl (.mk ?_ ?_) trivial ?_
      | refine fun h => absurd h (by decide)
      | (refine fun h => ?_; exfalso; simp only [p0, p00, p1z, p1y, p2, p2y, p5, w5, Int.toNat_natCast, Bool.cond_true_left, Bool.cond_false_right, Bool.cond_true_right, Bool.cond_false_left, cond_true, cond_false, Bool.not_true, Bool.not_false, Bool.not_not, Bool.and_true, Bool.true_and, Bool.and_false, Bool.false_and, Bool.or_true, Bool.true_or, Bool.or_false, Bool.false_or, beq_self_eq_true, bne_self_eq_false, Bool.true_eq_false, Bool.false_eq_true, reduceCtorEq, Bool.and_self, Bool.or_self, Int.reduceBEq, Int.reduceBNe, Int.reduceNeg, decide_true, decide_false, Int.reduceLT, Int.reduceLE, Int.reduceGT] at h; done)
      | refine fun (h : @Eq Bool _ _) => ?_
    all_goals first
      | trivial
      | rfl
      | omega
      | exact ⟨rfl, rfl⟩
      | exact ⟨rfl, by omega, fun i hi => rfl⟩
      | exact Nat.zero_add m
      | (intro i hi; rfl)
      | exact w5
      | exact w6
      | exact w7
      | (show (0 + m) * 8 ≤ 140737488355328; omega)
      | (intro i hi; exact absurd hi (by omega))
      | (intro i hi; exact ⟨rfl, rfl⟩)
      | (simp only [p0, p00, p1z, p1y, p2, p2y, p5, w5, Int.toNat_natCast, Bool.cond_true_left, Bool.cond_false_right, Bool.cond_true_right, Bool.cond_false_left, cond_true, cond_false, Bool.not_true, Bool.not_false, Bool.not_not, Bool.and_true, Bool.true_and, Bool.and_false, Bool.false_and, Bool.or_true, Bool.true_or, Bool.or_false, Bool.false_or, beq_self_eq_true, bne_self_eq_false, Bool.true_eq_false, Bool.false_eq_true, reduceCtorEq, Bool.and_self, Bool.or_self, Int.reduceBEq, Int.reduceBNe, Int.reduceNeg, decide_true, decide_false, Int.reduceLT, Int.reduceLE, Int.reduceGT]; done)
      | (show @Eq Bool _ _; simp only [p0, p00, p1z, p1y, p2, p2y, p5, w5, Int.toNat_natCast, Bool.cond_true_left, Bool.cond_false_right, Bool.cond_true_right, Bool.cond_false_left, cond_true, cond_false, Bool.not_true, Bool.not_false, Bool.not_not, Bool.and_true, Bool.true_and, Bool.and_false, Bool.false_and, Bool.or_true, Bool.true_or, Bool.or_false, Bool.false_or, beq_self_eq_true, bne_self_eq_false, Bool.true_eq_false, Bool.false_eq_true, reduceCtorEq, Bool.and_self, Bool.or_self, Int.reduceBEq, Int.reduceBNe, Int.reduceNeg, decide_true, decide_false, Int.reduceLT, Int.reduceLE, Int.reduceGT]; done)
      | skip
    intro k hk _
    refine ⟨fun h1 => ?_, fun h1 => ?_⟩
    · have hlt : k < m := by
        have : (k : Int) < (m : Int) := of_decide_eq_true h1
        omega
      have e1 := succ_w hlt (by omega)
      clear h1
      refine (Bool.eq_false_or_eq_true (wideB m qs k)).elim (fun w6 => ?_) fun w6 => ?_
      · have w7 := wideB_t w6
        repeat' first
          | exact PLe.refl _
          | exact BLe.refl _
          | exact PLeL.nil
          | exact BLeL.nil
          | refine ⟨?_, ?_⟩
          | refine PLeL.cons ?_ ?_
          | refine BLeL.cons ?_ ?_
          | refine ple_int ?_
          | refine ple_bool ?_
          | refine ple_tt ?_
          | refine ple_ff ?_
          | refine PLe.aggL ?_
          | refine PLe.tupL ?_
          | refine BLe.cellsL ?_
          | refine next_rng (cn := cnt 12) rfl (fun _ => rfl) hlt trivial (.mk ?_ ?_)
          | refine fun h => absurd h (by decide)
          | (refine fun h => ?_; exfalso; simp only [w6, w7, Int.toNat_natCast, Bool.cond_true_left, Bool.cond_false_right, Bool.cond_true_right, Bool.cond_false_left, cond_true, cond_false, Bool.not_true, Bool.not_false, Bool.not_not, Bool.and_true, Bool.true_and, Bool.and_false, Bool.false_and, Bool.or_true, Bool.true_or, Bool.or_false, Bool.false_or, beq_self_eq_true, bne_self_eq_false, Bool.true_eq_false, Bool.false_eq_true, reduceCtorEq, Bool.and_self, Bool.or_self, Int.reduceBEq, Int.reduceBNe, Int.reduceNeg, decide_true, decide_false, Int.reduceLT, Int.reduceLE, Int.reduceGT] at h; done)
          | refine fun (h : @Eq Bool _ _) => ?_
        all_goals first
          | trivial
          | rfl
          | omega
          | exact e1
          | exact w7
          | (simp only [w6, w7, Int.toNat_natCast, Bool.cond_true_left, Bool.cond_false_right, Bool.cond_true_right, Bool.cond_false_left, cond_true, cond_false, Bool.not_true, Bool.not_false, Bool.not_not, Bool.and_true, Bool.true_and, Bool.and_false, Bool.false_and, Bool.or_true, Bool.true_or, Bool.or_false, Bool.false_or, beq_self_eq_true, bne_self_eq_false, Bool.true_eq_false, Bool.false_eq_true, reduceCtorEq, Bool.and_self, Bool.or_self, Int.reduceBEq, Int.reduceBNe, Int.reduceNeg, decide_true, decide_false, Int.reduceLT, Int.reduceLE, Int.reduceGT]; done)
          | (show @Eq Bool _ _; simp only [w6, w7, Int.toNat_natCast, Bool.cond_true_left, Bool.cond_false_right, Bool.cond_true_right, Bool.cond_false_left, cond_true, cond_false, Bool.not_true, Bool.not_false, Bool.not_not, Bool.and_true, Bool.true_and, Bool.and_false, Bool.false_and, Bool.or_true, Bool.true_or, Bool.or_false, Bool.false_or, beq_self_eq_true, bne_self_eq_false, Bool.true_eq_false, Bool.false_eq_true, reduceCtorEq, Bool.and_self, Bool.or_self, Int.reduceBEq, Int.reduceBNe, Int.reduceNeg, decide_true, decide_false, Int.reduceLT, Int.reduceLE, Int.reduceGT]; done)
          | skip
      · have w7 := wideB_f w6
        repeat' first
          | exact PLe.refl _
          | exact BLe.refl _
          | exact PLeL.nil
          | exact BLeL.nil
          | refine ⟨?_, ?_⟩
          | refine PLeL.cons ?_ ?_
          | refine BLeL.cons ?_ ?_
          | refine ple_int ?_
          | refine ple_bool ?_
          | refine ple_tt ?_
          | refine ple_ff ?_
          | refine PLe.aggL ?_
          | refine PLe.tupL ?_
          | refine BLe.cellsL ?_
          | refine next_rng (cn := cnt 12) rfl (fun _ => rfl) hlt trivial (.mk ?_ ?_)
          | refine fun h => absurd h (by decide)
          | (refine fun h => ?_; exfalso; simp only [w6, Int.toNat_natCast, Bool.cond_true_left, Bool.cond_false_right, Bool.cond_true_right, Bool.cond_false_left, cond_true, cond_false, Bool.not_true, Bool.not_false, Bool.not_not, Bool.and_true, Bool.true_and, Bool.and_false, Bool.false_and, Bool.or_true, Bool.true_or, Bool.or_false, Bool.false_or, beq_self_eq_true, bne_self_eq_false, Bool.true_eq_false, Bool.false_eq_true, reduceCtorEq, Bool.and_self, Bool.or_self, Int.reduceBEq, Int.reduceBNe, Int.reduceNeg, decide_true, decide_false, Int.reduceLT, Int.reduceLE, Int.reduceGT] at h; done)
          | refine fun (h : @Eq Bool _ _) => ?_
        all_goals first
          | trivial
          | rfl
          | omega
          | exact e1
          | exact w7.symm
          | (show (0 : Int) ≤ (k : Int); omega)
          | (show (k : Int) < (m : Int); omega)
          | (simp only [w6, Int.toNat_natCast, Bool.cond_true_left, Bool.cond_false_right, Bool.cond_true_right, Bool.cond_false_left, cond_true, cond_false, Bool.not_true, Bool.not_false, Bool.not_not, Bool.and_true, Bool.true_and, Bool.and_false, Bool.false_and, Bool.or_true, Bool.true_or, Bool.or_false, Bool.false_or, beq_self_eq_true, bne_self_eq_false, Bool.true_eq_false, Bool.false_eq_true, reduceCtorEq, Bool.and_self, Bool.or_self, Int.reduceBEq, Int.reduceBNe, Int.reduceNeg, decide_true, decide_false, Int.reduceLT, Int.reduceLE, Int.reduceGT]; done)
          | (show @Eq Bool _ _; simp only [w6, Int.toNat_natCast, Bool.cond_true_left, Bool.cond_false_right, Bool.cond_true_right, Bool.cond_false_left, cond_true, cond_false, Bool.not_true, Bool.not_false, Bool.not_not, Bool.and_true, Bool.true_and, Bool.and_false, Bool.false_and, Bool.or_true, Bool.true_or, Bool.or_false, Bool.false_or, beq_self_eq_true, bne_self_eq_false, Bool.true_eq_false, Bool.false_eq_true, reduceCtorEq, Bool.and_self, Bool.or_self, Int.reduceBEq, Int.reduceBNe, Int.reduceNeg, decide_true, decide_false, Int.reduceLT, Int.reduceLE, Int.reduceGT]; done)
          | skip
    · have hkm : k = m := by
        have : ¬ ((k : Int) < (m : Int)) := of_decide_eq_false h1
        omega
      subst hkm
      clear h1
      repeat' first
        | exact PLe.refl _
        | exact BLe.refl _
        | exact PLeL.nil
        | exact BLeL.nil
        | refine ⟨?_, ?_⟩
        | refine PLeL.cons ?_ ?_
        | refine BLeL.cons ?_ ?_
        | refine ple_int ?_
        | refine ple_bool ?_
        | refine ple_tt ?_
        | refine ple_ff ?_
        | refine PLe.aggL ?_
        | refine PLe.tupL ?_
        | refine BLe.cellsL ?_
        | refine fun h => absurd h (by decide)
        | (refine fun h => ?_; exfalso; simp only [p0, p00, p1z, p1y, p2, p2y, Int.toNat_natCast, Bool.cond_true_left, Bool.cond_false_right, Bool.cond_true_right, Bool.cond_false_left, cond_true, cond_false, Bool.not_true, Bool.not_false, Bool.not_not, Bool.and_true, Bool.true_and, Bool.and_false, Bool.false_and, Bool.or_true, Bool.true_or, Bool.or_false, Bool.false_or, beq_self_eq_true, bne_self_eq_false, Bool.true_eq_false, Bool.false_eq_true, reduceCtorEq, Bool.and_self, Bool.or_self, Int.reduceBEq, Int.reduceBNe, Int.reduceNeg, decide_true, decide_false, Int.reduceLT, Int.reduceLE, Int.reduceGT] at h; done)
        | refine fun (h : @Eq Bool _ _) => ?_
      all_goals first
        | trivial
        | rfl
        | omega
        | exact ⟨rfl, rfl⟩
        | exact ⟨rfl, by omega, fun i hi => rfl⟩
        | exact Nat.zero_add m
        | (intro i hi; rfl)
        | exact w5
        | exact w6
        | exact w7
        | (show (0 + m) * 8 ≤ 140737488355328; omega)
        | (intro i hi; exact absurd hi (by omega))
        | (intro i hi; exact ⟨rfl, rfl⟩)
        | (simp only [p0, p00, p1z, p1y, p2, p2y, Int.toNat_natCast, Bool.cond_true_left, Bool.cond_false_right, Bool.cond_true_right, Bool.cond_false_left, cond_true, cond_false, Bool.not_true, Bool.not_false, Bool.not_not, Bool.and_true, Bool.true_and, Bool.and_false, Bool.false_and, Bool.or_true, Bool.true_or, Bool.or_false, Bool.false_or, beq_self_eq_true, bne_self_eq_false, Bool.true_eq_false, Bool.false_eq_true, reduceCtorEq, Bool.and_self, Bool.or_self, Int.reduceBEq, Int.reduceBNe, Int.reduceNeg, decide_true, decide_false, Int.reduceLT, Int.reduceLE, Int.reduceGT]; done)
        | (show @Eq Bool _ _; simp only [p0, p00, p1z, p1y, p2, p2y, Int.toNat_natCast, Bool.cond_true_left, Bool.cond_false_right, Bool.cond_true_right, Bool.cond_false_left, cond_true, cond_false, Bool.not_true, Bool.not_false, Bool.not_not, Bool.and_true, Bool.true_and, Bool.and_false, Bool.false_and, Bool.or_true, Bool.true_or, Bool.or_false, Bool.false_or, beq_self_eq_true, bne_self_eq_false, Bool.true_eq_false, Bool.false_eq_true, reduceCtorEq, Bool.and_self, Bool.or_self, Int.reduceBEq, Int.reduceBNe, Int.reduceNeg, decide_true, decide_false, Int.reduceLT, Int.reduceLE, Int.reduceGT]; done)
        | skip
  | false =>
    have w5 : wideB m qs 0 = decide (12 < (m : Int)) := by unfold wideB wide0; rw [p5]; cases decide (12 < (m : Int)) <;> rfl
    repeat' first
      | exact PLe.refl _
      | exact BLe.refl _
      | exact PLeL.nil
      | exact BLeL.nil
      | refine ⟨?_, ?_⟩
      | refine PLeL.cons ?_ ?_
      | refine BLeL.cons ?_ ?_
      | refine ple_int ?_
      | refine ple_bool ?_
      | refine ple_tt ?_
      | refine ple_ff ?_
      | refine PLe.aggL ?_
      | refine PLe.tupL ?_
      | refine BLe.cellsL ?_
      | refine halt_rng (cnt 12) m [1, 2, 3, 7, 8, 9, 10, 11, 12] [3, 7] (fun k => [I q, .slice none m fun i => intL (qs i), .ptr 3 0, .ptr 7 0, I (agrE t (decide (0 ≤ q ∧ q ≤ 1000))), I (0), I (agrE t (!wideB m qs m)), .bool (wideB m qs k), I (k : Nat)]) (fun k => [.cells (tstC t), .cells (rngL (encL (dropF q) (famsM t)))]) (fun _ => True) rfl (.mk ?_ ?_) trivial ?_
      | refine fun h => absurd h (by decide)
      | (refine fun h => ?_; exfalso; simp only [p0, p00, p1z, p1y, p2, p2y, p5, w5, Int.toNat_natCast, Bool.cond_true_left, Bool.cond_false_right, Bool.cond_true_right, Bool.cond_false_left, cond_true, cond_false, Bool.not_true, Bool.not_false, Bool.not_not, Bool.and_true, Bool.true_and, Bool.and_false, Bool.false_and, Bool.or_true, Bool.true_or, Bool.or_false, Bool.false_or, beq_self_eq_true, bne_self_eq_false, Bool.true_eq_false, Bool.false_eq_true, reduceCtorEq, Bool.and_self, Bool.or_self, Int.reduceBEq, Int.reduceBNe, Int.reduceNeg, decide_true, decide_false, Int.reduceLT, Int.reduceLE, Int.reduceGT] at h; done)
      | refine fun (h : @Eq Bool _ _) => ?_
    all_goals first
      | trivial
      | rfl
      | omega
      | exact ⟨rfl, rfl⟩
      | exact ⟨rfl, by omega, fun i hi => rfl⟩
      | exact Nat.zero_add m
      | (intro i hi; rfl)
      | exact w5
      | exact w6
      | exact w7
      | (show (0 + m) * 8 ≤ 140737488355328; omega)
      | (intro i hi; exact absurd hi (by omega))
      | (intro i hi; exact ⟨rfl, rfl⟩)
      | exact w5.symm
      | (simp only [p0, p00, p1z, p1y, p2, p2y, p5, w5, Int.toNat_natCast, Bool.cond_true_left, Bool.cond_false_right, Bool.cond_true_right, Bool.cond_false_left, cond_true, cond_false, Bool.not_true, Bool.not_false, Bool.not_not, Bool.and_true, Bool.true_and, Bool.and_false, Bool.false_and, Bool.or_true, Bool.true_or, Bool.or_false, Bool.false_or, beq_self_eq_true, bne_self_eq_false, Bool.true_eq_false, Bool.false_eq_true, reduceCtorEq, Bool.and_self, Bool.or_self, Int.reduceBEq, Int.reduceBNe, Int.reduceNeg, decide_true, decide_false, Int.reduceLT, Int.reduceLE, Int.reduceGT]; done)
      | (show @Eq Bool _ _; simp only [p0, p00, p1z, p1y, p2, p2y, p5, w5, Int.toNat_natCast, Bool.cond_true_left, Bool.cond_false_right, Bool.cond_true_right, Bool.cond_false_left, cond_true, cond_false, Bool.not_true, Bool.not_false, Bool.not_not, Bool.and_true, Bool.true_and, Bool.and_false, Bool.false_and, Bool.or_true, Bool.true_or, Bool.or_false, Bool.false_or, beq_self_eq_true, bne_self_eq_false, Bool.true_eq_false, Bool.false_eq_true, reduceCtorEq, Bool.and_self, Bool.or_self, Int.reduceBEq, Int.reduceBNe, Int.reduceNeg, decide_true, decide_false, Int.reduceLT, Int.reduceLE, Int.reduceGT]; done)
      | skip
    intro k hk _
    refine ⟨fun h1 => ?_, fun h1 => ?_⟩
    · have hlt : k < m := by
        have : (k : Int) < (m : Int) := of_decide_eq_true h1
        omega
      have e1 := succ_w hlt (by omega)
      clear h1
      refine (Bool.eq_false_or_eq_true (wideB m qs k)).elim (fun w6 => ?_) fun w6 => ?_
      · have w7 := wideB_t w6
        repeat' first
          | exact PLe.refl _
          | exact BLe.refl _
          | exact PLeL.nil
          | exact BLeL.nil
          | refine ⟨?_, ?_⟩
          | refine PLeL.cons ?_ ?_
          | refine BLeL.cons ?_ ?_
          | refine ple_int ?_
          | refine ple_bool ?_
          | refine ple_tt ?_
          | refine ple_ff ?_
          | refine PLe.aggL ?_
          | refine PLe.tupL ?_
          | refine BLe.cellsL ?_
          | refine next_rng (cn := cnt 12) rfl (fun _ => rfl) hlt trivial (.mk ?_ ?_)
          | refine fun h => absurd h (by decide)
          | (refine fun h => ?_; exfalso; simp only [w6, w7, Int.toNat_natCast, Bool.cond_true_left, Bool.cond_false_right, Bool.cond_true_right, Bool.cond_false_left, cond_true, cond_false, Bool.not_true, Bool.not_false, Bool.not_not, Bool.and_true, Bool.true_and, Bool.and_false, Bool.false_and, Bool.or_true, Bool.true_or, Bool.or_false, Bool.false_or, beq_self_eq_true, bne_self_eq_false, Bool.true_eq_false, Bool.false_eq_true, reduceCtorEq, Bool.and_self, Bool.or_self, Int.reduceBEq, Int.reduceBNe, Int.reduceNeg, decide_true, decide_false, Int.reduceLT, Int.reduceLE, Int.reduceGT] at h; done)
          | refine fun (h : @Eq Bool _ _) => ?_
        all_goals first
          | trivial
          | rfl
          | omega
          | exact e1
          | exact w7
          | (simp only [w6, w7, Int.toNat_natCast, Bool.cond_true_left, Bool.cond_false_right, Bool.cond_true_right, Bool.cond_false_left, cond_true, cond_false, Bool.not_true, Bool.not_false, Bool.not_not, Bool.and_true, Bool.true_and, Bool.and_false, Bool.false_and, Bool.or_true, Bool.true_or, Bool.or_false, Bool.false_or, beq_self_eq_true, bne_self_eq_false, Bool.true_eq_false, Bool.false_eq_true, reduceCtorEq, Bool.and_self, Bool.or_self, Int.reduceBEq, Int.reduceBNe, Int.reduceNeg, decide_true, decide_false, Int.reduceLT, Int.reduceLE, Int.reduceGT]; done)
          | (show @Eq Bool _ _; simp only [w6, w7, Int.toNat_natCast, Bool.cond_true_left, Bool.cond_false_right, Bool.cond_true_right, Bool.cond_false_left, cond_true, cond_false, Bool.not_true, Bool.not_false, Bool.not_not, Bool.and_true, Bool.true_and, Bool.and_false, Bool.false_and, Bool.or_true, Bool.true_or, Bool.or_false, Bool.false_or, beq_self_eq_true, bne_self_eq_false, Bool.true_eq_false, Bool.false_eq_true, reduceCtorEq, Bool.and_self, Bool.or_self, Int.reduceBEq, Int.reduceBNe, Int.reduceNeg, decide_true, decide_false, Int.reduceLT, Int.reduceLE, Int.reduceGT]; done)
          | skip
      · have w7 := wideB_f w6
        repeat' first
          | exact PLe.refl _
          | exact BLe.refl _
          | exact PLeL.nil
          | exact BLeL.nil
          | refine ⟨?_, ?_⟩
          | refine PLeL.cons ?_ ?_
          | refine BLeL.cons ?_ ?_
          | refine ple_int ?_
          | refine ple_bool ?_
          | refine ple_tt ?_
          | refine ple_ff ?_
          | refine PLe.aggL ?_
          | refine PLe.tupL ?_
          | refine BLe.cellsL ?_
          | refine next_rng (cn := cnt 12) rfl (fun _ => rfl) hlt trivial (.mk ?_ ?_)
          | refine fun h => absurd h (by decide)
          | (refine fun h => ?_; exfalso; simp only [w6, Int.toNat_natCast, Bool.cond_true_left, Bool.cond_false_right, Bool.cond_true_right, Bool.cond_false_left, cond_true, cond_false, Bool.not_true, Bool.not_false, Bool.not_not, Bool.and_true, Bool.true_and, Bool.and_false, Bool.false_and, Bool.or_true, Bool.true_or, Bool.or_false, Bool.false_or, beq_self_eq_true, bne_self_eq_false, Bool.true_eq_false, Bool.false_eq_true, reduceCtorEq, Bool.and_self, Bool.or_self, Int.reduceBEq, Int.reduceBNe, Int.reduceNeg, decide_true, decide_false, Int.reduceLT, Int.reduceLE, Int.reduceGT] at h; done)
          | refine fun (h : @Eq Bool _ _) => ?_
        all_goals first
          | trivial
          | rfl
          | omega
          | exact e1
          | exact w7.symm
          | (show (0 : Int) ≤ (k : Int); omega)
          | (show (k : Int) < (m : Int); omega)
          | (simp only [w6, Int.toNat_natCast, Bool.cond_true_left, Bool.cond_false_right, Bool.cond_true_right, Bool.cond_false_left, cond_true, cond_false, Bool.not_true, Bool.not_false, Bool.not_not, Bool.and_true, Bool.true_and, Bool.and_false, Bool.false_and, Bool.or_true, Bool.true_or, Bool.or_false, Bool.false_or, beq_self_eq_true, bne_self_eq_false, Bool.true_eq_false, Bool.false_eq_true, reduceCtorEq, Bool.and_self, Bool.or_self, Int.reduceBEq, Int.reduceBNe, Int.reduceNeg, decide_true, decide_false, Int.reduceLT, Int.reduceLE, Int.reduceGT]; done)
          | (show @Eq Bool _ _; simp only [w6, Int.toNat_natCast, Bool.cond_true_left, Bool.cond_false_right, Bool.cond_true_right, Bool.cond_false_left, cond_true, cond_false, Bool.not_true, Bool.not_false, Bool.not_not, Bool.and_true, Bool.true_and, Bool.and_false, Bool.false_and, Bool.or_true, Bool.true_or, Bool.or_false, Bool.false_or, beq_self_eq_true, bne_self_eq_false, Bool.true_eq_false, Bool.false_eq_true, reduceCtorEq, Bool.and_self, Bool.or_self, Int.reduceBEq, Int.reduceBNe, Int.reduceNeg, decide_true, decide_false, Int.reduceLT, Int.reduceLE, Int.reduceGT]; done)
          | skip
    · have hkm : k = m := by
        have : ¬ ((k : Int) < (m : Int)) := of_decide_eq_false h1
        omega
      subst hkm
      clear h1
      repeat' first
        | exact PLe.refl _
        | exact BLe.refl _
        | exact PLeL.nil
        | exact BLeL.nil
        | refine ⟨?_, ?_⟩
        | refine PLeL.cons ?_ ?_
        | refine BLeL.cons ?_ ?_
        | refine ple_int ?_
        | refine ple_bool ?_
        | refine ple_tt ?_
        | refine ple_ff ?_
        | refine PLe.aggL ?_
        | refine PLe.tupL ?_
        | refine BLe.cellsL ?_
        | refine fun h => absurd h (by decide)
        | (refine fun h => ?_; exfalso; simp only [p0, p00, p1z, p1y, p2, p2y, Int.toNat_natCast, Bool.cond_true_left, Bool.cond_false_right, Bool.cond_true_right, Bool.cond_false_left, cond_true, cond_false, Bool.not_true, Bool.not_false, Bool.not_not, Bool.and_true, Bool.true_and, Bool.and_false, Bool.false_and, Bool.or_true, Bool.true_or, Bool.or_false, Bool.false_or, beq_self_eq_true, bne_self_eq_false, Bool.true_eq_false, Bool.false_eq_true, reduceCtorEq, Bool.and_self, Bool.or_self, Int.reduceBEq, Int.reduceBNe, Int.reduceNeg, decide_true, decide_false, Int.reduceLT, Int.reduceLE, Int.reduceGT] at h; done)
        | refine fun (h : @Eq Bool _ _) => ?_
      all_goals first
        | trivial
        | rfl
        | omega
        | exact ⟨rfl, rfl⟩
        | exact ⟨rfl, by omega, fun i hi => rfl⟩
        | exact Nat.zero_add m
        | (intro i hi; rfl)
        | exact w5
        | exact w6
        | exact w7
        | (show (0 + m) * 8 ≤ 140737488355328; omega)
        | (intro i hi; exact absurd hi (by omega))
        | (intro i hi; exact ⟨rfl, rfl⟩)
        | (simp only [p0, p00, p1z, p1y, p2, p2y, Int.toNat_natCast, Bool.cond_true_left, Bool.cond_false_right, Bool.cond_true_right, Bool.cond_false_left, cond_true, cond_false, Bool.not_true, Bool.not_false, Bool.not_not, Bool.and_true, Bool.true_and, Bool.and_false, Bool.false_and, Bool.or_true, Bool.true_or, Bool.or_false, Bool.false_or, beq_self_eq_true, bne_self_eq_false, Bool.true_eq_false, Bool.false_eq_true, reduceCtorEq, Bool.and_self, Bool.or_self, Int.reduceBEq, Int.reduceBNe, Int.reduceNeg, decide_true, decide_false, Int.reduceLT, Int.reduceLE, Int.reduceGT]; done)
        | (show @Eq Bool _ _; simp only [p0, p00, p1z, p1y, p2, p2y, Int.toNat_natCast, Bool.cond_true_left, Bool.cond_false_right, Bool.cond_true_right, Bool.cond_false_left, cond_true, cond_false, Bool.not_true, Bool.not_false, Bool.not_not, Bool.and_true, Bool.true_and, Bool.and_false, Bool.false_and, Bool.or_true, Bool.true_or, Bool.or_false, Bool.false_or, beq_self_eq_true, bne_self_eq_false, Bool.true_eq_false, Bool.false_eq_true, reduceCtorEq, Bool.and_self, Bool.or_self, Int.reduceBEq, Int.reduceBNe, Int.reduceNeg, decide_true, decide_false, Int.reduceLT, Int.reduceLE, Int.reduceGT]; done)
        | skip
set_option maxRecDepth 20000 in
set_option maxHeartbeats 4000000 in
theorem drops11 (t : Tst) (q : Int) (m : Nat) (qs : Nat → Int) (hn : t.n ≤ 20) (hm : m ≤ 20) (p1 : (agrE t (decide (0 ≤ q ∧ q ≤ 1000)) != 0) = false) (p2 : (agrE t (!wideB m qs m) != 0) = false) : SF Try.prog 4 (V.atS [.agg (tstC t), I q, .slice none m fun i => intL (qs i)] (.bool true)) := by
  have p0 : decide ((20 : Int) < (t.n : Int)) = false := decide_eq_false (by omega)
  have p00 : decide ((20 : Int) < (m : Int)) = false := decide_eq_false (by omega)
  have p1z : agrE t (decide (0 ≤ q ∧ q ≤ 1000)) = 0 := by simpa using p1
  have p1y : (agrE t (decide (0 ≤ q ∧ q ≤ 1000)) == 0) = true := by rw [p1z]; rfl
  have p2z : agrE t (!wideB m qs m) = 0 := by simpa using p2
  have p2y : (agrE t (!wideB m qs m) == 0) = true := by rw [p2z]; rfl
  refine sf_gen types_ok mixed (l := [(18, V.atS [] (.bool true)), (20, V.atS [.agg (tstC t)] (.agg (tstC t))), (25, ask2S t), (30, withinS), (28, V.atS [.agg (tstC t), I q] (.tup [encR (encL (dropF q) (famsM t)), I (agrE t (decide (0 ≤ q ∧ q ≤ 1000)))])), (29, listS t qs m (.tup [I ((rwN (fun i => rwD (famsM t) (qs i)) m).1), I (agrE t (!wideB m qs m))])), (31, V.atS [.agg (tstC t), I q] (.tup [encR (encL (dropF q) (famsM t)), .bool (Nat.blt 0 (famsM t).length)])), (27, rangeS), (32, V.atS [.agg (tstC t), .slice none m fun i => intL (qs i)] (I ((rwN (fun i => rwD (famsM t) (qs i)) m).1)))]) ⟨sf18, c20 t (by omega), sf25b t (by omega), sf30, (by have := c28 t q (by omega); rw [show agrLst t (flowB q) = famsM t from (agrE_ok p1).2.1] at this; exact this), (by refine sf_list ?_; have := c29 t qs m (by omega) (by omega); rw [show widM t qs m = (rwN (fun i => rwD (famsM t) (qs i)) m).1 from wid_eq (by rw [wideB_end]; exact p2), wideB_end] at this; exact this), c31 t q (agrE_ok p1).1, sf27, c32 t qs m (agrE_ok p2).1 (by omega), trivial⟩ (es := []) trivial (its := []) trivial (fr := []) trivial [] [] false [] [] 3 Try.func4 rfl (by kernel_rfl) fun args h => ?_
  have h : args = _ := h
  subst h
  refine ⟨rfl, ?_⟩
  show evalCode _ _ _ fun o => match o with
    | .normal st | .ret st => withP _ (_ ∧ PLe _ (.bool true))
    | _ => False
  cases p5 : decide ((m : Int) < 1) with
  | true =>
    have w5 : wideB m qs 0 = true := by unfold wideB wide0; rw [p5]; rfl
    repeat' first
      | exact PLe.refl _
      | exact BLe.refl _
      | exact PLeL.nil
      | exact BLeL.nil
      | refine ⟨?_, ?_⟩
      | refine PLeL.cons ?_ ?_
      | refine BLeL.cons ?_ ?_
      | refine ple_int ?_
      | refine ple_bool ?_
      | refine ple_tt ?_
      | refine ple_ff ?_
      | refine PLe.aggL ?_
      | refine PLe.tupL ?_
      | refine BLe.cellsL ?_
      | refine halt_rng (cnt 12) m [1, 2, 3, 7, 8, 9, 10, 11, 12] [3, 7] (fun k => [I q, .slice none m fun i => intL (qs i), .ptr 3 0, .ptr 7 0, I (agrE t (decide (0 ≤ q ∧ q ≤ 1000))), I ((rwN (fun i => rwD (famsM t) (qs i)) m).1), I (agrE t (!wideB m qs m)), .bool (wideB m qs k), I (k : Nat)]) (fun k => [.cells (tstC t), .cells (rngL (encL (dropF q) (famsM t)))]) (fun _ => True) rfl (.mk ?_ ?_) trivial ?_
      | refine fun h => absurd h (by decide)
      | (refine fun h => ?_; exfalso; simp only [p0, p00, p1z, p1y, p2z, p2y, p5, w5, Int.toNat_natCast, Bool.cond_true_left, Bool.cond_false_right, Bool.cond_true_right, Bool.cond_false_left, cond_true, cond_false, Bool.not_true, Bool.not_false, Bool.not_not, Bool.and_true, Bool.true_and, Bool.and_false, Bool.false_and, Bool.or_true, Bool.true_or, Bool.or_false, Bool.false_or, beq_self_eq_true, bne_self_eq_false, Bool.true_eq_false, Bool.false_eq_true, reduceCtorEq, Bool.and_self, Bool.or_self, Int.reduceBEq, Int.reduceBNe, Int.reduceNeg, decide_true, decide_false, Int.reduceLT, Int.reduceLE, Int.reduceGT] at h; done)
      | refine fun (h : @Eq Bool _ _) => ?_
    all_goals first
      | trivial
      | rfl
      | omega
      | exact ⟨rfl, rfl⟩
      | exact ⟨rfl, by omega, fun i hi => rfl⟩
      | exact Nat.zero_add m
      | (intro i hi; rfl)
      | exact w5
      | exact w6
      | exact w7
      | (show (0 + m) * 8 ≤ 140737488355328; omega)
      | (intro i hi; exact absurd hi (by omega))
      | (intro i hi; exact ⟨rfl, rfl⟩)
      | (simp only [p0, p00, p1z, p1y, p2z, p2y, p5, w5, Int.toNat_natCast, Bool.cond_true_left, Bool.cond_false_right, Bool.cond_true_right, Bool.cond_false_left, cond_true, cond_false, Bool.not_true, Bool.not_false, Bool.not_not, Bool.and_true, Bool.true_and, Bool.and_false, Bool.false_and, Bool.or_true, Bool.true_or, Bool.or_false, Bool.false_or, beq_self_eq_true, bne_self_eq_false, Bool.true_eq_false, Bool.false_eq_true, reduceCtorEq, Bool.and_self, Bool.or_self, Int.reduceBEq, Int.reduceBNe, Int.reduceNeg, decide_true, decide_false, Int.reduceLT, Int.reduceLE, Int.reduceGT]; done)
      | (show @Eq Bool _ _; simp only [p0, p00, p1z, p1y, p2z, p2y, p5, w5, Int.toNat_natCast, Bool.cond_true_left, Bool.cond_false_right, Bool.cond_true_right, Bool.cond_false_left, cond_true, cond_false, Bool.not_true, Bool.not_false, Bool.not_not, Bool.and_true, Bool.true_and, Bool.and_false, Bool.false_and, Bool.or_true, Bool.true_or, Bool.or_false, Bool.false_or, beq_self_eq_true, bne_self_eq_false, Bool.true_eq_false, Bool.false_eq_true, reduceCtorEq, Bool.and_self, Bool.or_self, Int.reduceBEq, Int.reduceBNe, Int.reduceNeg, decide_true, decide_false, Int.reduceLT, Int.reduceLE, Int.reduceGT]; done)
      | skip
    intro k hk _
    refine ⟨fun h1 => ?_, fun h1 => ?_⟩
    · have hlt : k < m := by
        have : (k : Int) < (m : Int) := of_decide_eq_true h1
        omega
      have e1 := succ_w hlt (by omega)
      clear h1
      refine (Bool.eq_false_or_eq_true (wideB m qs k)).elim (fun w6 => ?_) fun w6 => ?_
      · have w7 := wideB_t w6
        repeat' first
          | exact PLe.refl _
          | exact BLe.refl _
          | exact PLeL.nil
          | exact BLeL.nil
          | refine ⟨?_, ?_⟩
          | refine PLeL.cons ?_ ?_
          | refine BLeL.cons ?_ ?_
          | refine ple_int ?_
          | refine ple_bool ?_
          | refine ple_tt ?_
          | refine ple_ff ?_
          | refine PLe.aggL ?_
          | refine PLe.tupL ?_
          | refine BLe.cellsL ?_
          | refine next_rng (cn := cnt 12) rfl (fun _ => rfl) hlt trivial (.mk ?_ ?_)
          | refine fun h => absurd h (by decide)
          | (refine fun h => ?_; exfalso; simp only [w6, w7, Int.toNat_natCast, Bool.cond_true_left, Bool.cond_false_right, Bool.cond_true_right, Bool.cond_false_left, cond_true, cond_false, Bool.not_true, Bool.not_false, Bool.not_not, Bool.and_true, Bool.true_and, Bool.and_false, Bool.false_and, Bool.or_true, Bool.true_or, Bool.or_false, Bool.false_or, beq_self_eq_true, bne_self_eq_false, Bool.true_eq_false, Bool.false_eq_true, reduceCtorEq, Bool.and_self, Bool.or_self, Int.reduceBEq, Int.reduceBNe, Int.reduceNeg, decide_true, decide_false, Int.reduceLT, Int.reduceLE, Int.reduceGT] at h; done)
          | refine fun (h : @Eq Bool _ _) => ?_
        all_goals first
          | trivial
          | rfl
          | omega
          | exact e1
          | exact w7
          | (simp only [w6, w7, Int.toNat_natCast, Bool.cond_true_left, Bool.cond_false_right, Bool.cond_true_right, Bool.cond_false_left, cond_true, cond_false, Bool.not_true, Bool.not_false, Bool.not_not, Bool.and_true, Bool.true_and, Bool.and_false, Bool.false_and, Bool.or_true, Bool.true_or, Bool.or_false, Bool.false_or, beq_self_eq_true, bne_self_eq_false, Bool.true_eq_false, Bool.false_eq_true, reduceCtorEq, Bool.and_self, Bool.or_self, Int.reduceBEq, Int.reduceBNe, Int.reduceNeg, decide_true, decide_false, Int.reduceLT, Int.reduceLE, Int.reduceGT]; done)
          | (show @Eq Bool _ _; simp only [w6, w7, Int.toNat_natCast, Bool.cond_true_left, Bool.cond_false_right, Bool.cond_true_right, Bool.cond_false_left, cond_true, cond_false, Bool.not_true, Bool.not_false, Bool.not_not, Bool.and_true, Bool.true_and, Bool.and_false, Bool.false_and, Bool.or_true, Bool.true_or, Bool.or_false, Bool.false_or, beq_self_eq_true, bne_self_eq_false, Bool.true_eq_false, Bool.false_eq_true, reduceCtorEq, Bool.and_self, Bool.or_self, Int.reduceBEq, Int.reduceBNe, Int.reduceNeg, decide_true, decide_false, Int.reduceLT, Int.reduceLE, Int.reduceGT]; done)
          | skip
      · have w7 := wideB_f w6
        repeat' first
          | exact PLe.refl _
          | exact BLe.refl _
          | exact PLeL.nil
          | exact BLeL.nil
          | refine ⟨?_, ?_⟩
          | refine PLeL.cons ?_ ?_
          | refine BLeL.cons ?_ ?_
          | refine ple_int ?_
          | refine ple_bool ?_
          | refine ple_tt ?_
          | refine ple_ff ?_
          | refine PLe.aggL ?_
          | refine PLe.tupL ?_
          | refine BLe.cellsL ?_
          | refine next_rng (cn := cnt 12) rfl (fun _ => rfl) hlt trivial (.mk ?_ ?_)
          | refine fun h => absurd h (by decide)
          | (refine fun h => ?_; exfalso; simp only [w6, Int.toNat_natCast, Bool.cond_true_left, Bool.cond_false_right, Bool.cond_true_right, Bool.cond_false_left, cond_true, cond_false, Bool.not_true, Bool.not_false, Bool.not_not, Bool.and_true, Bool.true_and, Bool.and_false, Bool.false_and, Bool.or_true, Bool.true_or, Bool.or_false, Bool.false_or, beq_self_eq_true, bne_self_eq_false, Bool.true_eq_false, Bool.false_eq_true, reduceCtorEq, Bool.and_self, Bool.or_self, Int.reduceBEq, Int.reduceBNe, Int.reduceNeg, decide_true, decide_false, Int.reduceLT, Int.reduceLE, Int.reduceGT] at h; done)
          | refine fun (h : @Eq Bool _ _) => ?_
        all_goals first
          | trivial
          | rfl
          | omega
          | exact e1
          | exact w7.symm
          | (show (0 : Int) ≤ (k : Int); omega)
          | (show (k : Int) < (m : Int); omega)
          | (simp only [w6, Int.toNat_natCast, Bool.cond_true_left, Bool.cond_false_right, Bool.cond_true_right, Bool.cond_false_left, cond_true, cond_false, Bool.not_true, Bool.not_false, Bool.not_not, Bool.and_true, Bool.true_and, Bool.and_false, Bool.false_and, Bool.or_true, Bool.true_or, Bool.or_false, Bool.false_or, beq_self_eq_true, bne_self_eq_false, Bool.true_eq_false, Bool.false_eq_true, reduceCtorEq, Bool.and_self, Bool.or_self, Int.reduceBEq, Int.reduceBNe, Int.reduceNeg, decide_true, decide_false, Int.reduceLT, Int.reduceLE, Int.reduceGT]; done)
          | (show @Eq Bool _ _; simp only [w6, Int.toNat_natCast, Bool.cond_true_left, Bool.cond_false_right, Bool.cond_true_right, Bool.cond_false_left, cond_true, cond_false, Bool.not_true, Bool.not_false, Bool.not_not, Bool.and_true, Bool.true_and, Bool.and_false, Bool.false_and, Bool.or_true, Bool.true_or, Bool.or_false, Bool.false_or, beq_self_eq_true, bne_self_eq_false, Bool.true_eq_false, Bool.false_eq_true, reduceCtorEq, Bool.and_self, Bool.or_self, Int.reduceBEq, Int.reduceBNe, Int.reduceNeg, decide_true, decide_false, Int.reduceLT, Int.reduceLE, Int.reduceGT]; done)
          | skip
    · have hkm : k = m := by
        have : ¬ ((k : Int) < (m : Int)) := of_decide_eq_false h1
        omega
      subst hkm
      clear h1
      repeat' first
        | exact PLe.refl _
        | exact BLe.refl _
        | exact PLeL.nil
        | exact BLeL.nil
        | refine ⟨?_, ?_⟩
        | refine PLeL.cons ?_ ?_
        | refine BLeL.cons ?_ ?_
        | refine ple_int ?_
        | refine ple_bool ?_
        | refine ple_tt ?_
        | refine ple_ff ?_
        | refine PLe.aggL ?_
        | refine PLe.tupL ?_
        | refine BLe.cellsL ?_
        | refine fun h => absurd h (by decide)
        | (refine fun h => ?_; exfalso; simp only [p0, p00, p1z, p1y, p2z, p2y, Int.toNat_natCast, Bool.cond_true_left, Bool.cond_false_right, Bool.cond_true_right, Bool.cond_false_left, cond_true, cond_false, Bool.not_true, Bool.not_false, Bool.not_not, Bool.and_true, Bool.true_and, Bool.and_false, Bool.false_and, Bool.or_true, Bool.true_or, Bool.or_false, Bool.false_or, beq_self_eq_true, bne_self_eq_false, Bool.true_eq_false, Bool.false_eq_true, reduceCtorEq, Bool.and_self, Bool.or_self, Int.reduceBEq, Int.reduceBNe, Int.reduceNeg, decide_true, decide_false, Int.reduceLT, Int.reduceLE, Int.reduceGT] at h; done)
        | refine fun (h : @Eq Bool _ _) => ?_
      all_goals first
        | trivial
        | rfl
        | omega
        | exact ⟨rfl, rfl⟩
        | exact ⟨rfl, by omega, fun i hi => rfl⟩
        | exact Nat.zero_add m
        | (intro i hi; rfl)
        | exact w5
        | exact w6
        | exact w7
        | (show (0 + m) * 8 ≤ 140737488355328; omega)
        | (intro i hi; exact absurd hi (by omega))
        | (intro i hi; exact ⟨rfl, rfl⟩)
        | (simp only [p0, p00, p1z, p1y, p2z, p2y, Int.toNat_natCast, Bool.cond_true_left, Bool.cond_false_right, Bool.cond_true_right, Bool.cond_false_left, cond_true, cond_false, Bool.not_true, Bool.not_false, Bool.not_not, Bool.and_true, Bool.true_and, Bool.and_false, Bool.false_and, Bool.or_true, Bool.true_or, Bool.or_false, Bool.false_or, beq_self_eq_true, bne_self_eq_false, Bool.true_eq_false, Bool.false_eq_true, reduceCtorEq, Bool.and_self, Bool.or_self, Int.reduceBEq, Int.reduceBNe, Int.reduceNeg, decide_true, decide_false, Int.reduceLT, Int.reduceLE, Int.reduceGT]; done)
        | (show @Eq Bool _ _; simp only [p0, p00, p1z, p1y, p2z, p2y, Int.toNat_natCast, Bool.cond_true_left, Bool.cond_false_right, Bool.cond_true_right, Bool.cond_false_left, cond_true, cond_false, Bool.not_true, Bool.not_false, Bool.not_not, Bool.and_true, Bool.true_and, Bool.and_false, Bool.false_and, Bool.or_true, Bool.true_or, Bool.or_false, Bool.false_or, beq_self_eq_true, bne_self_eq_false, Bool.true_eq_false, Bool.false_eq_true, reduceCtorEq, Bool.and_self, Bool.or_self, Int.reduceBEq, Int.reduceBNe, Int.reduceNeg, decide_true, decide_false, Int.reduceLT, Int.reduceLE, Int.reduceGT]; done)
        | skip
  | false =>
    have w5 : wideB m qs 0 = decide (12 < (m : Int)) := by unfold wideB wide0; rw [p5]; cases decide (12 < (m : Int)) <;> rfl
    repeat' first
      | exact PLe.refl _
      | exact BLe.refl _
      | exact PLeL.nil
      | exact BLeL.nil
      | refine ⟨?_, ?_⟩
      | refine PLeL.cons ?_ ?_
      | refine BLeL.cons ?_ ?_
      | refine ple_int ?_
      | refine ple_bool ?_
      | refine ple_tt ?_
      | refine ple_ff ?_
      | refine PLe.aggL ?_
      | refine PLe.tupL ?_
      | refine BLe.cellsL ?_
      | refine halt_rng (cnt 12) m [1, 2, 3, 7, 8, 9, 10, 11, 12] [3, 7] (fun k => [I q, .slice none m fun i => intL (qs i), .ptr 3 0, .ptr 7 0, I (agrE t (decide (0 ≤ q ∧ q ≤ 1000))), I ((rwN (fun i => rwD (famsM t) (qs i)) m).1), I (agrE t (!wideB m qs m)), .bool (wideB m qs k), I (k : Nat)]) (fun k => [.cells (tstC t), .cells (rngL (encL (dropF q) (famsM t)))]) (fun _ => True) rfl (.mk ?_ ?_) trivial ?_
      | refine fun h => absurd h (by decide)
      | (refine fun h => ?_; exfalso; simp only [p0, p00, p1z, p1y, p2z, p2y, p5, w5, Int.toNat_natCast, Bool.cond_true_left, Bool.cond_false_right, Bool.cond_true_right, Bool.cond_false_left, cond_true, cond_false, Bool.not_true, Bool.not_false, Bool.not_not, Bool.and_true, Bool.true_and, Bool.and_false, Bool.false_and, Bool.or_true, Bool.true_or, Bool.or_false, Bool.false_or, beq_self_eq_true, bne_self_eq_false, Bool.true_eq_false, Bool.false_eq_true, reduceCtorEq, Bool.and_self, Bool.or_self, Int.reduceBEq, Int.reduceBNe, Int.reduceNeg, decide_true, decide_false, Int.reduceLT, Int.reduceLE, Int.reduceGT] at h; done)
      | refine fun (h : @Eq Bool _ _) => ?_
    all_goals first
      | trivial
      | rfl
      | omega
      | exact ⟨rfl, rfl⟩
      | exact ⟨rfl, by omega, fun i hi => rfl⟩
      | exact Nat.zero_add m
      | (intro i hi; rfl)
      | exact w5
      | exact w6
      | exact w7
      | (show (0 + m) * 8 ≤ 140737488355328; omega)
      | (intro i hi; exact absurd hi (by omega))
      | (intro i hi; exact ⟨rfl, rfl⟩)
      | exact w5.symm
      | (simp only [p0, p00, p1z, p1y, p2z, p2y, p5, w5, Int.toNat_natCast, Bool.cond_true_left, Bool.cond_false_right, Bool.cond_true_right, Bool.cond_false_left, cond_true, cond_false, Bool.not_true, Bool.not_false, Bool.not_not, Bool.and_true, Bool.true_and, Bool.and_false, Bool.false_and, Bool.or_true, Bool.true_or, Bool.or_false, Bool.false_or, beq_self_eq_true, bne_self_eq_false, Bool.true_eq_false, Bool.false_eq_true, reduceCtorEq, Bool.and_self, Bool.or_self, Int.reduceBEq, Int.reduceBNe, Int.reduceNeg, decide_true, decide_false, Int.reduceLT, Int.reduceLE, Int.reduceGT]; done)
      | (show @Eq Bool _ _; simp only [p0, p00, p1z, p1y, p2z, p2y, p5, w5, Int.toNat_natCast, Bool.cond_true_left, Bool.cond_false_right, Bool.cond_true_right, Bool.cond_false_left, cond_true, cond_false, Bool.not_true, Bool.not_false, Bool.not_not, Bool.and_true, Bool.true_and, Bool.and_false, Bool.false_and, Bool.or_true, Bool.true_or, Bool.or_false, Bool.false_or, beq_self_eq_true, bne_self_eq_false, Bool.true_eq_false, Bool.false_eq_true, reduceCtorEq, Bool.and_self, Bool.or_self, Int.reduceBEq, Int.reduceBNe, Int.reduceNeg, decide_true, decide_false, Int.reduceLT, Int.reduceLE, Int.reduceGT]; done)
      | skip
    intro k hk _
    refine ⟨fun h1 => ?_, fun h1 => ?_⟩
    · have hlt : k < m := by
        have : (k : Int) < (m : Int) := of_decide_eq_true h1
        omega
      have e1 := succ_w hlt (by omega)
      clear h1
      refine (Bool.eq_false_or_eq_true (wideB m qs k)).elim (fun w6 => ?_) fun w6 => ?_
      · have w7 := wideB_t w6
        repeat' first
          | exact PLe.refl _
          | exact BLe.refl _
          | exact PLeL.nil
          | exact BLeL.nil
          | refine ⟨?_, ?_⟩
          | refine PLeL.cons ?_ ?_
          | refine BLeL.cons ?_ ?_
          | refine ple_int ?_
          | refine ple_bool ?_
          | refine ple_tt ?_
          | refine ple_ff ?_
          | refine PLe.aggL ?_
          | refine PLe.tupL ?_
          | refine BLe.cellsL ?_
          | refine next_rng (cn := cnt 12) rfl (fun _ => rfl) hlt trivial (.mk ?_ ?_)
          | refine fun h => absurd h (by decide)
          | (refine fun h => ?_; exfalso; simp only [w6, w7, Int.toNat_natCast, Bool.cond_true_left, Bool.cond_false_right, Bool.cond_true_right, Bool.cond_false_left, cond_true, cond_false, Bool.not_true, Bool.not_false, Bool.not_not, Bool.and_true, Bool.true_and, Bool.and_false, Bool.false_and, Bool.or_true, Bool.true_or, Bool.or_false, Bool.false_or, beq_self_eq_true, bne_self_eq_false, Bool.true_eq_false, Bool.false_eq_true, reduceCtorEq, Bool.and_self, Bool.or_self, Int.reduceBEq, Int.reduceBNe, Int.reduceNeg, decide_true, decide_false, Int.reduceLT, Int.reduceLE, Int.reduceGT] at h; done)
          | refine fun (h : @Eq Bool _ _) => ?_
        all_goals first
          | trivial
          | rfl
          | omega
          | exact e1
          | exact w7
          | (simp only [w6, w7, Int.toNat_natCast, Bool.cond_true_left, Bool.cond_false_right, Bool.cond_true_right, Bool.cond_false_left, cond_true, cond_false, Bool.not_true, Bool.not_false, Bool.not_not, Bool.and_true, Bool.true_and, Bool.and_false, Bool.false_and, Bool.or_true, Bool.true_or, Bool.or_false, Bool.false_or, beq_self_eq_true, bne_self_eq_false, Bool.true_eq_false, Bool.false_eq_true, reduceCtorEq, Bool.and_self, Bool.or_self, Int.reduceBEq, Int.reduceBNe, Int.reduceNeg, decide_true, decide_false, Int.reduceLT, Int.reduceLE, Int.reduceGT]; done)
          | (show @Eq Bool _ _; simp only [w6, w7, Int.toNat_natCast, Bool.cond_true_left, Bool.cond_false_right, Bool.cond_true_right, Bool.cond_false_left, cond_true, cond_false, Bool.not_true, Bool.not_false, Bool.not_not, Bool.and_true, Bool.true_and, Bool.and_false, Bool.false_and, Bool.or_true, Bool.true_or, Bool.or_false, Bool.false_or, beq_self_eq_true, bne_self_eq_false, Bool.true_eq_false, Bool.false_eq_true, reduceCtorEq, Bool.and_self, Bool.or_self, Int.reduceBEq, Int.reduceBNe, Int.reduceNeg, decide_true, decide_false, Int.reduceLT, Int.reduceLE, Int.reduceGT]; done)
          | skip
      · have w7 := wideB_f w6
        repeat' first
          | exact PLe.refl _
          | exact BLe.refl _
          | exact PLeL.nil
          | exact BLeL.nil
          | refine ⟨?_, ?_⟩
          | refine PLeL.cons ?_ ?_
          | refine BLeL.cons ?_ ?_
          | refine ple_int ?_
          | refine ple_bool ?_
          | refine ple_tt ?_
          | refine ple_ff ?_
          | refine PLe.aggL ?_
          | refine PLe.tupL ?_
          | refine BLe.cellsL ?_
          | refine next_rng (cn := cnt 12) rfl (fun _ => rfl) hlt trivial (.mk ?_ ?_)
          | refine fun h => absurd h (by decide)
          | (refine fun h => ?_; exfalso; simp only [w6, Int.toNat_natCast, Bool.cond_true_left, Bool.cond_false_right, Bool.cond_true_right, Bool.cond_false_left, cond_true, cond_false, Bool.not_true, Bool.not_false, Bool.not_not, Bool.and_true, Bool.true_and, Bool.and_false, Bool.false_and, Bool.or_true, Bool.true_or, Bool.or_false, Bool.false_or, beq_self_eq_true, bne_self_eq_false, Bool.true_eq_false, Bool.false_eq_true, reduceCtorEq, Bool.and_self, Bool.or_self, Int.reduceBEq, Int.reduceBNe, Int.reduceNeg, decide_true, decide_false, Int.reduceLT, Int.reduceLE, Int.reduceGT] at h; done)
          | refine fun (h : @Eq Bool _ _) => ?_
        all_goals first
          | trivial
          | rfl
          | omega
          | exact e1
          | exact w7.symm
          | (show (0 : Int) ≤ (k : Int); omega)
          | (show (k : Int) < (m : Int); omega)
          | (simp only [w6, Int.toNat_natCast, Bool.cond_true_left, Bool.cond_false_right, Bool.cond_true_right, Bool.cond_false_left, cond_true, cond_false, Bool.not_true, Bool.not_false, Bool.not_not, Bool.and_true, Bool.true_and, Bool.and_false, Bool.false_and, Bool.or_true, Bool.true_or, Bool.or_false, Bool.false_or, beq_self_eq_true, bne_self_eq_false, Bool.true_eq_false, Bool.false_eq_true, reduceCtorEq, Bool.and_self, Bool.or_self, Int.reduceBEq, Int.reduceBNe, Int.reduceNeg, decide_true, decide_false, Int.reduceLT, Int.reduceLE, Int.reduceGT]; done)
          | (show @Eq Bool _ _; simp only [w6, Int.toNat_natCast, Bool.cond_true_left, Bool.cond_false_right, Bool.cond_true_right, Bool.cond_false_left, cond_true, cond_false, Bool.not_true, Bool.not_false, Bool.not_not, Bool.and_true, Bool.true_and, Bool.and_false, Bool.false_and, Bool.or_true, Bool.true_or, Bool.or_false, Bool.false_or, beq_self_eq_true, bne_self_eq_false, Bool.true_eq_false, Bool.false_eq_true, reduceCtorEq, Bool.and_self, Bool.or_self, Int.reduceBEq, Int.reduceBNe, Int.reduceNeg, decide_true, decide_false, Int.reduceLT, Int.reduceLE, Int.reduceGT]; done)
          | skip
    · have hkm : k = m := by
        have : ¬ ((k : Int) < (m : Int)) := of_decide_eq_false h1
        omega
      subst hkm
      clear h1
      repeat' first
        | exact PLe.refl _
        | exact BLe.refl _
        | exact PLeL.nil
        | exact BLeL.nil
        | refine ⟨?_, ?_⟩
        | refine PLeL.cons ?_ ?_
        | refine BLeL.cons ?_ ?_
        | refine ple_int ?_
        | refine ple_bool ?_
        | refine ple_tt ?_
        | refine ple_ff ?_
        | refine PLe.aggL ?_
        | refine PLe.tupL ?_
        | refine BLe.cellsL ?_
        | refine fun h => absurd h (by decide)
        | (refine fun h => ?_; exfalso; simp only [p0, p00, p1z, p1y, p2z, p2y, Int.toNat_natCast, Bool.cond_true_left, Bool.cond_false_right, Bool.cond_true_right, Bool.cond_false_left, cond_true, cond_false, Bool.not_true, Bool.not_false, Bool.not_not, Bool.and_true, Bool.true_and, Bool.and_false, Bool.false_and, Bool.or_true, Bool.true_or, Bool.or_false, Bool.false_or, beq_self_eq_true, bne_self_eq_false, Bool.true_eq_false, Bool.false_eq_true, reduceCtorEq, Bool.and_self, Bool.or_self, Int.reduceBEq, Int.reduceBNe, Int.reduceNeg, decide_true, decide_false, Int.reduceLT, Int.reduceLE, Int.reduceGT] at h; done)
        | refine fun (h : @Eq Bool _ _) => ?_
      all_goals first
        | trivial
        | rfl
        | omega
        | exact ⟨rfl, rfl⟩
        | exact ⟨rfl, by omega, fun i hi => rfl⟩
        | exact Nat.zero_add m
        | (intro i hi; rfl)
        | exact w5
        | exact w6
        | exact w7
        | (show (0 + m) * 8 ≤ 140737488355328; omega)
        | (intro i hi; exact absurd hi (by omega))
        | (intro i hi; exact ⟨rfl, rfl⟩)
        | (simp only [p0, p00, p1z, p1y, p2z, p2y, Int.toNat_natCast, Bool.cond_true_left, Bool.cond_false_right, Bool.cond_true_right, Bool.cond_false_left, cond_true, cond_false, Bool.not_true, Bool.not_false, Bool.not_not, Bool.and_true, Bool.true_and, Bool.and_false, Bool.false_and, Bool.or_true, Bool.true_or, Bool.or_false, Bool.false_or, beq_self_eq_true, bne_self_eq_false, Bool.true_eq_false, Bool.false_eq_true, reduceCtorEq, Bool.and_self, Bool.or_self, Int.reduceBEq, Int.reduceBNe, Int.reduceNeg, decide_true, decide_false, Int.reduceLT, Int.reduceLE, Int.reduceGT]; done)
        | (show @Eq Bool _ _; simp only [p0, p00, p1z, p1y, p2z, p2y, Int.toNat_natCast, Bool.cond_true_left, Bool.cond_false_right, Bool.cond_true_right, Bool.cond_false_left, cond_true, cond_false, Bool.not_true, Bool.not_false, Bool.not_not, Bool.and_true, Bool.true_and, Bool.and_false, Bool.false_and, Bool.or_true, Bool.true_or, Bool.or_false, Bool.false_or, beq_self_eq_true, bne_self_eq_false, Bool.true_eq_false, Bool.false_eq_true, reduceCtorEq, Bool.and_self, Bool.or_self, Int.reduceBEq, Int.reduceBNe, Int.reduceNeg, decide_true, decide_false, Int.reduceLT, Int.reduceLE, Int.reduceGT]; done)
        | skip
theorem dropsA (t : Tst) (q : Int) (m : Nat) (qs : Nat → Int) : SF Try.prog 4 (V.atS [.agg (tstC t), I q, .slice none m fun i => intL (qs i)] (.bool true)) := by
  by_cases hn : t.n ≤ 20
  · by_cases hm : m ≤ 20
    · cases p1 : (agrE t (decide (0 ≤ q ∧ q ≤ 1000)) != 0) <;> cases p2 : (agrE t (!wideB m qs m) != 0)
      · exact drops11 t q m qs hn hm p1 p2
      · exact drops10 t q m qs hn hm p1 p2
      · exact drops01 t q m qs hn hm p1 p2
      · exact drops00 t q m qs hn hm p1 p2
    · exact dropsBig2 t q m qs hn (by omega)
  · exact dropsBig1 t q m qs (by omega)
end Go.Proofs.Ytnjhbmcambofgaa
