/- Layer 4: Widest of the program. -/
import Derived.Test.YtnjhbmcambofgaaS10
namespace Go.Proofs.Ytnjhbmcambofgaa
open Go.V
set_option linter.unusedSimpArgs false
set_option linter.unusedVariables false

def qsB (qs : Nat → Int) (k : Nat) : Bool := allN (fun i => decide (0 ≤ qs i ∧ qs i ≤ 1000)) k
def okQ (qs : Nat → Int) (k : Nat) : Bool := decide (1 ≤ (k : Int) ∧ (k : Int) ≤ 12) && qsB qs k
def wideD (l : List Fam) (q : Int) : Int := w (w ((encM (dropF q) (getF l) l.length).hi - (encM (dropF q) (getF l) l.length).lo) + 1)
def widN (d : Nat → Int) : Nat → Int × Int
  | 0 => (0, 0)
  | k + 1 => bif decide ((widN d k).2 < d k) then ((k : Int), d k) else widN d k
def widM (t : Tst) (qs : Nat → Int) (k : Nat) : Int := bif agrE t (okQ qs k) != 0 then 0 else (widN (fun i => wideD (agrLst t (okQ qs k)) (qs i)) k).1
def widestS : V.Spec
  | [.agg [.int .i64 a1, .int .i64 a2, .int .i64 b1, .int .i64 b2, .int .i64 c1, .int .i64 c2, .slice none n get], .slice none k getq] => (some (isL stpL n get ∧ isL intL k getq), .tup [I (widM (tstOf a1 a2 b1 b2 c1 c2 n get) (fun i => intOf (getq i)) k), I (agrE (tstOf a1 a2 b1 b2 c1 c2 n get) (okQ (fun i => intOf (getq i)) k))])
  | _ => bad
theorem agrE_ff {t : Tst} : (agrE t false != 0) = true := by
  cases h : (agrE t false != 0) with
  | true => rfl
  | false =>
    have h1 : agrE t false = 0 := by simpa using h
    unfold agrE at h1
    cases hp : (tfE t != 0)
    · rw [hp] at h1
      exact absurd (show (2 : Int) = 0 from h1) (by decide)
    · rw [hp] at h1
      exact absurd (by simpa using h1 : tfE t = 0) (by simpa using hp)
set_option maxRecDepth 20000 in
set_option maxHeartbeats 1000000 in
theorem sf29 : SF Try.prog 29 widestS := by
  refine sf_of types_ok mixed (l := [(72, agreeS), (73, countS), (81, drawsS), (82, withinS), (83, everyFS)]) ⟨sf72, sf73, sf81, sf82, sf83a, trivial⟩ (es := []) trivial 2 Try.func29 rfl (by kernel_rfl) fun args h => ?_
  unfold widestS at h
  split at h
  · rename_i a1 a2 b1 b2 c1 c2 n get k getq
    obtain ⟨hL, hQ⟩ : isL stpL n get ∧ isL intL k getq := h
    obtain ⟨hn, s, rfl⟩ := isL.get hL
    obtain ⟨hk, qs, rfl⟩ := isL.get hQ
    refine ⟨rfl, ?_⟩
    show evalCode _ _ _ fun o => match o with
      | .normal st | .ret st => withP _ (_ ∧ PLe _ (.tup [I (widM (tstOf a1 a2 b1 b2 c1 c2 n fun i => stpL (s i)) qs k), I (agrE (tstOf a1 a2 b1 b2 c1 c2 n fun i => stpL (s i)) (okQ qs k))]))
      | _ => False
    refine (Bool.eq_false_or_eq_true (decide (1 ≤ (k : Int) ∧ (k : Int) ≤ 12))).elim (fun p0 => ?_) fun p0 => ?_
    · have eQ : okQ qs k = qsB qs k := by unfold okQ; rw [p0]; rfl
      refine (Bool.eq_false_or_eq_true (agrE (tstOf a1 a2 b1 b2 c1 c2 n fun i => stpL (s i)) (qsB qs k) != 0)).elim (fun p1 => ?_) fun p1 => ?_
      · have eW : widM (tstOf a1 a2 b1 b2 c1 c2 n fun i => stpL (s i)) qs k = 0 := by unfold widM; rw [eQ, p1]; rfl
        have p1' : (agrE (tstOf a1 a2 b1 b2 c1 c2 n fun i => stpL (s i)) (allN (fun i => decide (0 ≤ intOf (intL (qs i)) ∧ intOf (intL (qs i)) ≤ 1000)) k) != 0) = true := p1
        rw [eW, eQ]
        repeat' first
          | exact PLe.refl _
          | exact BLe.refl _
          | exact PLeL.nil
          | exact BLeL.nil
          | refine ⟨?_, ?_⟩
          | refine PLeL.cons ?_ ?_
          | refine BLeL.cons ?_ ?_
          | refine ple_int ?_
          | refine ple_bool ?_
          | refine ple_tt ?_
          | refine ple_ff ?_
          | refine PLe.aggL ?_
          | refine PLe.tupL ?_
          | refine BLe.cellsL ?_
          | refine fun h => absurd h (by decide)
          | (refine fun h => ?_; exfalso; simp only [p0, p1', Int.toNat_natCast, Bool.cond_true_left, Bool.cond_false_right, Bool.cond_true_right, Bool.cond_false_left, cond_true, cond_false, Bool.not_true, Bool.not_false, Bool.not_not, Bool.and_true, Bool.true_and, Bool.and_false, Bool.false_and, Bool.or_true, Bool.true_or, Bool.or_false, Bool.false_or, beq_self_eq_true, bne_self_eq_false, Bool.true_eq_false, Bool.false_eq_true, reduceCtorEq, Bool.and_self, Bool.or_self, Int.reduceBEq, Int.reduceBNe, Int.reduceNeg, decide_true, decide_false, Int.reduceLT, Int.reduceLE, Int.reduceGT] at h; done)
          | refine fun (h : @Eq Bool _ _) => ?_
        all_goals first
          | trivial
          | rfl
          | omega
          | exact hL
          | exact hQ
          | (simp only [p0, p1', Int.toNat_natCast, Bool.cond_true_left, Bool.cond_false_right, Bool.cond_true_right, Bool.cond_false_left, cond_true, cond_false, Bool.not_true, Bool.not_false, Bool.not_not, Bool.and_true, Bool.true_and, Bool.and_false, Bool.false_and, Bool.or_true, Bool.true_or, Bool.or_false, Bool.false_or, beq_self_eq_true, bne_self_eq_false, Bool.true_eq_false, Bool.false_eq_true, reduceCtorEq, Bool.and_self, Bool.or_self, Int.reduceBEq, Int.reduceBNe, Int.reduceNeg, decide_true, decide_false, Int.reduceLT, Int.reduceLE, Int.reduceGT]; done)
          | (show @Eq Bool _ _; simp only [p0, p1', Int.toNat_natCast, Bool.cond_true_left, Bool.cond_false_right, Bool.cond_true_right, Bool.cond_false_left, cond_true, cond_false, Bool.not_true, Bool.not_false, Bool.not_not, Bool.and_true, Bool.true_and, Bool.and_false, Bool.false_and, Bool.or_true, Bool.true_or, Bool.or_false, Bool.false_or, beq_self_eq_true, bne_self_eq_false, Bool.true_eq_false, Bool.false_eq_true, reduceCtorEq, Bool.and_self, Bool.or_self, Int.reduceBEq, Int.reduceBNe, Int.reduceNeg, decide_true, decide_false, Int.reduceLT, Int.reduceLE, Int.reduceGT]; done)
          | skip
      · have eW : widM (tstOf a1 a2 b1 b2 c1 c2 n fun i => stpL (s i)) qs k = (widN (fun i => wideD (agrLst (tstOf a1 a2 b1 b2 c1 c2 n fun i => stpL (s i)) (qsB qs k)) (qs i)) k).1 := by unfold widM; rw [eQ, p1]; rfl
        have p1' : (agrE (tstOf a1 a2 b1 b2 c1 c2 n fun i => stpL (s i)) (allN (fun i => decide (0 ≤ intOf (intL (qs i)) ∧ intOf (intL (qs i)) ≤ 1000)) k) != 0) = false := p1
        have p1e : agrE (tstOf a1 a2 b1 b2 c1 c2 n fun i => stpL (s i)) (qsB qs k) = 0 := by simpa using p1
        rw [eW, eQ, p1e]
        have hlen : (agrLst (tstOf a1 a2 b1 b2 c1 c2 n fun i => stpL (s i)) (qsB qs k)).length ≤ 1600 := agrL_len
        have hpos : 0 < (agrLst (tstOf a1 a2 b1 b2 c1 c2 n fun i => stpL (s i)) (qsB qs k)).length := agrL_pos p1
        have hG := isL_listG hlen
        repeat' first
          | exact PLe.refl _
          | exact BLe.refl _
          | exact PLeL.nil
          | exact BLeL.nil
          | refine ⟨?_, ?_⟩
          | refine PLeL.cons ?_ ?_
          | refine BLeL.cons ?_ ?_
          | refine ple_int ?_
          | refine ple_bool ?_
          | refine ple_tt ?_
          | refine ple_ff ?_
          | refine PLe.aggL ?_
          | refine PLe.tupL ?_
          | refine BLe.cellsL ?_
          | refine halt_rng (cnt 30) k [6, 8, 9, 28, 29, 30] [] (fun m => [.slice none (agrLst (tstOf a1 a2 b1 b2 c1 c2 n fun i => stpL (s i)) (qsB qs k)).length (listG (agrLst (tstOf a1 a2 b1 b2 c1 c2 n fun i => stpL (s i)) (qsB qs k))), I (widN (fun i => wideD (agrLst (tstOf a1 a2 b1 b2 c1 c2 n fun i => stpL (s i)) (qsB qs k)) (qs i)) m).1, I (widN (fun i => wideD (agrLst (tstOf a1 a2 b1 b2 c1 c2 n fun i => stpL (s i)) (qsB qs k)) (qs i)) m).2, .slice none k fun i => intL (qs i), I (k : Nat), I (m : Nat)]) (fun m => []) (fun _ => True) rfl (.mk ?_ ?_) trivial ?_
          | refine fun h => absurd h (by decide)
          | (refine fun h => ?_; exfalso; simp only [p0, p1', Int.toNat_natCast, Bool.cond_true_left, Bool.cond_false_right, Bool.cond_true_right, Bool.cond_false_left, cond_true, cond_false, Bool.not_true, Bool.not_false, Bool.not_not, Bool.and_true, Bool.true_and, Bool.and_false, Bool.false_and, Bool.or_true, Bool.true_or, Bool.or_false, Bool.false_or, beq_self_eq_true, bne_self_eq_false, Bool.true_eq_false, Bool.false_eq_true, reduceCtorEq, Bool.and_self, Bool.or_self, Int.reduceBEq, Int.reduceBNe, Int.reduceNeg, decide_true, decide_false, Int.reduceLT, Int.reduceLE, Int.reduceGT] at h; done)
          | refine fun (h : @Eq Bool _ _) => ?_
        all_goals first
          | trivial
          | rfl
          | omega
          | exact hL
          | exact hQ
          | (simp only [p0, p1', Int.toNat_natCast, Bool.cond_true_left, Bool.cond_false_right, Bool.cond_true_right, Bool.cond_false_left, cond_true, cond_false, Bool.not_true, Bool.not_false, Bool.not_not, Bool.and_true, Bool.true_and, Bool.and_false, Bool.false_and, Bool.or_true, Bool.true_or, Bool.or_false, Bool.false_or, beq_self_eq_true, bne_self_eq_false, Bool.true_eq_false, Bool.false_eq_true, reduceCtorEq, Bool.and_self, Bool.or_self, Int.reduceBEq, Int.reduceBNe, Int.reduceNeg, decide_true, decide_false, Int.reduceLT, Int.reduceLE, Int.reduceGT]; done)
          | (show @Eq Bool _ _; simp only [p0, p1', Int.toNat_natCast, Bool.cond_true_left, Bool.cond_false_right, Bool.cond_true_right, Bool.cond_false_left, cond_true, cond_false, Bool.not_true, Bool.not_false, Bool.not_not, Bool.and_true, Bool.true_and, Bool.and_false, Bool.false_and, Bool.or_true, Bool.true_or, Bool.or_false, Bool.false_or, beq_self_eq_true, bne_self_eq_false, Bool.true_eq_false, Bool.false_eq_true, reduceCtorEq, Bool.and_self, Bool.or_self, Int.reduceBEq, Int.reduceBNe, Int.reduceNeg, decide_true, decide_false, Int.reduceLT, Int.reduceLE, Int.reduceGT]; done)
          | skip
        intro m hm _
        refine ⟨fun h1 => ?_, fun h1 => ?_⟩
        · have hlt : m < k := by simpa using h1
          have e1 := succ_w hlt (by omega)
          clear h1
          refine (Bool.eq_false_or_eq_true (decide ((widN (fun i => wideD (agrLst (tstOf a1 a2 b1 b2 c1 c2 n fun i => stpL (s i)) (qsB qs k)) (qs i)) m).2 < (fun i => wideD (agrLst (tstOf a1 a2 b1 b2 c1 c2 n fun i => stpL (s i)) (qsB qs k)) (qs i)) m))).elim (fun q1 => ?_) fun q1 => ?_
          · have eN : widN (fun i => wideD (agrLst (tstOf a1 a2 b1 b2 c1 c2 n fun i => stpL (s i)) (qsB qs k)) (qs i)) (m + 1) = ((m : Int), wideD (agrLst (tstOf a1 a2 b1 b2 c1 c2 n fun i => stpL (s i)) (qsB qs k)) (qs m)) := by
              show (bif decide (_ < _) then _ else _) = _
              rw [q1]; rfl
            repeat' first
              | exact PLe.refl _
              | exact BLe.refl _
              | exact PLeL.nil
              | exact BLeL.nil
              | refine ⟨?_, ?_⟩
              | refine PLeL.cons ?_ ?_
              | refine BLeL.cons ?_ ?_
              | refine ple_int ?_
              | refine ple_bool ?_
              | refine ple_tt ?_
              | refine ple_ff ?_
              | refine PLe.aggL ?_
              | refine PLe.tupL ?_
              | refine BLe.cellsL ?_
              | refine fun h => absurd (h.symm.trans q1) (by decide)
              | refine next_rng (cn := cnt 30) rfl (fun _ => rfl) hlt trivial (.mk ?_ ?_)
              | refine fun h => absurd h (by decide)
              | (refine fun h => ?_; exfalso; simp only [q1, Int.toNat_natCast, Bool.cond_true_left, Bool.cond_false_right, Bool.cond_true_right, Bool.cond_false_left, cond_true, cond_false, Bool.not_true, Bool.not_false, Bool.not_not, Bool.and_true, Bool.true_and, Bool.and_false, Bool.false_and, Bool.or_true, Bool.true_or, Bool.or_false, Bool.false_or, beq_self_eq_true, bne_self_eq_false, Bool.true_eq_false, Bool.false_eq_true, reduceCtorEq, Bool.and_self, Bool.or_self, Int.reduceBEq, Int.reduceBNe, Int.reduceNeg, decide_true, decide_false, Int.reduceLT, Int.reduceLE, Int.reduceGT] at h; done)
              | refine fun (h : @Eq Bool _ _) => ?_
            all_goals first
              | trivial
              | rfl
              | omega
              | exact e1
              | exact ⟨hG, hpos⟩
              | exact hG
              | exact hpos
              | exact (congrArg Prod.fst eN).symm
              | exact (congrArg Prod.snd eN).symm
              | (simp only [q1, Int.toNat_natCast, Bool.cond_true_left, Bool.cond_false_right, Bool.cond_true_right, Bool.cond_false_left, cond_true, cond_false, Bool.not_true, Bool.not_false, Bool.not_not, Bool.and_true, Bool.true_and, Bool.and_false, Bool.false_and, Bool.or_true, Bool.true_or, Bool.or_false, Bool.false_or, beq_self_eq_true, bne_self_eq_false, Bool.true_eq_false, Bool.false_eq_true, reduceCtorEq, Bool.and_self, Bool.or_self, Int.reduceBEq, Int.reduceBNe, Int.reduceNeg, decide_true, decide_false, Int.reduceLT, Int.reduceLE, Int.reduceGT]; done)
              | (show @Eq Bool _ _; simp only [q1, Int.toNat_natCast, Bool.cond_true_left, Bool.cond_false_right, Bool.cond_true_right, Bool.cond_false_left, cond_true, cond_false, Bool.not_true, Bool.not_false, Bool.not_not, Bool.and_true, Bool.true_and, Bool.and_false, Bool.false_and, Bool.or_true, Bool.true_or, Bool.or_false, Bool.false_or, beq_self_eq_true, bne_self_eq_false, Bool.true_eq_false, Bool.false_eq_true, reduceCtorEq, Bool.and_self, Bool.or_self, Int.reduceBEq, Int.reduceBNe, Int.reduceNeg, decide_true, decide_false, Int.reduceLT, Int.reduceLE, Int.reduceGT]; done)
              | skip
          · have eN : widN (fun i => wideD (agrLst (tstOf a1 a2 b1 b2 c1 c2 n fun i => stpL (s i)) (qsB qs k)) (qs i)) (m + 1) = widN (fun i => wideD (agrLst (tstOf a1 a2 b1 b2 c1 c2 n fun i => stpL (s i)) (qsB qs k)) (qs i)) m := by
              show (bif decide (_ < _) then _ else _) = _
              rw [q1]; rfl
            repeat' first
              | exact PLe.refl _
              | exact BLe.refl _
              | exact PLeL.nil
              | exact BLeL.nil
              | refine ⟨?_, ?_⟩
              | refine PLeL.cons ?_ ?_
              | refine BLeL.cons ?_ ?_
              | refine ple_int ?_
              | refine ple_bool ?_
              | refine ple_tt ?_
              | refine ple_ff ?_
              | refine PLe.aggL ?_
              | refine PLe.tupL ?_
              | refine BLe.cellsL ?_
              | refine fun h => absurd (h.symm.trans q1) (by decide)
              | refine next_rng (cn := cnt 30) rfl (fun _ => rfl) hlt trivial (.mk ?_ ?_)
              | refine fun h => absurd h (by decide)
              | (refine fun h => ?_; exfalso; simp only [q1, Int.toNat_natCast, Bool.cond_true_left, Bool.cond_false_right, Bool.cond_true_right, Bool.cond_false_left, cond_true, cond_false, Bool.not_true, Bool.not_false, Bool.not_not, Bool.and_true, Bool.true_and, Bool.and_false, Bool.false_and, Bool.or_true, Bool.true_or, Bool.or_false, Bool.false_or, beq_self_eq_true, bne_self_eq_false, Bool.true_eq_false, Bool.false_eq_true, reduceCtorEq, Bool.and_self, Bool.or_self, Int.reduceBEq, Int.reduceBNe, Int.reduceNeg, decide_true, decide_false, Int.reduceLT, Int.reduceLE, Int.reduceGT] at h; done)
              | refine fun (h : @Eq Bool _ _) => ?_
            all_goals first
              | trivial
              | rfl
              | omega
              | exact e1
              | exact ⟨hG, hpos⟩
              | exact hG
              | exact hpos
              | exact (congrArg Prod.fst eN).symm
              | exact (congrArg Prod.snd eN).symm
              | (simp only [q1, Int.toNat_natCast, Bool.cond_true_left, Bool.cond_false_right, Bool.cond_true_right, Bool.cond_false_left, cond_true, cond_false, Bool.not_true, Bool.not_false, Bool.not_not, Bool.and_true, Bool.true_and, Bool.and_false, Bool.false_and, Bool.or_true, Bool.true_or, Bool.or_false, Bool.false_or, beq_self_eq_true, bne_self_eq_false, Bool.true_eq_false, Bool.false_eq_true, reduceCtorEq, Bool.and_self, Bool.or_self, Int.reduceBEq, Int.reduceBNe, Int.reduceNeg, decide_true, decide_false, Int.reduceLT, Int.reduceLE, Int.reduceGT]; done)
              | (show @Eq Bool _ _; simp only [q1, Int.toNat_natCast, Bool.cond_true_left, Bool.cond_false_right, Bool.cond_true_right, Bool.cond_false_left, cond_true, cond_false, Bool.not_true, Bool.not_false, Bool.not_not, Bool.and_true, Bool.true_and, Bool.and_false, Bool.false_and, Bool.or_true, Bool.true_or, Bool.or_false, Bool.false_or, beq_self_eq_true, bne_self_eq_false, Bool.true_eq_false, Bool.false_eq_true, reduceCtorEq, Bool.and_self, Bool.or_self, Int.reduceBEq, Int.reduceBNe, Int.reduceNeg, decide_true, decide_false, Int.reduceLT, Int.reduceLE, Int.reduceGT]; done)
              | skip
        · have hmn : m = k := by
            have : ¬ ((m : Int) < k) := of_decide_eq_false h1
            omega
          subst hmn
          clear h1
          repeat' first
            | exact PLe.refl _
            | exact BLe.refl _
            | exact PLeL.nil
            | exact BLeL.nil
            | refine ⟨?_, ?_⟩
            | refine PLeL.cons ?_ ?_
            | refine BLeL.cons ?_ ?_
            | refine ple_int ?_
            | refine ple_bool ?_
            | refine ple_tt ?_
            | refine ple_ff ?_
            | refine PLe.aggL ?_
            | refine PLe.tupL ?_
            | refine BLe.cellsL ?_
            | refine fun h => absurd h (by decide)
            | refine fun (h : @Eq Bool _ _) => ?_
          all_goals first
            | trivial
            | rfl
            | omega
            | skip
    · have eQ : okQ qs k = false := by unfold okQ; rw [p0]; rfl
      have p1 : (agrE (tstOf a1 a2 b1 b2 c1 c2 n fun i => stpL (s i)) false != 0) = true := agrE_ff
      have eW : widM (tstOf a1 a2 b1 b2 c1 c2 n fun i => stpL (s i)) qs k = 0 := by unfold widM; rw [eQ, p1]; rfl
      rw [eW, eQ]
      repeat' first
        | exact PLe.refl _
        | exact BLe.refl _
        | exact PLeL.nil
        | exact BLeL.nil
        | refine ⟨?_, ?_⟩
        | refine PLeL.cons ?_ ?_
        | refine BLeL.cons ?_ ?_
        | refine ple_int ?_
        | refine ple_bool ?_
        | refine ple_tt ?_
        | refine ple_ff ?_
        | refine PLe.aggL ?_
        | refine PLe.tupL ?_
        | refine BLe.cellsL ?_
        | refine fun h => absurd h (by decide)
        | (refine fun h => ?_; exfalso; simp only [p0, p1, Int.toNat_natCast, Bool.cond_true_left, Bool.cond_false_right, Bool.cond_true_right, Bool.cond_false_left, cond_true, cond_false, Bool.not_true, Bool.not_false, Bool.not_not, Bool.and_true, Bool.true_and, Bool.and_false, Bool.false_and, Bool.or_true, Bool.true_or, Bool.or_false, Bool.false_or, beq_self_eq_true, bne_self_eq_false, Bool.true_eq_false, Bool.false_eq_true, reduceCtorEq, Bool.and_self, Bool.or_self, Int.reduceBEq, Int.reduceBNe, Int.reduceNeg, decide_true, decide_false, Int.reduceLT, Int.reduceLE, Int.reduceGT] at h; done)
        | refine fun (h : @Eq Bool _ _) => ?_
      all_goals first
        | trivial
        | rfl
        | omega
        | exact hL
        | exact hQ
        | (simp only [p0, p1, Int.toNat_natCast, Bool.cond_true_left, Bool.cond_false_right, Bool.cond_true_right, Bool.cond_false_left, cond_true, cond_false, Bool.not_true, Bool.not_false, Bool.not_not, Bool.and_true, Bool.true_and, Bool.and_false, Bool.false_and, Bool.or_true, Bool.true_or, Bool.or_false, Bool.false_or, beq_self_eq_true, bne_self_eq_false, Bool.true_eq_false, Bool.false_eq_true, reduceCtorEq, Bool.and_self, Bool.or_self, Int.reduceBEq, Int.reduceBNe, Int.reduceNeg, decide_true, decide_false, Int.reduceLT, Int.reduceLE, Int.reduceGT]; done)
        | (show @Eq Bool _ _; simp only [p0, p1, Int.toNat_natCast, Bool.cond_true_left, Bool.cond_false_right, Bool.cond_true_right, Bool.cond_false_left, cond_true, cond_false, Bool.not_true, Bool.not_false, Bool.not_not, Bool.and_true, Bool.true_and, Bool.and_false, Bool.false_and, Bool.or_true, Bool.true_or, Bool.or_false, Bool.false_or, beq_self_eq_true, bne_self_eq_false, Bool.true_eq_false, Bool.false_eq_true, reduceCtorEq, Bool.and_self, Bool.or_self, Int.reduceBEq, Int.reduceBNe, Int.reduceNeg, decide_true, decide_false, Int.reduceLT, Int.reduceLE, Int.reduceGT]; done)
        | skip
  · exact h.elim
end Go.Proofs.Ytnjhbmcambofgaa
