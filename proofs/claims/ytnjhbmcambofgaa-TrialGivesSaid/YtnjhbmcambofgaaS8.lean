/- Layer 4: those that agree; Curves and Drawdown of the program. -/
import Derived.Test.YtnjhbmcambofgaaS7
namespace Go.Proofs.Ytnjhbmcambofgaa
open Go.V
set_option linter.unusedSimpArgs false

/-- The error of a call that asks for those that agree; those that there are. -/
def agrE (t : Tst) (b : Bool) : Int := bif tfE t != 0 then tfE t else bif b then (bif ((famsM t).length : Int) == 0 then 7 else 0) else 2
def agrLst (t : Tst) (b : Bool) : List Fam := bif agrE t b == 0 then famsM t else []
def agreeS : V.Spec
  | [.agg [.int .i64 a1, .int .i64 a2, .int .i64 b1, .int .i64 b2, .int .i64 c1, .int .i64 c2, .slice none n get], p] => match boolOf p with
    | some b => (some (isL stpL n get), .tup [.slice none (agrLst (tstOf a1 a2 b1 b2 c1 c2 n get) b).length (listG (agrLst (tstOf a1 a2 b1 b2 c1 c2 n get) b)), I (agrE (tstOf a1 a2 b1 b2 c1 c2 n get) b)])
    | none => bad
  | _ => bad
theorem nilG {get : Nat → List PV} : PLe (.slice none 0 get) (.slice none ([] : List Fam).length (listG [])) := ple_slice rfl fun i hi => by cases hi
theorem famsM_len {t : Tst} (h : okT t) : (famsM t).length ≤ 1600 := by
  have hb := h.b
  have hc := h.c
  have h1 : t.nb ≤ 40 := by unfold Tst.nb; omega
  have h2 : t.nc ≤ 40 := by unfold Tst.nc; omega
  exact Nat.le_trans (allF_len t _) (Nat.mul_le_mul h1 h2)
theorem bool3 {p : PV} {b : Bool} {c : Prop} (h : boolOf p = some b) (h1 : p = .tt → b = true → c) (h2 : p = .ff → b = false → c) (h3 : p = .bool b → c) : c := by
  cases p <;> simp [boolOf] at h
  · exact h1 rfl h
  · exact h2 rfl h
  · subst h; exact h3 rfl
set_option maxRecDepth 20000 in
set_option maxHeartbeats 1000000 in
theorem sf72 : SF Try.prog 72 agreeS := by
  refine sf_of types_ok mixed (l := [(19, tfS), (87, famsS)]) ⟨sf19, sf87, trivial⟩ (es := []) trivial 2 Try.func72 rfl (by kernel_rfl) fun args h => ?_
  unfold agreeS at h
  split at h
  · rename_i a1 a2 b1 b2 c1 c2 n get p
    split at h
    · rename_i b hb
      have hL : isL stpL n get := h
      obtain ⟨hn, s, rfl⟩ := isL.get hL
      clear h
      refine ⟨rfl, ?_⟩
      refine bool3 hb (fun h1 h2 => ?_) (fun h1 h2 => ?_) fun h1 => ?_
      · subst h1 h2
        show evalCode _ _ _ fun o => match o with
          | .normal st | .ret st => withP _ (_ ∧ PLe _ (.tup [.slice none (agrLst ⟨⟨a1, a2⟩, ⟨b1, b2⟩, ⟨c1, c2⟩, n, s⟩ true).length (listG (agrLst ⟨⟨a1, a2⟩, ⟨b1, b2⟩, ⟨c1, c2⟩, n, s⟩ true)), I (agrE ⟨⟨a1, a2⟩, ⟨b1, b2⟩, ⟨c1, c2⟩, n, s⟩ true)]))
          | _ => False
        refine (Bool.eq_false_or_eq_true (tfE ⟨⟨a1, a2⟩, ⟨b1, b2⟩, ⟨c1, c2⟩, n, s⟩ != 0)).elim (fun p1 => ?_) fun p1 => ?_
        · have p1' : (tfE (tstOf a1 a2 b1 b2 c1 c2 n fun i => stpL (s i)) != 0) = true := p1
          have p1n : (tfE ⟨⟨a1, a2⟩, ⟨b1, b2⟩, ⟨c1, c2⟩, n, s⟩ == 0) = false := by simpa using p1
          have eE : agrE ⟨⟨a1, a2⟩, ⟨b1, b2⟩, ⟨c1, c2⟩, n, s⟩ true = tfE ⟨⟨a1, a2⟩, ⟨b1, b2⟩, ⟨c1, c2⟩, n, s⟩ := by unfold agrE; simp only [p1, p1', cond_true, cond_false]
          have eL : agrLst ⟨⟨a1, a2⟩, ⟨b1, b2⟩, ⟨c1, c2⟩, n, s⟩ true = [] := by unfold agrLst; rw [eE]; rw [p1n]; rfl
          rw [eL, eE]
          repeat' first
            | exact nilG
            | exact PLe.refl _
            | exact BLe.refl _
            | exact PLeL.nil
            | exact BLeL.nil
            | refine ⟨?_, ?_⟩
            | refine PLeL.cons ?_ ?_
            | refine BLeL.cons ?_ ?_
            | refine ple_int ?_
            | refine ple_bool ?_
            | refine ple_tt ?_
            | refine ple_ff ?_
            | refine PLe.aggL ?_
            | refine PLe.tupL ?_
            | refine BLe.cellsL ?_
            | refine fun h => absurd h (by decide)
            | (refine fun h => ?_; exfalso; simp only [p1, p1', Int.toNat_natCast, Bool.cond_true_left, Bool.cond_false_right, Bool.cond_true_right, Bool.cond_false_left, cond_true, cond_false, Bool.not_true, Bool.not_false, Bool.not_not, Bool.and_true, Bool.true_and, Bool.and_false, Bool.false_and, Bool.or_true, Bool.true_or, Bool.or_false, Bool.false_or, beq_self_eq_true, bne_self_eq_false, Bool.true_eq_false, Bool.false_eq_true, reduceCtorEq, Bool.and_self, Bool.or_self, Int.reduceBEq, Int.reduceBNe, Int.reduceNeg, decide_true, decide_false, Int.reduceLT, Int.reduceLE, Int.reduceGT] at h; done)
            | refine fun (h : @Eq Bool _ _) => ?_
          all_goals first
            | trivial
            | rfl
            | omega
            | exact hL
            | (refine .mk hok ?_; rfl)
            | (simp only [p1, p1', Int.toNat_natCast, Bool.cond_true_left, Bool.cond_false_right, Bool.cond_true_right, Bool.cond_false_left, cond_true, cond_false, Bool.not_true, Bool.not_false, Bool.not_not, Bool.and_true, Bool.true_and, Bool.and_false, Bool.false_and, Bool.or_true, Bool.true_or, Bool.or_false, Bool.false_or, beq_self_eq_true, bne_self_eq_false, Bool.true_eq_false, Bool.false_eq_true, reduceCtorEq, Bool.and_self, Bool.or_self, Int.reduceBEq, Int.reduceBNe, Int.reduceNeg, decide_true, decide_false, Int.reduceLT, Int.reduceLE, Int.reduceGT]; done)
            | (show @Eq Bool _ _; simp only [p1, p1', Int.toNat_natCast, Bool.cond_true_left, Bool.cond_false_right, Bool.cond_true_right, Bool.cond_false_left, cond_true, cond_false, Bool.not_true, Bool.not_false, Bool.not_not, Bool.and_true, Bool.true_and, Bool.and_false, Bool.false_and, Bool.or_true, Bool.true_or, Bool.or_false, Bool.false_or, beq_self_eq_true, bne_self_eq_false, Bool.true_eq_false, Bool.false_eq_true, reduceCtorEq, Bool.and_self, Bool.or_self, Int.reduceBEq, Int.reduceBNe, Int.reduceNeg, decide_true, decide_false, Int.reduceLT, Int.reduceLE, Int.reduceGT]; done)
            | skip
        · have p1' : (tfE (tstOf a1 a2 b1 b2 c1 c2 n fun i => stpL (s i)) != 0) = false := p1
          have hok : okT ⟨⟨a1, a2⟩, ⟨b1, b2⟩, ⟨c1, c2⟩, n, s⟩ := tfE_ok (by simpa using p1)
          refine (Bool.eq_false_or_eq_true (((famsM ⟨⟨a1, a2⟩, ⟨b1, b2⟩, ⟨c1, c2⟩, n, s⟩).length : Int) == 0)).elim (fun p3 => ?_) fun p3 => ?_
          · skip
            have p3' : (((famsM (tstOf a1 a2 b1 b2 c1 c2 n fun i => stpL (s i))).length : Int) == 0) = _ := p3
            have eE : agrE ⟨⟨a1, a2⟩, ⟨b1, b2⟩, ⟨c1, c2⟩, n, s⟩ true = 7 := by unfold agrE; simp only [p1, p3, cond_true, cond_false]
            have eL : agrLst ⟨⟨a1, a2⟩, ⟨b1, b2⟩, ⟨c1, c2⟩, n, s⟩ true = [] := by unfold agrLst; rw [eE]; rfl
            rw [eL, eE]
            repeat' first
              | exact nilG
              | exact PLe.refl _
              | exact BLe.refl _
              | exact PLeL.nil
              | exact BLeL.nil
              | refine ⟨?_, ?_⟩
              | refine PLeL.cons ?_ ?_
              | refine BLeL.cons ?_ ?_
              | refine ple_int ?_
              | refine ple_bool ?_
              | refine ple_tt ?_
              | refine ple_ff ?_
              | refine PLe.aggL ?_
              | refine PLe.tupL ?_
              | refine BLe.cellsL ?_
              | refine fun h => absurd h (by decide)
              | (refine fun h => ?_; exfalso; simp only [p1, p3, p1', p3', Int.toNat_natCast, Bool.cond_true_left, Bool.cond_false_right, Bool.cond_true_right, Bool.cond_false_left, cond_true, cond_false, Bool.not_true, Bool.not_false, Bool.not_not, Bool.and_true, Bool.true_and, Bool.and_false, Bool.false_and, Bool.or_true, Bool.true_or, Bool.or_false, Bool.false_or, beq_self_eq_true, bne_self_eq_false, Bool.true_eq_false, Bool.false_eq_true, reduceCtorEq, Bool.and_self, Bool.or_self, Int.reduceBEq, Int.reduceBNe, Int.reduceNeg, decide_true, decide_false, Int.reduceLT, Int.reduceLE, Int.reduceGT] at h; done)
              | refine fun (h : @Eq Bool _ _) => ?_
            all_goals first
              | trivial
              | rfl
              | omega
              | exact hL
              | (refine .mk hok ?_; rfl)
              | (simp only [p1, p3, p1', p3', Int.toNat_natCast, Bool.cond_true_left, Bool.cond_false_right, Bool.cond_true_right, Bool.cond_false_left, cond_true, cond_false, Bool.not_true, Bool.not_false, Bool.not_not, Bool.and_true, Bool.true_and, Bool.and_false, Bool.false_and, Bool.or_true, Bool.true_or, Bool.or_false, Bool.false_or, beq_self_eq_true, bne_self_eq_false, Bool.true_eq_false, Bool.false_eq_true, reduceCtorEq, Bool.and_self, Bool.or_self, Int.reduceBEq, Int.reduceBNe, Int.reduceNeg, decide_true, decide_false, Int.reduceLT, Int.reduceLE, Int.reduceGT]; done)
              | (show @Eq Bool _ _; simp only [p1, p3, p1', p3', Int.toNat_natCast, Bool.cond_true_left, Bool.cond_false_right, Bool.cond_true_right, Bool.cond_false_left, cond_true, cond_false, Bool.not_true, Bool.not_false, Bool.not_not, Bool.and_true, Bool.true_and, Bool.and_false, Bool.false_and, Bool.or_true, Bool.true_or, Bool.or_false, Bool.false_or, beq_self_eq_true, bne_self_eq_false, Bool.true_eq_false, Bool.false_eq_true, reduceCtorEq, Bool.and_self, Bool.or_self, Int.reduceBEq, Int.reduceBNe, Int.reduceNeg, decide_true, decide_false, Int.reduceLT, Int.reduceLE, Int.reduceGT]; done)
              | skip
          · skip
            have p3' : (((famsM (tstOf a1 a2 b1 b2 c1 c2 n fun i => stpL (s i))).length : Int) == 0) = _ := p3
            have eE : agrE ⟨⟨a1, a2⟩, ⟨b1, b2⟩, ⟨c1, c2⟩, n, s⟩ true = 0 := by unfold agrE; simp only [p1, p3, cond_true, cond_false]
            have eL : agrLst ⟨⟨a1, a2⟩, ⟨b1, b2⟩, ⟨c1, c2⟩, n, s⟩ true = famsM ⟨⟨a1, a2⟩, ⟨b1, b2⟩, ⟨c1, c2⟩, n, s⟩ := by unfold agrLst; rw [eE]; rfl
            rw [eL, eE]
            repeat' first
              | exact nilG
              | exact PLe.refl _
              | exact BLe.refl _
              | exact PLeL.nil
              | exact BLeL.nil
              | refine ⟨?_, ?_⟩
              | refine PLeL.cons ?_ ?_
              | refine BLeL.cons ?_ ?_
              | refine ple_int ?_
              | refine ple_bool ?_
              | refine ple_tt ?_
              | refine ple_ff ?_
              | refine PLe.aggL ?_
              | refine PLe.tupL ?_
              | refine BLe.cellsL ?_
              | refine fun h => absurd h (by decide)
              | (refine fun h => ?_; exfalso; simp only [p1, p3, p1', p3', Int.toNat_natCast, Bool.cond_true_left, Bool.cond_false_right, Bool.cond_true_right, Bool.cond_false_left, cond_true, cond_false, Bool.not_true, Bool.not_false, Bool.not_not, Bool.and_true, Bool.true_and, Bool.and_false, Bool.false_and, Bool.or_true, Bool.true_or, Bool.or_false, Bool.false_or, beq_self_eq_true, bne_self_eq_false, Bool.true_eq_false, Bool.false_eq_true, reduceCtorEq, Bool.and_self, Bool.or_self, Int.reduceBEq, Int.reduceBNe, Int.reduceNeg, decide_true, decide_false, Int.reduceLT, Int.reduceLE, Int.reduceGT] at h; done)
              | refine fun (h : @Eq Bool _ _) => ?_
            all_goals first
              | trivial
              | rfl
              | omega
              | exact hL
              | (refine .mk hok ?_; rfl)
              | (simp only [p1, p3, p1', p3', Int.toNat_natCast, Bool.cond_true_left, Bool.cond_false_right, Bool.cond_true_right, Bool.cond_false_left, cond_true, cond_false, Bool.not_true, Bool.not_false, Bool.not_not, Bool.and_true, Bool.true_and, Bool.and_false, Bool.false_and, Bool.or_true, Bool.true_or, Bool.or_false, Bool.false_or, beq_self_eq_true, bne_self_eq_false, Bool.true_eq_false, Bool.false_eq_true, reduceCtorEq, Bool.and_self, Bool.or_self, Int.reduceBEq, Int.reduceBNe, Int.reduceNeg, decide_true, decide_false, Int.reduceLT, Int.reduceLE, Int.reduceGT]; done)
              | (show @Eq Bool _ _; simp only [p1, p3, p1', p3', Int.toNat_natCast, Bool.cond_true_left, Bool.cond_false_right, Bool.cond_true_right, Bool.cond_false_left, cond_true, cond_false, Bool.not_true, Bool.not_false, Bool.not_not, Bool.and_true, Bool.true_and, Bool.and_false, Bool.false_and, Bool.or_true, Bool.true_or, Bool.or_false, Bool.false_or, beq_self_eq_true, bne_self_eq_false, Bool.true_eq_false, Bool.false_eq_true, reduceCtorEq, Bool.and_self, Bool.or_self, Int.reduceBEq, Int.reduceBNe, Int.reduceNeg, decide_true, decide_false, Int.reduceLT, Int.reduceLE, Int.reduceGT]; done)
              | skip
      · subst h1 h2
        show evalCode _ _ _ fun o => match o with
          | .normal st | .ret st => withP _ (_ ∧ PLe _ (.tup [.slice none (agrLst ⟨⟨a1, a2⟩, ⟨b1, b2⟩, ⟨c1, c2⟩, n, s⟩ false).length (listG (agrLst ⟨⟨a1, a2⟩, ⟨b1, b2⟩, ⟨c1, c2⟩, n, s⟩ false)), I (agrE ⟨⟨a1, a2⟩, ⟨b1, b2⟩, ⟨c1, c2⟩, n, s⟩ false)]))
          | _ => False
        refine (Bool.eq_false_or_eq_true (tfE ⟨⟨a1, a2⟩, ⟨b1, b2⟩, ⟨c1, c2⟩, n, s⟩ != 0)).elim (fun p1 => ?_) fun p1 => ?_
        · have p1' : (tfE (tstOf a1 a2 b1 b2 c1 c2 n fun i => stpL (s i)) != 0) = true := p1
          have p1n : (tfE ⟨⟨a1, a2⟩, ⟨b1, b2⟩, ⟨c1, c2⟩, n, s⟩ == 0) = false := by simpa using p1
          have eE : agrE ⟨⟨a1, a2⟩, ⟨b1, b2⟩, ⟨c1, c2⟩, n, s⟩ false = tfE ⟨⟨a1, a2⟩, ⟨b1, b2⟩, ⟨c1, c2⟩, n, s⟩ := by unfold agrE; simp only [p1, p1', cond_true, cond_false]
          have eL : agrLst ⟨⟨a1, a2⟩, ⟨b1, b2⟩, ⟨c1, c2⟩, n, s⟩ false = [] := by unfold agrLst; rw [eE]; rw [p1n]; rfl
          rw [eL, eE]
          repeat' first
            | exact nilG
            | exact PLe.refl _
            | exact BLe.refl _
            | exact PLeL.nil
            | exact BLeL.nil
            | refine ⟨?_, ?_⟩
            | refine PLeL.cons ?_ ?_
            | refine BLeL.cons ?_ ?_
            | refine ple_int ?_
            | refine ple_bool ?_
            | refine ple_tt ?_
            | refine ple_ff ?_
            | refine PLe.aggL ?_
            | refine PLe.tupL ?_
            | refine BLe.cellsL ?_
            | refine fun h => absurd h (by decide)
            | (refine fun h => ?_; exfalso; simp only [p1, p1', Int.toNat_natCast, Bool.cond_true_left, Bool.cond_false_right, Bool.cond_true_right, Bool.cond_false_left, cond_true, cond_false, Bool.not_true, Bool.not_false, Bool.not_not, Bool.and_true, Bool.true_and, Bool.and_false, Bool.false_and, Bool.or_true, Bool.true_or, Bool.or_false, Bool.false_or, beq_self_eq_true, bne_self_eq_false, Bool.true_eq_false, Bool.false_eq_true, reduceCtorEq, Bool.and_self, Bool.or_self, Int.reduceBEq, Int.reduceBNe, Int.reduceNeg, decide_true, decide_false, Int.reduceLT, Int.reduceLE, Int.reduceGT] at h; done)
            | refine fun (h : @Eq Bool _ _) => ?_
          all_goals first
            | trivial
            | rfl
            | omega
            | exact hL
            | (refine .mk hok ?_; rfl)
            | (simp only [p1, p1', Int.toNat_natCast, Bool.cond_true_left, Bool.cond_false_right, Bool.cond_true_right, Bool.cond_false_left, cond_true, cond_false, Bool.not_true, Bool.not_false, Bool.not_not, Bool.and_true, Bool.true_and, Bool.and_false, Bool.false_and, Bool.or_true, Bool.true_or, Bool.or_false, Bool.false_or, beq_self_eq_true, bne_self_eq_false, Bool.true_eq_false, Bool.false_eq_true, reduceCtorEq, Bool.and_self, Bool.or_self, Int.reduceBEq, Int.reduceBNe, Int.reduceNeg, decide_true, decide_false, Int.reduceLT, Int.reduceLE, Int.reduceGT]; done)
            | (show @Eq Bool _ _; simp only [p1, p1', Int.toNat_natCast, Bool.cond_true_left, Bool.cond_false_right, Bool.cond_true_right, Bool.cond_false_left, cond_true, cond_false, Bool.not_true, Bool.not_false, Bool.not_not, Bool.and_true, Bool.true_and, Bool.and_false, Bool.false_and, Bool.or_true, Bool.true_or, Bool.or_false, Bool.false_or, beq_self_eq_true, bne_self_eq_false, Bool.true_eq_false, Bool.false_eq_true, reduceCtorEq, Bool.and_self, Bool.or_self, Int.reduceBEq, Int.reduceBNe, Int.reduceNeg, decide_true, decide_false, Int.reduceLT, Int.reduceLE, Int.reduceGT]; done)
            | skip
        · have p1' : (tfE (tstOf a1 a2 b1 b2 c1 c2 n fun i => stpL (s i)) != 0) = false := p1
          have hok : okT ⟨⟨a1, a2⟩, ⟨b1, b2⟩, ⟨c1, c2⟩, n, s⟩ := tfE_ok (by simpa using p1)
          have eE : agrE ⟨⟨a1, a2⟩, ⟨b1, b2⟩, ⟨c1, c2⟩, n, s⟩ false = 2 := by unfold agrE; simp only [p1, cond_true, cond_false]
          have eL : agrLst ⟨⟨a1, a2⟩, ⟨b1, b2⟩, ⟨c1, c2⟩, n, s⟩ false = [] := by unfold agrLst; rw [eE]; rfl
          rw [eL, eE]
          repeat' first
            | exact nilG
            | exact PLe.refl _
            | exact BLe.refl _
            | exact PLeL.nil
            | exact BLeL.nil
            | refine ⟨?_, ?_⟩
            | refine PLeL.cons ?_ ?_
            | refine BLeL.cons ?_ ?_
            | refine ple_int ?_
            | refine ple_bool ?_
            | refine ple_tt ?_
            | refine ple_ff ?_
            | refine PLe.aggL ?_
            | refine PLe.tupL ?_
            | refine BLe.cellsL ?_
            | refine fun h => absurd h (by decide)
            | (refine fun h => ?_; exfalso; simp only [p1, p1', Int.toNat_natCast, Bool.cond_true_left, Bool.cond_false_right, Bool.cond_true_right, Bool.cond_false_left, cond_true, cond_false, Bool.not_true, Bool.not_false, Bool.not_not, Bool.and_true, Bool.true_and, Bool.and_false, Bool.false_and, Bool.or_true, Bool.true_or, Bool.or_false, Bool.false_or, beq_self_eq_true, bne_self_eq_false, Bool.true_eq_false, Bool.false_eq_true, reduceCtorEq, Bool.and_self, Bool.or_self, Int.reduceBEq, Int.reduceBNe, Int.reduceNeg, decide_true, decide_false, Int.reduceLT, Int.reduceLE, Int.reduceGT] at h; done)
            | refine fun (h : @Eq Bool _ _) => ?_
          all_goals first
            | trivial
            | rfl
            | omega
            | exact hL
            | (refine .mk hok ?_; rfl)
            | (simp only [p1, p1', Int.toNat_natCast, Bool.cond_true_left, Bool.cond_false_right, Bool.cond_true_right, Bool.cond_false_left, cond_true, cond_false, Bool.not_true, Bool.not_false, Bool.not_not, Bool.and_true, Bool.true_and, Bool.and_false, Bool.false_and, Bool.or_true, Bool.true_or, Bool.or_false, Bool.false_or, beq_self_eq_true, bne_self_eq_false, Bool.true_eq_false, Bool.false_eq_true, reduceCtorEq, Bool.and_self, Bool.or_self, Int.reduceBEq, Int.reduceBNe, Int.reduceNeg, decide_true, decide_false, Int.reduceLT, Int.reduceLE, Int.reduceGT]; done)
            | (show @Eq Bool _ _; simp only [p1, p1', Int.toNat_natCast, Bool.cond_true_left, Bool.cond_false_right, Bool.cond_true_right, Bool.cond_false_left, cond_true, cond_false, Bool.not_true, Bool.not_false, Bool.not_not, Bool.and_true, Bool.true_and, Bool.and_false, Bool.false_and, Bool.or_true, Bool.true_or, Bool.or_false, Bool.false_or, beq_self_eq_true, bne_self_eq_false, Bool.true_eq_false, Bool.false_eq_true, reduceCtorEq, Bool.and_self, Bool.or_self, Int.reduceBEq, Int.reduceBNe, Int.reduceNeg, decide_true, decide_false, Int.reduceLT, Int.reduceLE, Int.reduceGT]; done)
            | skip
      · subst h1
        show evalCode _ _ _ fun o => match o with
          | .normal st | .ret st => withP _ (_ ∧ PLe _ (.tup [.slice none (agrLst ⟨⟨a1, a2⟩, ⟨b1, b2⟩, ⟨c1, c2⟩, n, s⟩ b).length (listG (agrLst ⟨⟨a1, a2⟩, ⟨b1, b2⟩, ⟨c1, c2⟩, n, s⟩ b)), I (agrE ⟨⟨a1, a2⟩, ⟨b1, b2⟩, ⟨c1, c2⟩, n, s⟩ b)]))
          | _ => False
        refine (Bool.eq_false_or_eq_true (tfE ⟨⟨a1, a2⟩, ⟨b1, b2⟩, ⟨c1, c2⟩, n, s⟩ != 0)).elim (fun p1 => ?_) fun p1 => ?_
        · have p1' : (tfE (tstOf a1 a2 b1 b2 c1 c2 n fun i => stpL (s i)) != 0) = true := p1
          have p1n : (tfE ⟨⟨a1, a2⟩, ⟨b1, b2⟩, ⟨c1, c2⟩, n, s⟩ == 0) = false := by simpa using p1
          have eE : agrE ⟨⟨a1, a2⟩, ⟨b1, b2⟩, ⟨c1, c2⟩, n, s⟩ b = tfE ⟨⟨a1, a2⟩, ⟨b1, b2⟩, ⟨c1, c2⟩, n, s⟩ := by unfold agrE; simp only [p1, p1', cond_true, cond_false]
          have eL : agrLst ⟨⟨a1, a2⟩, ⟨b1, b2⟩, ⟨c1, c2⟩, n, s⟩ b = [] := by unfold agrLst; rw [eE]; rw [p1n]; rfl
          rw [eL, eE]
          repeat' first
            | exact nilG
            | exact PLe.refl _
            | exact BLe.refl _
            | exact PLeL.nil
            | exact BLeL.nil
            | refine ⟨?_, ?_⟩
            | refine PLeL.cons ?_ ?_
            | refine BLeL.cons ?_ ?_
            | refine ple_int ?_
            | refine ple_bool ?_
            | refine ple_tt ?_
            | refine ple_ff ?_
            | refine PLe.aggL ?_
            | refine PLe.tupL ?_
            | refine BLe.cellsL ?_
            | refine fun h => absurd h (by decide)
            | (refine fun h => ?_; exfalso; simp only [p1, p1', Int.toNat_natCast, Bool.cond_true_left, Bool.cond_false_right, Bool.cond_true_right, Bool.cond_false_left, cond_true, cond_false, Bool.not_true, Bool.not_false, Bool.not_not, Bool.and_true, Bool.true_and, Bool.and_false, Bool.false_and, Bool.or_true, Bool.true_or, Bool.or_false, Bool.false_or, beq_self_eq_true, bne_self_eq_false, Bool.true_eq_false, Bool.false_eq_true, reduceCtorEq, Bool.and_self, Bool.or_self, Int.reduceBEq, Int.reduceBNe, Int.reduceNeg, decide_true, decide_false, Int.reduceLT, Int.reduceLE, Int.reduceGT] at h; done)
            | refine fun (h : @Eq Bool _ _) => ?_
          all_goals first
            | trivial
            | rfl
            | omega
            | exact hL
            | (refine .mk hok ?_; rfl)
            | (simp only [p1, p1', Int.toNat_natCast, Bool.cond_true_left, Bool.cond_false_right, Bool.cond_true_right, Bool.cond_false_left, cond_true, cond_false, Bool.not_true, Bool.not_false, Bool.not_not, Bool.and_true, Bool.true_and, Bool.and_false, Bool.false_and, Bool.or_true, Bool.true_or, Bool.or_false, Bool.false_or, beq_self_eq_true, bne_self_eq_false, Bool.true_eq_false, Bool.false_eq_true, reduceCtorEq, Bool.and_self, Bool.or_self, Int.reduceBEq, Int.reduceBNe, Int.reduceNeg, decide_true, decide_false, Int.reduceLT, Int.reduceLE, Int.reduceGT]; done)
            | (show @Eq Bool _ _; simp only [p1, p1', Int.toNat_natCast, Bool.cond_true_left, Bool.cond_false_right, Bool.cond_true_right, Bool.cond_false_left, cond_true, cond_false, Bool.not_true, Bool.not_false, Bool.not_not, Bool.and_true, Bool.true_and, Bool.and_false, Bool.false_and, Bool.or_true, Bool.true_or, Bool.or_false, Bool.false_or, beq_self_eq_true, bne_self_eq_false, Bool.true_eq_false, Bool.false_eq_true, reduceCtorEq, Bool.and_self, Bool.or_self, Int.reduceBEq, Int.reduceBNe, Int.reduceNeg, decide_true, decide_false, Int.reduceLT, Int.reduceLE, Int.reduceGT]; done)
            | skip
        · have p1' : (tfE (tstOf a1 a2 b1 b2 c1 c2 n fun i => stpL (s i)) != 0) = false := p1
          have hok : okT ⟨⟨a1, a2⟩, ⟨b1, b2⟩, ⟨c1, c2⟩, n, s⟩ := tfE_ok (by simpa using p1)
          refine (Bool.eq_false_or_eq_true b).elim (fun p2 => ?_) fun p2 => ?_
          · subst p2
            refine (Bool.eq_false_or_eq_true (((famsM ⟨⟨a1, a2⟩, ⟨b1, b2⟩, ⟨c1, c2⟩, n, s⟩).length : Int) == 0)).elim (fun p3 => ?_) fun p3 => ?_
            · skip
              have p3' : (((famsM (tstOf a1 a2 b1 b2 c1 c2 n fun i => stpL (s i))).length : Int) == 0) = _ := p3
              have eE : agrE ⟨⟨a1, a2⟩, ⟨b1, b2⟩, ⟨c1, c2⟩, n, s⟩ true = 7 := by unfold agrE; simp only [p1, p3, cond_true, cond_false]
              have eL : agrLst ⟨⟨a1, a2⟩, ⟨b1, b2⟩, ⟨c1, c2⟩, n, s⟩ true = [] := by unfold agrLst; rw [eE]; rfl
              rw [eL, eE]
              repeat' first
                | exact nilG
                | exact PLe.refl _
                | exact BLe.refl _
                | exact PLeL.nil
                | exact BLeL.nil
                | refine ⟨?_, ?_⟩
                | refine PLeL.cons ?_ ?_
                | refine BLeL.cons ?_ ?_
                | refine ple_int ?_
                | refine ple_bool ?_
                | refine ple_tt ?_
                | refine ple_ff ?_
                | refine PLe.aggL ?_
                | refine PLe.tupL ?_
                | refine BLe.cellsL ?_
                | refine fun h => absurd h (by decide)
                | (refine fun h => ?_; exfalso; simp only [p1, p3, p1', p3', Int.toNat_natCast, Bool.cond_true_left, Bool.cond_false_right, Bool.cond_true_right, Bool.cond_false_left, cond_true, cond_false, Bool.not_true, Bool.not_false, Bool.not_not, Bool.and_true, Bool.true_and, Bool.and_false, Bool.false_and, Bool.or_true, Bool.true_or, Bool.or_false, Bool.false_or, beq_self_eq_true, bne_self_eq_false, Bool.true_eq_false, Bool.false_eq_true, reduceCtorEq, Bool.and_self, Bool.or_self, Int.reduceBEq, Int.reduceBNe, Int.reduceNeg, decide_true, decide_false, Int.reduceLT, Int.reduceLE, Int.reduceGT] at h; done)
                | refine fun (h : @Eq Bool _ _) => ?_
              all_goals first
                | trivial
                | rfl
                | omega
                | exact hL
                | (refine .mk hok ?_; rfl)
                | (simp only [p1, p3, p1', p3', Int.toNat_natCast, Bool.cond_true_left, Bool.cond_false_right, Bool.cond_true_right, Bool.cond_false_left, cond_true, cond_false, Bool.not_true, Bool.not_false, Bool.not_not, Bool.and_true, Bool.true_and, Bool.and_false, Bool.false_and, Bool.or_true, Bool.true_or, Bool.or_false, Bool.false_or, beq_self_eq_true, bne_self_eq_false, Bool.true_eq_false, Bool.false_eq_true, reduceCtorEq, Bool.and_self, Bool.or_self, Int.reduceBEq, Int.reduceBNe, Int.reduceNeg, decide_true, decide_false, Int.reduceLT, Int.reduceLE, Int.reduceGT]; done)
                | (show @Eq Bool _ _; simp only [p1, p3, p1', p3', Int.toNat_natCast, Bool.cond_true_left, Bool.cond_false_right, Bool.cond_true_right, Bool.cond_false_left, cond_true, cond_false, Bool.not_true, Bool.not_false, Bool.not_not, Bool.and_true, Bool.true_and, Bool.and_false, Bool.false_and, Bool.or_true, Bool.true_or, Bool.or_false, Bool.false_or, beq_self_eq_true, bne_self_eq_false, Bool.true_eq_false, Bool.false_eq_true, reduceCtorEq, Bool.and_self, Bool.or_self, Int.reduceBEq, Int.reduceBNe, Int.reduceNeg, decide_true, decide_false, Int.reduceLT, Int.reduceLE, Int.reduceGT]; done)
                | skip
            · skip
              have p3' : (((famsM (tstOf a1 a2 b1 b2 c1 c2 n fun i => stpL (s i))).length : Int) == 0) = _ := p3
              have eE : agrE ⟨⟨a1, a2⟩, ⟨b1, b2⟩, ⟨c1, c2⟩, n, s⟩ true = 0 := by unfold agrE; simp only [p1, p3, cond_true, cond_false]
              have eL : agrLst ⟨⟨a1, a2⟩, ⟨b1, b2⟩, ⟨c1, c2⟩, n, s⟩ true = famsM ⟨⟨a1, a2⟩, ⟨b1, b2⟩, ⟨c1, c2⟩, n, s⟩ := by unfold agrLst; rw [eE]; rfl
              rw [eL, eE]
              repeat' first
                | exact nilG
                | exact PLe.refl _
                | exact BLe.refl _
                | exact PLeL.nil
                | exact BLeL.nil
                | refine ⟨?_, ?_⟩
                | refine PLeL.cons ?_ ?_
                | refine BLeL.cons ?_ ?_
                | refine ple_int ?_
                | refine ple_bool ?_
                | refine ple_tt ?_
                | refine ple_ff ?_
                | refine PLe.aggL ?_
                | refine PLe.tupL ?_
                | refine BLe.cellsL ?_
                | refine fun h => absurd h (by decide)
                | (refine fun h => ?_; exfalso; simp only [p1, p3, p1', p3', Int.toNat_natCast, Bool.cond_true_left, Bool.cond_false_right, Bool.cond_true_right, Bool.cond_false_left, cond_true, cond_false, Bool.not_true, Bool.not_false, Bool.not_not, Bool.and_true, Bool.true_and, Bool.and_false, Bool.false_and, Bool.or_true, Bool.true_or, Bool.or_false, Bool.false_or, beq_self_eq_true, bne_self_eq_false, Bool.true_eq_false, Bool.false_eq_true, reduceCtorEq, Bool.and_self, Bool.or_self, Int.reduceBEq, Int.reduceBNe, Int.reduceNeg, decide_true, decide_false, Int.reduceLT, Int.reduceLE, Int.reduceGT] at h; done)
                | refine fun (h : @Eq Bool _ _) => ?_
              all_goals first
                | trivial
                | rfl
                | omega
                | exact hL
                | (refine .mk hok ?_; rfl)
                | (simp only [p1, p3, p1', p3', Int.toNat_natCast, Bool.cond_true_left, Bool.cond_false_right, Bool.cond_true_right, Bool.cond_false_left, cond_true, cond_false, Bool.not_true, Bool.not_false, Bool.not_not, Bool.and_true, Bool.true_and, Bool.and_false, Bool.false_and, Bool.or_true, Bool.true_or, Bool.or_false, Bool.false_or, beq_self_eq_true, bne_self_eq_false, Bool.true_eq_false, Bool.false_eq_true, reduceCtorEq, Bool.and_self, Bool.or_self, Int.reduceBEq, Int.reduceBNe, Int.reduceNeg, decide_true, decide_false, Int.reduceLT, Int.reduceLE, Int.reduceGT]; done)
                | (show @Eq Bool _ _; simp only [p1, p3, p1', p3', Int.toNat_natCast, Bool.cond_true_left, Bool.cond_false_right, Bool.cond_true_right, Bool.cond_false_left, cond_true, cond_false, Bool.not_true, Bool.not_false, Bool.not_not, Bool.and_true, Bool.true_and, Bool.and_false, Bool.false_and, Bool.or_true, Bool.true_or, Bool.or_false, Bool.false_or, beq_self_eq_true, bne_self_eq_false, Bool.true_eq_false, Bool.false_eq_true, reduceCtorEq, Bool.and_self, Bool.or_self, Int.reduceBEq, Int.reduceBNe, Int.reduceNeg, decide_true, decide_false, Int.reduceLT, Int.reduceLE, Int.reduceGT]; done)
                | skip
          · subst p2
            have eE : agrE ⟨⟨a1, a2⟩, ⟨b1, b2⟩, ⟨c1, c2⟩, n, s⟩ false = 2 := by unfold agrE; simp only [p1, cond_true, cond_false]
            have eL : agrLst ⟨⟨a1, a2⟩, ⟨b1, b2⟩, ⟨c1, c2⟩, n, s⟩ false = [] := by unfold agrLst; rw [eE]; rfl
            rw [eL, eE]
            repeat' first
              | exact nilG
              | exact PLe.refl _
              | exact BLe.refl _
              | exact PLeL.nil
              | exact BLeL.nil
              | refine ⟨?_, ?_⟩
              | refine PLeL.cons ?_ ?_
              | refine BLeL.cons ?_ ?_
              | refine ple_int ?_
              | refine ple_bool ?_
              | refine ple_tt ?_
              | refine ple_ff ?_
              | refine PLe.aggL ?_
              | refine PLe.tupL ?_
              | refine BLe.cellsL ?_
              | refine fun h => absurd h (by decide)
              | (refine fun h => ?_; exfalso; simp only [p1, p1', Int.toNat_natCast, Bool.cond_true_left, Bool.cond_false_right, Bool.cond_true_right, Bool.cond_false_left, cond_true, cond_false, Bool.not_true, Bool.not_false, Bool.not_not, Bool.and_true, Bool.true_and, Bool.and_false, Bool.false_and, Bool.or_true, Bool.true_or, Bool.or_false, Bool.false_or, beq_self_eq_true, bne_self_eq_false, Bool.true_eq_false, Bool.false_eq_true, reduceCtorEq, Bool.and_self, Bool.or_self, Int.reduceBEq, Int.reduceBNe, Int.reduceNeg, decide_true, decide_false, Int.reduceLT, Int.reduceLE, Int.reduceGT] at h; done)
              | refine fun (h : @Eq Bool _ _) => ?_
            all_goals first
              | trivial
              | rfl
              | omega
              | exact hL
              | (refine .mk hok ?_; rfl)
              | (simp only [p1, p1', Int.toNat_natCast, Bool.cond_true_left, Bool.cond_false_right, Bool.cond_true_right, Bool.cond_false_left, cond_true, cond_false, Bool.not_true, Bool.not_false, Bool.not_not, Bool.and_true, Bool.true_and, Bool.and_false, Bool.false_and, Bool.or_true, Bool.true_or, Bool.or_false, Bool.false_or, beq_self_eq_true, bne_self_eq_false, Bool.true_eq_false, Bool.false_eq_true, reduceCtorEq, Bool.and_self, Bool.or_self, Int.reduceBEq, Int.reduceBNe, Int.reduceNeg, decide_true, decide_false, Int.reduceLT, Int.reduceLE, Int.reduceGT]; done)
              | (show @Eq Bool _ _; simp only [p1, p1', Int.toNat_natCast, Bool.cond_true_left, Bool.cond_false_right, Bool.cond_true_right, Bool.cond_false_left, cond_true, cond_false, Bool.not_true, Bool.not_false, Bool.not_not, Bool.and_true, Bool.true_and, Bool.and_false, Bool.false_and, Bool.or_true, Bool.true_or, Bool.or_false, Bool.false_or, beq_self_eq_true, bne_self_eq_false, Bool.true_eq_false, Bool.false_eq_true, reduceCtorEq, Bool.and_self, Bool.or_self, Int.reduceBEq, Int.reduceBNe, Int.reduceNeg, decide_true, decide_false, Int.reduceLT, Int.reduceLE, Int.reduceGT]; done)
              | skip
    · exact h.elim
  · exact h.elim
end Go.Proofs.Ytnjhbmcambofgaa
