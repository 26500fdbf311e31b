/- Layer 4: Curves and Drawdown by the document's words; the errors that a law expects. -/
import Derived.Test.YtnjhbmcambofgaaS9
namespace Go.Proofs.Ytnjhbmcambofgaa
open Go.V
set_option linter.unusedSimpArgs false

def okR (t : Tst) (b c : Int) : Prop := decide ((setM t b c).lo ≤ (setM t b c).hi) = true
theorem addF_yes {t : Tst} {b c : Int} {l : List Fam} (h : decide ((setR t b c t.n).hi < (setR t b c t.n).lo) = false) : addF t b c l = l ++ [famM t b c] ∧ okR t b c := by
  rw [setR_eq] at h
  have h1 : decide ((setM t b c).lo ≤ (setM t b c).hi) = true := decide_eq_true (by have := of_decide_eq_false h; omega)
  refine ⟨?_, h1⟩
  unfold addF
  rw [h1]
  rfl
theorem addF_no {t : Tst} {b c : Int} {l : List Fam} (h : decide ((setR t b c t.n).hi < (setR t b c t.n).lo) = true) : addF t b c l = l := by
  rw [setR_eq] at h
  have h1 : decide ((setM t b c).lo ≤ (setM t b c).hi) = false := decide_eq_false (by have := of_decide_eq_true h; omega)
  unfold addF
  rw [h1]
  rfl
theorem many_ref {t : Tst} {b c : Int} {l : List Fam} (h : okT t) (hp : okR t b c) (hn : l.length ≤ 1640) (hl : ∀ x ∈ l, okF x) :
    w (w (w (manyL l + (setR t b c t.n).hi) - (setR t b c t.n).lo) + 1) = manyL (l ++ [famM t b c]) := by
  have ⟨h1, h2⟩ := manyL_bd hn hl
  have h3 := famM_ok h hp
  have h4 := h3.lo
  have h5 := h3.le
  have h6 := h3.hi
  rw [manyL_snoc, cntR_ok h3, setR_eq]
  have e1 : (setM t b c).lo = (famM t b c).lo := rfl
  have e2 : (setM t b c).hi = (famM t b c).hi := rfl
  rw [e1, e2, ww (n := manyL l + _) (by omega) (by omega), ww (n := _ - _) (by omega) (by omega)]
  congr 1
  omega
theorem setR_F {t : Tst} {b c : Int} : restsF (famM t b c) = setR t b c t.n := by rw [setR_eq]; rfl
def refCurvesS : V.Spec
  | [.agg [.int .i64 a1, .int .i64 a2, .int .i64 b1, .int .i64 b2, .int .i64 c1, .int .i64 c2, .slice none n get]] => (some (isT (tstOf a1 a2 b1 b2 c1 c2 n get) get), .tup [I (manyL (famsM (tstOf a1 a2 b1 b2 c1 c2 n get))), encR (encL restsF (famsM (tstOf a1 a2 b1 b2 c1 c2 n get))), encR (encL bF (famsM (tstOf a1 a2 b1 b2 c1 c2 n get))), encR (encL cF (famsM (tstOf a1 a2 b1 b2 c1 c2 n get)))])
  | _ => bad
set_option maxRecDepth 20000 in
set_option maxHeartbeats 1000000 in
theorem sf26 : SF Try.prog 26 refCurvesS := by
  refine sf_of types_ok mixed (l := [(78, setRS), (79, spanS)]) ⟨sf78, sf79, trivial⟩ (es := []) trivial 1 Try.func26 rfl (by kernel_rfl) fun args h => ?_
  unfold refCurvesS at h
  split at h
  · rename_i a1 a2 b1 b2 c1 c2 n get
    obtain ⟨hok, e⟩ := isT.get h
    obtain ⟨s, rfl⟩ : ∃ s : Nat → Stp, get = fun i => stpL (s i) := ⟨_, e⟩
    clear h e
    refine ⟨rfl, ?_⟩
    show evalCode _ _ _ fun o => match o with
      | .normal st | .ret st => withP _ (_ ∧ PLe _ (.tup [I (manyL (famsM (tstOf a1 a2 b1 b2 c1 c2 n fun i => stpL (s i)))), encR (encL restsF (famsM (tstOf a1 a2 b1 b2 c1 c2 n fun i => stpL (s i)))), encR (encL bF (famsM (tstOf a1 a2 b1 b2 c1 c2 n fun i => stpL (s i)))), encR (encL cF (famsM (tstOf a1 a2 b1 b2 c1 c2 n fun i => stpL (s i))))]))
      | _ => False
    have hn : n ≤ 12 := hok.n
    have hb : 0 ≤ b1 ∧ b1 ≤ b2 ∧ b2 ≤ 10000 ∧ b2 - b1 ≤ 39 := hok.b
    have hc : 0 ≤ c1 ∧ c1 ≤ c2 ∧ c2 ≤ 1000 ∧ c2 - c1 ≤ 39 := hok.c
    have hLs : isL stpL n fun i => stpL (s i) := .mk s (by omega) rfl
    have hnbD : ((tstOf a1 a2 b1 b2 c1 c2 n fun i => stpL (s i))).nb = (b2 - b1 + 1).toNat := rfl
    have hncD : ((tstOf a1 a2 b1 b2 c1 c2 n fun i => stpL (s i))).nc = (c2 - c1 + 1).toNat := rfl
    have hnb : ((tstOf a1 a2 b1 b2 c1 c2 n fun i => stpL (s i))).nb ≤ 40 := by rw [hnbD]; omega
    have hnc : ((tstOf a1 a2 b1 b2 c1 c2 n fun i => stpL (s i))).nc ≤ 40 := by rw [hncD]; omega
    have hall : ∀ i, i ≤ ((tstOf a1 a2 b1 b2 c1 c2 n fun i => stpL (s i))).nb → (allF (tstOf a1 a2 b1 b2 c1 c2 n fun i => stpL (s i)) i).length ≤ 1600 := fun i hi => Nat.le_trans (allF_len _ i) (Nat.le_trans (Nat.mul_le_mul hi hnc) (by omega))
    repeat' first
      | exact PLe.refl _
      | exact BLe.refl _
      | exact PLeL.nil
      | exact BLeL.nil
      | refine ⟨?_, ?_⟩
      | refine PLeL.cons ?_ ?_
      | refine BLeL.cons ?_ ?_
      | refine ple_int ?_
      | refine ple_bool ?_
      | refine ple_tt ?_
      | refine ple_ff ?_
      | refine PLe.aggL ?_
      | refine PLe.tupL ?_
      | refine BLe.cellsL ?_
      | refine halt_rng (cntF 10 b1) ((tstOf a1 a2 b1 b2 c1 c2 n fun i => stpL (s i))).nb [1, 3, 4, 5, 6, 7, 8, 9, 10] [1, 3, 4, 5, 7, 8, 9] (fun i => [.ptr 1 0, .ptr 3 0, .ptr 4 0, .ptr 5 0, I (manyL (allF (tstOf a1 a2 b1 b2 c1 c2 n fun i => stpL (s i)) i)), .ptr 7 0, .ptr 8 0, .ptr 9 0, I (b1 + i)]) (fun i => [.cells [I a1, I a2, I b1, I b2, I c1, I c2, .slice none n fun i => stpL (s i)], .cells [I 0, I 0], .cells [I 0, I 0], .cells [I 0, I 0], .cells (rngL (encL restsF (allF (tstOf a1 a2 b1 b2 c1 c2 n fun i => stpL (s i)) i))), .cells (rngL (encL bF (allF (tstOf a1 a2 b1 b2 c1 c2 n fun i => stpL (s i)) i))), .cells (rngL (encL cF (allF (tstOf a1 a2 b1 b2 c1 c2 n fun i => stpL (s i)) i)))]) (fun _ => True) rfl (.mk ?_ ?_) trivial ?_
      | refine fun h => absurd h (by decide)
      | refine fun (h : @Eq Bool _ _) => ?_
    all_goals first
      | trivial
      | rfl
      | omega
      | skip
    intro i hi _
    refine ⟨fun h1 => ?_, fun h1 => ?_⟩
    · have h1 : b1 + (i : Int) ≤ b2 := of_decide_eq_true h1
      have hib : i < ((tstOf a1 a2 b1 b2 c1 c2 n fun i => stpL (s i))).nb := by rw [hnbD]; omega
      have e1 : IntKind.i64.wrap (b1 + (i : Int) + 1) = b1 + ((i + 1 : Nat) : Int) := by rw [w64 (by omega) (by omega)]; omega
      repeat' first
        | exact PLe.refl _
        | exact BLe.refl _
        | exact PLeL.nil
        | exact BLeL.nil
        | refine ⟨?_, ?_⟩
        | refine PLeL.cons ?_ ?_
        | refine BLeL.cons ?_ ?_
        | refine ple_int ?_
        | refine ple_bool ?_
        | refine ple_tt ?_
        | refine ple_ff ?_
        | refine PLe.aggL ?_
        | refine PLe.tupL ?_
        | refine BLe.cellsL ?_
        | refine halt_rng (cntF 11 c1) ((tstOf a1 a2 b1 b2 c1 c2 n fun i => stpL (s i))).nc [1, 3, 4, 5, 6, 7, 8, 9, 10, 11] [1, 3, 4, 5, 7, 8, 9] (fun j => [.ptr 1 0, .ptr 3 0, .ptr 4 0, .ptr 5 0, I (manyL (rowF (tstOf a1 a2 b1 b2 c1 c2 n fun i => stpL (s i)) (b1 + (i : Int)) (allF (tstOf a1 a2 b1 b2 c1 c2 n fun i => stpL (s i)) i) j)), .ptr 7 0, .ptr 8 0, .ptr 9 0, I (b1 + i), I (c1 + j)]) (fun j => [.cells [I a1, I a2, I b1, I b2, I c1, I c2, .slice none n fun i => stpL (s i)], .cells [I 0, I 0], .cells [I 0, I 0], .cells [I 0, I 0], .cells (rngL (encL restsF (rowF (tstOf a1 a2 b1 b2 c1 c2 n fun i => stpL (s i)) (b1 + (i : Int)) (allF (tstOf a1 a2 b1 b2 c1 c2 n fun i => stpL (s i)) i) j))), .cells (rngL (encL bF (rowF (tstOf a1 a2 b1 b2 c1 c2 n fun i => stpL (s i)) (b1 + (i : Int)) (allF (tstOf a1 a2 b1 b2 c1 c2 n fun i => stpL (s i)) i) j))), .cells (rngL (encL cF (rowF (tstOf a1 a2 b1 b2 c1 c2 n fun i => stpL (s i)) (b1 + (i : Int)) (allF (tstOf a1 a2 b1 b2 c1 c2 n fun i => stpL (s i)) i) j)))]) (fun _ => True) rfl (.mk ?_ ?_) trivial ?_
        | refine fun h => absurd h (by decide)
        | refine fun (h : @Eq Bool _ _) => ?_
      all_goals first
        | trivial
        | rfl
        | omega
        | skip
      intro j hj _
      refine ⟨fun h2 => ?_, fun h2 => ?_⟩
      · have h2 : c1 + (j : Int) ≤ c2 := of_decide_eq_true h2
        have hjc : j < ((tstOf a1 a2 b1 b2 c1 c2 n fun i => stpL (s i))).nc := by rw [hncD]; omega
        have e2 : IntKind.i64.wrap (c1 + (j : Int) + 1) = c1 + ((j + 1 : Nat) : Int) := by rw [w64 (by omega) (by omega)]; omega
        have hlen : (rowF (tstOf a1 a2 b1 b2 c1 c2 n fun i => stpL (s i)) (b1 + (i : Int)) (allF (tstOf a1 a2 b1 b2 c1 c2 n fun i => stpL (s i)) i) j).length ≤ 1640 := Nat.le_trans (rowF_len ..) (by have := hall i (by omega); omega)
        have hLok : ∀ x ∈ (rowF (tstOf a1 a2 b1 b2 c1 c2 n fun i => stpL (s i)) (b1 + (i : Int)) (allF (tstOf a1 a2 b1 b2 c1 c2 n fun i => stpL (s i)) i) j), okF x := rowF_ok hok (allF_ok hok i) j
        have eN : rowF (tstOf a1 a2 b1 b2 c1 c2 n fun i => stpL (s i)) (b1 + (i : Int)) (allF (tstOf a1 a2 b1 b2 c1 c2 n fun i => stpL (s i)) i) (j + 1) = addF (tstOf a1 a2 b1 b2 c1 c2 n fun i => stpL (s i)) (b1 + (i : Int)) (c1 + (j : Int)) (rowF (tstOf a1 a2 b1 b2 c1 c2 n fun i => stpL (s i)) (b1 + (i : Int)) (allF (tstOf a1 a2 b1 b2 c1 c2 n fun i => stpL (s i)) i) j) := rfl
        refine (Bool.eq_false_or_eq_true (decide ((setR (tstOf a1 a2 b1 b2 c1 c2 n fun i => stpL (s i)) (b1 + (i : Int)) (c1 + (j : Int)) n).hi < (setR (tstOf a1 a2 b1 b2 c1 c2 n fun i => stpL (s i)) (b1 + (i : Int)) (c1 + (j : Int)) n).lo))).elim (fun q1 => ?_) fun q1 => ?_
        · rw [addF_no (t := (tstOf a1 a2 b1 b2 c1 c2 n fun i => stpL (s i))) q1] at eN
          repeat' first
            | exact PLe.refl _
            | exact BLe.refl _
            | exact PLeL.nil
            | exact BLeL.nil
            | refine ⟨?_, ?_⟩
            | refine PLeL.cons ?_ ?_
            | refine BLeL.cons ?_ ?_
            | refine ple_int ?_
            | refine ple_bool ?_
            | refine ple_tt ?_
            | refine ple_ff ?_
            | refine PLe.aggL ?_
            | refine PLe.tupL ?_
            | refine BLe.cellsL ?_
            | refine next_rng (cn := cntF 11 c1) rfl (fun m => by show (c1 + (m : Int) - c1).toNat = m; omega) hjc trivial (.mk ?_ ?_)
            | refine fun h => absurd h (by decide)
            | (refine fun h => ?_; exfalso; simp only [q1, Int.toNat_natCast, Bool.cond_true_left, Bool.cond_false_right, Bool.cond_true_right, Bool.cond_false_left, cond_true, cond_false, Bool.not_true, Bool.not_false, Bool.not_not, Bool.and_true, Bool.true_and, Bool.and_false, Bool.false_and, Bool.or_true, Bool.true_or, Bool.or_false, Bool.false_or, beq_self_eq_true, bne_self_eq_false, Bool.true_eq_false, Bool.false_eq_true, reduceCtorEq, Bool.and_self, Bool.or_self, Int.reduceBEq, Int.reduceBNe, Int.reduceNeg, decide_true, decide_false, Int.reduceLT, Int.reduceLE, Int.reduceGT] at h; done)
            | refine fun (h : @Eq Bool _ _) => ?_
          all_goals first
            | trivial
            | rfl
            | omega
            | exact e2
            | (rw [eN]; done)
            | exact hLs
            | (simp only [q1, Int.toNat_natCast, Bool.cond_true_left, Bool.cond_false_right, Bool.cond_true_right, Bool.cond_false_left, cond_true, cond_false, Bool.not_true, Bool.not_false, Bool.not_not, Bool.and_true, Bool.true_and, Bool.and_false, Bool.false_and, Bool.or_true, Bool.true_or, Bool.or_false, Bool.false_or, beq_self_eq_true, bne_self_eq_false, Bool.true_eq_false, Bool.false_eq_true, reduceCtorEq, Bool.and_self, Bool.or_self, Int.reduceBEq, Int.reduceBNe, Int.reduceNeg, decide_true, decide_false, Int.reduceLT, Int.reduceLE, Int.reduceGT]; done)
            | (show @Eq Bool _ _; simp only [q1, Int.toNat_natCast, Bool.cond_true_left, Bool.cond_false_right, Bool.cond_true_right, Bool.cond_false_left, cond_true, cond_false, Bool.not_true, Bool.not_false, Bool.not_not, Bool.and_true, Bool.true_and, Bool.and_false, Bool.false_and, Bool.or_true, Bool.true_or, Bool.or_false, Bool.false_or, beq_self_eq_true, bne_self_eq_false, Bool.true_eq_false, Bool.false_eq_true, reduceCtorEq, Bool.and_self, Bool.or_self, Int.reduceBEq, Int.reduceBNe, Int.reduceNeg, decide_true, decide_false, Int.reduceLT, Int.reduceLE, Int.reduceGT]; done)
            | skip
        · have ⟨eY, hR⟩ := addF_yes (t := (tstOf a1 a2 b1 b2 c1 c2 n fun i => stpL (s i))) (l := (rowF (tstOf a1 a2 b1 b2 c1 c2 n fun i => stpL (s i)) (b1 + (i : Int)) (allF (tstOf a1 a2 b1 b2 c1 c2 n fun i => stpL (s i)) i) j)) q1
          rw [eY] at eN
          clear eY
          have eM := many_ref hok hR hlen hLok
          rw [← eN] at eM
          refine (Bool.eq_false_or_eq_true (manyL (rowF (tstOf a1 a2 b1 b2 c1 c2 n fun i => stpL (s i)) (b1 + (i : Int)) (allF (tstOf a1 a2 b1 b2 c1 c2 n fun i => stpL (s i)) i) j) == 0)).elim (fun q2 => ?_) fun q2 => ?_
          · have hz := manyL_zero hlen hLok q2
            have erestsF : encL restsF (rowF (tstOf a1 a2 b1 b2 c1 c2 n fun i => stpL (s i)) (b1 + (i : Int)) (allF (tstOf a1 a2 b1 b2 c1 c2 n fun i => stpL (s i)) i) (j + 1)) = span (restsF (famM (tstOf a1 a2 b1 b2 c1 c2 n fun i => stpL (s i)) (b1 + (i : Int)) (c1 + (j : Int)))) (restsF (famM (tstOf a1 a2 b1 b2 c1 c2 n fun i => stpL (s i)) (b1 + (i : Int)) (c1 + (j : Int)))) := by rw [eN, hz]; rfl
            have ebF : encL bF (rowF (tstOf a1 a2 b1 b2 c1 c2 n fun i => stpL (s i)) (b1 + (i : Int)) (allF (tstOf a1 a2 b1 b2 c1 c2 n fun i => stpL (s i)) i) (j + 1)) = span (bF (famM (tstOf a1 a2 b1 b2 c1 c2 n fun i => stpL (s i)) (b1 + (i : Int)) (c1 + (j : Int)))) (bF (famM (tstOf a1 a2 b1 b2 c1 c2 n fun i => stpL (s i)) (b1 + (i : Int)) (c1 + (j : Int)))) := by rw [eN, hz]; rfl
            have ecF : encL cF (rowF (tstOf a1 a2 b1 b2 c1 c2 n fun i => stpL (s i)) (b1 + (i : Int)) (allF (tstOf a1 a2 b1 b2 c1 c2 n fun i => stpL (s i)) i) (j + 1)) = span (cF (famM (tstOf a1 a2 b1 b2 c1 c2 n fun i => stpL (s i)) (b1 + (i : Int)) (c1 + (j : Int)))) (cF (famM (tstOf a1 a2 b1 b2 c1 c2 n fun i => stpL (s i)) (b1 + (i : Int)) (c1 + (j : Int)))) := by rw [eN, hz]; rfl
            have er : encL restsF (rowF (tstOf a1 a2 b1 b2 c1 c2 n fun i => stpL (s i)) (b1 + (i : Int)) (allF (tstOf a1 a2 b1 b2 c1 c2 n fun i => stpL (s i)) i) (j + 1)) = span (setR (tstOf a1 a2 b1 b2 c1 c2 n fun i => stpL (s i)) (b1 + (i : Int)) (c1 + (j : Int)) n) (setR (tstOf a1 a2 b1 b2 c1 c2 n fun i => stpL (s i)) (b1 + (i : Int)) (c1 + (j : Int)) n) := by rw [erestsF, setR_F]; rfl
            repeat' first
              | exact PLe.refl _
              | exact BLe.refl _
              | exact PLeL.nil
              | exact BLeL.nil
              | refine ⟨?_, ?_⟩
              | refine PLeL.cons ?_ ?_
              | refine BLeL.cons ?_ ?_
              | refine ple_int ?_
              | refine ple_bool ?_
              | refine ple_tt ?_
              | refine ple_ff ?_
              | refine PLe.aggL ?_
              | refine PLe.tupL ?_
              | refine BLe.cellsL ?_
              | refine next_rng (cn := cntF 11 c1) rfl (fun m => by show (c1 + (m : Int) - c1).toNat = m; omega) hjc trivial (.mk ?_ ?_)
              | refine fun h => absurd h (by decide)
              | (refine fun h => ?_; exfalso; simp only [q1, q2, Int.toNat_natCast, Bool.cond_true_left, Bool.cond_false_right, Bool.cond_true_right, Bool.cond_false_left, cond_true, cond_false, Bool.not_true, Bool.not_false, Bool.not_not, Bool.and_true, Bool.true_and, Bool.and_false, Bool.false_and, Bool.or_true, Bool.true_or, Bool.or_false, Bool.false_or, beq_self_eq_true, bne_self_eq_false, Bool.true_eq_false, Bool.false_eq_true, reduceCtorEq, Bool.and_self, Bool.or_self, Int.reduceBEq, Int.reduceBNe, Int.reduceNeg, decide_true, decide_false, Int.reduceLT, Int.reduceLE, Int.reduceGT] at h; done)
              | refine fun (h : @Eq Bool _ _) => ?_
            all_goals first
              | trivial
              | rfl
              | omega
              | exact e2
              | exact hLs
              | exact eM
              | exact (congrArg Rng.lo erestsF).symm
              | exact (congrArg Rng.hi erestsF).symm
              | exact (congrArg Rng.lo ebF).symm
              | exact (congrArg Rng.hi ebF).symm
              | exact (congrArg Rng.lo ecF).symm
              | exact (congrArg Rng.hi ecF).symm
              | exact (congrArg Rng.lo er).symm
              | exact (congrArg Rng.hi er).symm
              | (simp only [q1, q2, Int.toNat_natCast, Bool.cond_true_left, Bool.cond_false_right, Bool.cond_true_right, Bool.cond_false_left, cond_true, cond_false, Bool.not_true, Bool.not_false, Bool.not_not, Bool.and_true, Bool.true_and, Bool.and_false, Bool.false_and, Bool.or_true, Bool.true_or, Bool.or_false, Bool.false_or, beq_self_eq_true, bne_self_eq_false, Bool.true_eq_false, Bool.false_eq_true, reduceCtorEq, Bool.and_self, Bool.or_self, Int.reduceBEq, Int.reduceBNe, Int.reduceNeg, decide_true, decide_false, Int.reduceLT, Int.reduceLE, Int.reduceGT]; done)
              | (show @Eq Bool _ _; simp only [q1, q2, Int.toNat_natCast, Bool.cond_true_left, Bool.cond_false_right, Bool.cond_true_right, Bool.cond_false_left, cond_true, cond_false, Bool.not_true, Bool.not_false, Bool.not_not, Bool.and_true, Bool.true_and, Bool.and_false, Bool.false_and, Bool.or_true, Bool.true_or, Bool.or_false, Bool.false_or, beq_self_eq_true, bne_self_eq_false, Bool.true_eq_false, Bool.false_eq_true, reduceCtorEq, Bool.and_self, Bool.or_self, Int.reduceBEq, Int.reduceBNe, Int.reduceNeg, decide_true, decide_false, Int.reduceLT, Int.reduceLE, Int.reduceGT]; done)
              | skip
          · have hz := manyL_one q2
            have erestsF : encL restsF (rowF (tstOf a1 a2 b1 b2 c1 c2 n fun i => stpL (s i)) (b1 + (i : Int)) (allF (tstOf a1 a2 b1 b2 c1 c2 n fun i => stpL (s i)) i) (j + 1)) = span (encL restsF (rowF (tstOf a1 a2 b1 b2 c1 c2 n fun i => stpL (s i)) (b1 + (i : Int)) (allF (tstOf a1 a2 b1 b2 c1 c2 n fun i => stpL (s i)) i) j)) (restsF (famM (tstOf a1 a2 b1 b2 c1 c2 n fun i => stpL (s i)) (b1 + (i : Int)) (c1 + (j : Int)))) := by rw [eN]; exact encL_snoc hz
            have ebF : encL bF (rowF (tstOf a1 a2 b1 b2 c1 c2 n fun i => stpL (s i)) (b1 + (i : Int)) (allF (tstOf a1 a2 b1 b2 c1 c2 n fun i => stpL (s i)) i) (j + 1)) = span (encL bF (rowF (tstOf a1 a2 b1 b2 c1 c2 n fun i => stpL (s i)) (b1 + (i : Int)) (allF (tstOf a1 a2 b1 b2 c1 c2 n fun i => stpL (s i)) i) j)) (bF (famM (tstOf a1 a2 b1 b2 c1 c2 n fun i => stpL (s i)) (b1 + (i : Int)) (c1 + (j : Int)))) := by rw [eN]; exact encL_snoc hz
            have ecF : encL cF (rowF (tstOf a1 a2 b1 b2 c1 c2 n fun i => stpL (s i)) (b1 + (i : Int)) (allF (tstOf a1 a2 b1 b2 c1 c2 n fun i => stpL (s i)) i) (j + 1)) = span (encL cF (rowF (tstOf a1 a2 b1 b2 c1 c2 n fun i => stpL (s i)) (b1 + (i : Int)) (allF (tstOf a1 a2 b1 b2 c1 c2 n fun i => stpL (s i)) i) j)) (cF (famM (tstOf a1 a2 b1 b2 c1 c2 n fun i => stpL (s i)) (b1 + (i : Int)) (c1 + (j : Int)))) := by rw [eN]; exact encL_snoc hz
            have er : encL restsF (rowF (tstOf a1 a2 b1 b2 c1 c2 n fun i => stpL (s i)) (b1 + (i : Int)) (allF (tstOf a1 a2 b1 b2 c1 c2 n fun i => stpL (s i)) i) (j + 1)) = span (encL restsF (rowF (tstOf a1 a2 b1 b2 c1 c2 n fun i => stpL (s i)) (b1 + (i : Int)) (allF (tstOf a1 a2 b1 b2 c1 c2 n fun i => stpL (s i)) i) j)) (setR (tstOf a1 a2 b1 b2 c1 c2 n fun i => stpL (s i)) (b1 + (i : Int)) (c1 + (j : Int)) n) := by rw [erestsF, setR_F]; rfl
            repeat' first
              | exact PLe.refl _
              | exact BLe.refl _
              | exact PLeL.nil
              | exact BLeL.nil
              | refine ⟨?_, ?_⟩
              | refine PLeL.cons ?_ ?_
              | refine BLeL.cons ?_ ?_
              | refine ple_int ?_
              | refine ple_bool ?_
              | refine ple_tt ?_
              | refine ple_ff ?_
              | refine PLe.aggL ?_
              | refine PLe.tupL ?_
              | refine BLe.cellsL ?_
              | refine next_rng (cn := cntF 11 c1) rfl (fun m => by show (c1 + (m : Int) - c1).toNat = m; omega) hjc trivial (.mk ?_ ?_)
              | refine fun h => absurd h (by decide)
              | (refine fun h => ?_; exfalso; simp only [q1, q2, Int.toNat_natCast, Bool.cond_true_left, Bool.cond_false_right, Bool.cond_true_right, Bool.cond_false_left, cond_true, cond_false, Bool.not_true, Bool.not_false, Bool.not_not, Bool.and_true, Bool.true_and, Bool.and_false, Bool.false_and, Bool.or_true, Bool.true_or, Bool.or_false, Bool.false_or, beq_self_eq_true, bne_self_eq_false, Bool.true_eq_false, Bool.false_eq_true, reduceCtorEq, Bool.and_self, Bool.or_self, Int.reduceBEq, Int.reduceBNe, Int.reduceNeg, decide_true, decide_false, Int.reduceLT, Int.reduceLE, Int.reduceGT] at h; done)
              | refine fun (h : @Eq Bool _ _) => ?_
            all_goals first
              | trivial
              | rfl
              | omega
              | exact e2
              | exact hLs
              | exact eM
              | exact (congrArg Rng.lo erestsF).symm
              | exact (congrArg Rng.hi erestsF).symm
              | exact (congrArg Rng.lo ebF).symm
              | exact (congrArg Rng.hi ebF).symm
              | exact (congrArg Rng.lo ecF).symm
              | exact (congrArg Rng.hi ecF).symm
              | exact (congrArg Rng.lo er).symm
              | exact (congrArg Rng.hi er).symm
              | (simp only [q1, q2, Int.toNat_natCast, Bool.cond_true_left, Bool.cond_false_right, Bool.cond_true_right, Bool.cond_false_left, cond_true, cond_false, Bool.not_true, Bool.not_false, Bool.not_not, Bool.and_true, Bool.true_and, Bool.and_false, Bool.false_and, Bool.or_true, Bool.true_or, Bool.or_false, Bool.false_or, beq_self_eq_true, bne_self_eq_false, Bool.true_eq_false, Bool.false_eq_true, reduceCtorEq, Bool.and_self, Bool.or_self, Int.reduceBEq, Int.reduceBNe, Int.reduceNeg, decide_true, decide_false, Int.reduceLT, Int.reduceLE, Int.reduceGT]; done)
              | (show @Eq Bool _ _; simp only [q1, q2, Int.toNat_natCast, Bool.cond_true_left, Bool.cond_false_right, Bool.cond_true_right, Bool.cond_false_left, cond_true, cond_false, Bool.not_true, Bool.not_false, Bool.not_not, Bool.and_true, Bool.true_and, Bool.and_false, Bool.false_and, Bool.or_true, Bool.true_or, Bool.or_false, Bool.false_or, beq_self_eq_true, bne_self_eq_false, Bool.true_eq_false, Bool.false_eq_true, reduceCtorEq, Bool.and_self, Bool.or_self, Int.reduceBEq, Int.reduceBNe, Int.reduceNeg, decide_true, decide_false, Int.reduceLT, Int.reduceLE, Int.reduceGT]; done)
              | skip
      · have hjn : j = ((tstOf a1 a2 b1 b2 c1 c2 n fun i => stpL (s i))).nc := by
          have h2 : ¬ c1 + (j : Int) ≤ c2 := of_decide_eq_false h2
          rw [hncD] at hj ⊢; omega
        subst hjn
        clear h2
        repeat' first
          | exact PLe.refl _
          | exact BLe.refl _
          | exact PLeL.nil
          | exact BLeL.nil
          | refine ⟨?_, ?_⟩
          | refine PLeL.cons ?_ ?_
          | refine BLeL.cons ?_ ?_
          | refine ple_int ?_
          | refine ple_bool ?_
          | refine ple_tt ?_
          | refine ple_ff ?_
          | refine PLe.aggL ?_
          | refine PLe.tupL ?_
          | refine BLe.cellsL ?_
          | refine next_rng (cn := cntF 10 b1) rfl (fun m => by show (b1 + (m : Int) - b1).toNat = m; omega) hib trivial (.mk ?_ ?_)
          | refine fun h => absurd h (by decide)
          | refine fun (h : @Eq Bool _ _) => ?_
        all_goals first
          | trivial
          | rfl
          | omega
          | exact e1
          | skip
    · have hin : i = ((tstOf a1 a2 b1 b2 c1 c2 n fun i => stpL (s i))).nb := by
        have h1 : ¬ b1 + (i : Int) ≤ b2 := of_decide_eq_false h1
        rw [hnbD] at hi ⊢; omega
      subst hin
      clear h1
      repeat' first
        | exact PLe.refl _
        | exact BLe.refl _
        | exact PLeL.nil
        | exact BLeL.nil
        | refine ⟨?_, ?_⟩
        | refine PLeL.cons ?_ ?_
        | refine BLeL.cons ?_ ?_
        | refine ple_int ?_
        | refine ple_bool ?_
        | refine ple_tt ?_
        | refine ple_ff ?_
        | refine PLe.aggL ?_
        | refine PLe.tupL ?_
        | refine BLe.cellsL ?_
        | refine fun h => absurd h (by decide)
        | refine fun (h : @Eq Bool _ _) => ?_
      all_goals first
        | trivial
        | rfl
        | omega
        | skip
  · exact h.elim
theorem ww_add (a b : Int) : w (w a + b) = w (a + b) := by rw [Int.add_comm, w_add, Int.add_comm]
theorem drop_lo (a b c q : Int) : w (a + dropI 0 b c q) = dropI a b c q := by
  unfold dropI
  rw [w_add a (w (0 + w (b * q)) + w (w (c * q) * q)), w_add 0 (b * q), Int.zero_add, ww_add (a + w (b * q)), Int.add_assoc]
theorem drop_F {t : Tst} {b c q : Int} : dropF q (famM t b c) = ⟨dropI (setR t b c t.n).lo b c q, dropI (setR t b c t.n).hi b c q⟩ := by
  rw [setR_eq]
  unfold dropF famM
  simp only [drop_lo]
def refDrawS : V.Spec
  | [.agg [.int .i64 a1, .int .i64 a2, .int .i64 b1, .int .i64 b2, .int .i64 c1, .int .i64 c2, .slice none n get], .int .i64 q] => (some (isT (tstOf a1 a2 b1 b2 c1 c2 n get) get), .tup [encR (encL (dropF q) (famsM (tstOf a1 a2 b1 b2 c1 c2 n get))), .bool (Nat.blt 0 (famsM (tstOf a1 a2 b1 b2 c1 c2 n get)).length)])
  | _ => bad
theorem blt_nil {l : List Fam} (h : Nat.blt 0 l.length = false) : l = [] := by
  cases l with
  | nil => rfl
  | cons => exact absurd h (by simp [Nat.blt])
set_option maxRecDepth 20000 in
set_option maxHeartbeats 1000000 in
theorem sf31 : SF Try.prog 31 refDrawS := by
  refine sf_of types_ok mixed (l := [(63, atQS), (78, setRS), (79, spanS)]) ⟨sf63, sf78, sf79, trivial⟩ (es := []) trivial 2 Try.func31 rfl (by kernel_rfl) fun args h => ?_
  unfold refDrawS at h
  split at h
  · rename_i a1 a2 b1 b2 c1 c2 n get q
    obtain ⟨hok, e⟩ := isT.get h
    obtain ⟨s, rfl⟩ : ∃ s : Nat → Stp, get = fun i => stpL (s i) := ⟨_, e⟩
    clear h e
    refine ⟨rfl, ?_⟩
    show evalCode _ _ _ fun o => match o with
      | .normal st | .ret st => withP _ (_ ∧ PLe _ (.tup [encR (encL (dropF q) (famsM (tstOf a1 a2 b1 b2 c1 c2 n fun i => stpL (s i)))), .bool (Nat.blt 0 (famsM (tstOf a1 a2 b1 b2 c1 c2 n fun i => stpL (s i))).length)]))
      | _ => False
    have hn : n ≤ 12 := hok.n
    have hb : 0 ≤ b1 ∧ b1 ≤ b2 ∧ b2 ≤ 10000 ∧ b2 - b1 ≤ 39 := hok.b
    have hc : 0 ≤ c1 ∧ c1 ≤ c2 ∧ c2 ≤ 1000 ∧ c2 - c1 ≤ 39 := hok.c
    have hLs : isL stpL n fun i => stpL (s i) := .mk s (by omega) rfl
    have hnbD : ((tstOf a1 a2 b1 b2 c1 c2 n fun i => stpL (s i))).nb = (b2 - b1 + 1).toNat := rfl
    have hncD : ((tstOf a1 a2 b1 b2 c1 c2 n fun i => stpL (s i))).nc = (c2 - c1 + 1).toNat := rfl
    have hnb : ((tstOf a1 a2 b1 b2 c1 c2 n fun i => stpL (s i))).nb ≤ 40 := by rw [hnbD]; omega
    have hnc : ((tstOf a1 a2 b1 b2 c1 c2 n fun i => stpL (s i))).nc ≤ 40 := by rw [hncD]; omega
    have hall : ∀ i, i ≤ ((tstOf a1 a2 b1 b2 c1 c2 n fun i => stpL (s i))).nb → (allF (tstOf a1 a2 b1 b2 c1 c2 n fun i => stpL (s i)) i).length ≤ 1600 := fun i hi => Nat.le_trans (allF_len _ i) (Nat.le_trans (Nat.mul_le_mul hi hnc) (by omega))
    repeat' first
      | exact PLe.refl _
      | exact BLe.refl _
      | exact PLeL.nil
      | exact BLeL.nil
      | refine ⟨?_, ?_⟩
      | refine PLeL.cons ?_ ?_
      | refine BLeL.cons ?_ ?_
      | refine ple_int ?_
      | refine ple_bool ?_
      | refine ple_tt ?_
      | refine ple_ff ?_
      | refine PLe.aggL ?_
      | refine PLe.tupL ?_
      | refine BLe.cellsL ?_
      | refine halt_rng (cntF 8 b1) ((tstOf a1 a2 b1 b2 c1 c2 n fun i => stpL (s i))).nb [1, 2, 4, 6, 7, 8] [2, 4, 6] (fun i => [I q, .ptr 2 0, .ptr 4 0, .ptr 6 0, .bool (Nat.blt 0 (allF (tstOf a1 a2 b1 b2 c1 c2 n fun i => stpL (s i)) i).length), I (b1 + i)]) (fun i => [.cells [I a1, I a2, I b1, I b2, I c1, I c2, .slice none n fun i => stpL (s i)], .cells [I 0, I 0], .cells (rngL (encL (dropF q) (allF (tstOf a1 a2 b1 b2 c1 c2 n fun i => stpL (s i)) i)))]) (fun _ => True) rfl (.mk ?_ ?_) trivial ?_
      | refine fun h => absurd h (by decide)
      | refine fun (h : @Eq Bool _ _) => ?_
    all_goals first
      | trivial
      | rfl
      | omega
      | skip
    intro i hi _
    refine ⟨fun h1 => ?_, fun h1 => ?_⟩
    · have h1 : b1 + (i : Int) ≤ b2 := of_decide_eq_true h1
      have hib : i < ((tstOf a1 a2 b1 b2 c1 c2 n fun i => stpL (s i))).nb := by rw [hnbD]; omega
      have e1 : IntKind.i64.wrap (b1 + (i : Int) + 1) = b1 + ((i + 1 : Nat) : Int) := by rw [w64 (by omega) (by omega)]; omega
      repeat' first
        | exact PLe.refl _
        | exact BLe.refl _
        | exact PLeL.nil
        | exact BLeL.nil
        | refine ⟨?_, ?_⟩
        | refine PLeL.cons ?_ ?_
        | refine BLeL.cons ?_ ?_
        | refine ple_int ?_
        | refine ple_bool ?_
        | refine ple_tt ?_
        | refine ple_ff ?_
        | refine PLe.aggL ?_
        | refine PLe.tupL ?_
        | refine BLe.cellsL ?_
        | refine halt_rng (cntF 9 c1) ((tstOf a1 a2 b1 b2 c1 c2 n fun i => stpL (s i))).nc [1, 2, 4, 6, 7, 8, 9] [2, 4, 6] (fun j => [I q, .ptr 2 0, .ptr 4 0, .ptr 6 0, .bool (Nat.blt 0 (rowF (tstOf a1 a2 b1 b2 c1 c2 n fun i => stpL (s i)) (b1 + (i : Int)) (allF (tstOf a1 a2 b1 b2 c1 c2 n fun i => stpL (s i)) i) j).length), I (b1 + i), I (c1 + j)]) (fun j => [.cells [I a1, I a2, I b1, I b2, I c1, I c2, .slice none n fun i => stpL (s i)], .cells [I 0, I 0], .cells (rngL (encL (dropF q) (rowF (tstOf a1 a2 b1 b2 c1 c2 n fun i => stpL (s i)) (b1 + (i : Int)) (allF (tstOf a1 a2 b1 b2 c1 c2 n fun i => stpL (s i)) i) j)))]) (fun _ => True) rfl (.mk ?_ ?_) trivial ?_
        | refine fun h => absurd h (by decide)
        | refine fun (h : @Eq Bool _ _) => ?_
      all_goals first
        | trivial
        | rfl
        | omega
        | skip
      intro j hj _
      refine ⟨fun h2 => ?_, fun h2 => ?_⟩
      · have h2 : c1 + (j : Int) ≤ c2 := of_decide_eq_true h2
        have hjc : j < ((tstOf a1 a2 b1 b2 c1 c2 n fun i => stpL (s i))).nc := by rw [hncD]; omega
        have e2 : IntKind.i64.wrap (c1 + (j : Int) + 1) = c1 + ((j + 1 : Nat) : Int) := by rw [w64 (by omega) (by omega)]; omega
        have hlen : (rowF (tstOf a1 a2 b1 b2 c1 c2 n fun i => stpL (s i)) (b1 + (i : Int)) (allF (tstOf a1 a2 b1 b2 c1 c2 n fun i => stpL (s i)) i) j).length ≤ 1640 := Nat.le_trans (rowF_len ..) (by have := hall i (by omega); omega)
        have hLok : ∀ x ∈ (rowF (tstOf a1 a2 b1 b2 c1 c2 n fun i => stpL (s i)) (b1 + (i : Int)) (allF (tstOf a1 a2 b1 b2 c1 c2 n fun i => stpL (s i)) i) j), okF x := rowF_ok hok (allF_ok hok i) j
        have eN : rowF (tstOf a1 a2 b1 b2 c1 c2 n fun i => stpL (s i)) (b1 + (i : Int)) (allF (tstOf a1 a2 b1 b2 c1 c2 n fun i => stpL (s i)) i) (j + 1) = addF (tstOf a1 a2 b1 b2 c1 c2 n fun i => stpL (s i)) (b1 + (i : Int)) (c1 + (j : Int)) (rowF (tstOf a1 a2 b1 b2 c1 c2 n fun i => stpL (s i)) (b1 + (i : Int)) (allF (tstOf a1 a2 b1 b2 c1 c2 n fun i => stpL (s i)) i) j) := rfl
        refine (Bool.eq_false_or_eq_true (decide ((setR (tstOf a1 a2 b1 b2 c1 c2 n fun i => stpL (s i)) (b1 + (i : Int)) (c1 + (j : Int)) n).hi < (setR (tstOf a1 a2 b1 b2 c1 c2 n fun i => stpL (s i)) (b1 + (i : Int)) (c1 + (j : Int)) n).lo))).elim (fun q1 => ?_) fun q1 => ?_
        · rw [addF_no (t := (tstOf a1 a2 b1 b2 c1 c2 n fun i => stpL (s i))) q1] at eN
          repeat' first
            | exact PLe.refl _
            | exact BLe.refl _
            | exact PLeL.nil
            | exact BLeL.nil
            | refine ⟨?_, ?_⟩
            | refine PLeL.cons ?_ ?_
            | refine BLeL.cons ?_ ?_
            | refine ple_int ?_
            | refine ple_bool ?_
            | refine ple_tt ?_
            | refine ple_ff ?_
            | refine PLe.aggL ?_
            | refine PLe.tupL ?_
            | refine BLe.cellsL ?_
            | refine next_rng (cn := cntF 9 c1) rfl (fun m => by show (c1 + (m : Int) - c1).toNat = m; omega) hjc trivial (.mk ?_ ?_)
            | refine fun h => absurd h (by decide)
            | (refine fun h => ?_; exfalso; simp only [q1, Int.toNat_natCast, Bool.cond_true_left, Bool.cond_false_right, Bool.cond_true_right, Bool.cond_false_left, cond_true, cond_false, Bool.not_true, Bool.not_false, Bool.not_not, Bool.and_true, Bool.true_and, Bool.and_false, Bool.false_and, Bool.or_true, Bool.true_or, Bool.or_false, Bool.false_or, beq_self_eq_true, bne_self_eq_false, Bool.true_eq_false, Bool.false_eq_true, reduceCtorEq, Bool.and_self, Bool.or_self, Int.reduceBEq, Int.reduceBNe, Int.reduceNeg, decide_true, decide_false, Int.reduceLT, Int.reduceLE, Int.reduceGT] at h; done)
            | refine fun (h : @Eq Bool _ _) => ?_
          all_goals first
            | trivial
            | rfl
            | omega
            | exact e2
            | (rw [eN]; done)
            | exact hLs
            | (simp only [q1, Int.toNat_natCast, Bool.cond_true_left, Bool.cond_false_right, Bool.cond_true_right, Bool.cond_false_left, cond_true, cond_false, Bool.not_true, Bool.not_false, Bool.not_not, Bool.and_true, Bool.true_and, Bool.and_false, Bool.false_and, Bool.or_true, Bool.true_or, Bool.or_false, Bool.false_or, beq_self_eq_true, bne_self_eq_false, Bool.true_eq_false, Bool.false_eq_true, reduceCtorEq, Bool.and_self, Bool.or_self, Int.reduceBEq, Int.reduceBNe, Int.reduceNeg, decide_true, decide_false, Int.reduceLT, Int.reduceLE, Int.reduceGT]; done)
            | (show @Eq Bool _ _; simp only [q1, Int.toNat_natCast, Bool.cond_true_left, Bool.cond_false_right, Bool.cond_true_right, Bool.cond_false_left, cond_true, cond_false, Bool.not_true, Bool.not_false, Bool.not_not, Bool.and_true, Bool.true_and, Bool.and_false, Bool.false_and, Bool.or_true, Bool.true_or, Bool.or_false, Bool.false_or, beq_self_eq_true, bne_self_eq_false, Bool.true_eq_false, Bool.false_eq_true, reduceCtorEq, Bool.and_self, Bool.or_self, Int.reduceBEq, Int.reduceBNe, Int.reduceNeg, decide_true, decide_false, Int.reduceLT, Int.reduceLE, Int.reduceGT]; done)
            | skip
        · have ⟨eY, hR⟩ := addF_yes (t := (tstOf a1 a2 b1 b2 c1 c2 n fun i => stpL (s i))) (l := (rowF (tstOf a1 a2 b1 b2 c1 c2 n fun i => stpL (s i)) (b1 + (i : Int)) (allF (tstOf a1 a2 b1 b2 c1 c2 n fun i => stpL (s i)) i) j)) q1
          rw [eY] at eN
          clear eY
          have eB : Nat.blt 0 (rowF (tstOf a1 a2 b1 b2 c1 c2 n fun i => stpL (s i)) (b1 + (i : Int)) (allF (tstOf a1 a2 b1 b2 c1 c2 n fun i => stpL (s i)) i) (j + 1)).length = true := by rw [eN, List.length_append]; rfl
          have eD : dropF q (famM (tstOf a1 a2 b1 b2 c1 c2 n fun i => stpL (s i)) (b1 + (i : Int)) (c1 + (j : Int))) = (⟨dropI (setR (tstOf a1 a2 b1 b2 c1 c2 n fun i => stpL (s i)) (b1 + (i : Int)) (c1 + (j : Int)) n).lo (b1 + (i : Int)) (c1 + (j : Int)) q, dropI (setR (tstOf a1 a2 b1 b2 c1 c2 n fun i => stpL (s i)) (b1 + (i : Int)) (c1 + (j : Int)) n).hi (b1 + (i : Int)) (c1 + (j : Int)) q⟩ : Rng) := drop_F
          refine (Bool.eq_false_or_eq_true (Nat.blt 0 (rowF (tstOf a1 a2 b1 b2 c1 c2 n fun i => stpL (s i)) (b1 + (i : Int)) (allF (tstOf a1 a2 b1 b2 c1 c2 n fun i => stpL (s i)) i) j).length)).elim (fun q2 => ?_) fun q2 => ?_
          · have hz : 0 < (rowF (tstOf a1 a2 b1 b2 c1 c2 n fun i => stpL (s i)) (b1 + (i : Int)) (allF (tstOf a1 a2 b1 b2 c1 c2 n fun i => stpL (s i)) i) j).length := Nat.le_of_ble_eq_true q2
            have e : encL (dropF q) (rowF (tstOf a1 a2 b1 b2 c1 c2 n fun i => stpL (s i)) (b1 + (i : Int)) (allF (tstOf a1 a2 b1 b2 c1 c2 n fun i => stpL (s i)) i) (j + 1)) = span (encL (dropF q) (rowF (tstOf a1 a2 b1 b2 c1 c2 n fun i => stpL (s i)) (b1 + (i : Int)) (allF (tstOf a1 a2 b1 b2 c1 c2 n fun i => stpL (s i)) i) j)) (⟨dropI (setR (tstOf a1 a2 b1 b2 c1 c2 n fun i => stpL (s i)) (b1 + (i : Int)) (c1 + (j : Int)) n).lo (b1 + (i : Int)) (c1 + (j : Int)) q, dropI (setR (tstOf a1 a2 b1 b2 c1 c2 n fun i => stpL (s i)) (b1 + (i : Int)) (c1 + (j : Int)) n).hi (b1 + (i : Int)) (c1 + (j : Int)) q⟩ : Rng) := by rw [eN, ← eD]; exact encL_snoc hz
            repeat' first
              | exact PLe.refl _
              | exact BLe.refl _
              | exact PLeL.nil
              | exact BLeL.nil
              | refine ⟨?_, ?_⟩
              | refine PLeL.cons ?_ ?_
              | refine BLeL.cons ?_ ?_
              | refine ple_int ?_
              | refine ple_bool ?_
              | refine ple_tt ?_
              | refine ple_ff ?_
              | refine PLe.aggL ?_
              | refine PLe.tupL ?_
              | refine BLe.cellsL ?_
              | refine next_rng (cn := cntF 9 c1) rfl (fun m => by show (c1 + (m : Int) - c1).toNat = m; omega) hjc trivial (.mk ?_ ?_)
              | refine fun h => absurd h (by decide)
              | (refine fun h => ?_; exfalso; simp only [q1, q2, Int.toNat_natCast, Bool.cond_true_left, Bool.cond_false_right, Bool.cond_true_right, Bool.cond_false_left, cond_true, cond_false, Bool.not_true, Bool.not_false, Bool.not_not, Bool.and_true, Bool.true_and, Bool.and_false, Bool.false_and, Bool.or_true, Bool.true_or, Bool.or_false, Bool.false_or, beq_self_eq_true, bne_self_eq_false, Bool.true_eq_false, Bool.false_eq_true, reduceCtorEq, Bool.and_self, Bool.or_self, Int.reduceBEq, Int.reduceBNe, Int.reduceNeg, decide_true, decide_false, Int.reduceLT, Int.reduceLE, Int.reduceGT] at h; done)
              | refine fun (h : @Eq Bool _ _) => ?_
            all_goals first
              | trivial
              | rfl
              | omega
              | exact e2
              | exact hLs
              | exact (congrArg Rng.lo e).symm
              | exact (congrArg Rng.hi e).symm
              | exact eB.symm
              | exact ple_tt eB
              | (simp only [q1, q2, Int.toNat_natCast, Bool.cond_true_left, Bool.cond_false_right, Bool.cond_true_right, Bool.cond_false_left, cond_true, cond_false, Bool.not_true, Bool.not_false, Bool.not_not, Bool.and_true, Bool.true_and, Bool.and_false, Bool.false_and, Bool.or_true, Bool.true_or, Bool.or_false, Bool.false_or, beq_self_eq_true, bne_self_eq_false, Bool.true_eq_false, Bool.false_eq_true, reduceCtorEq, Bool.and_self, Bool.or_self, Int.reduceBEq, Int.reduceBNe, Int.reduceNeg, decide_true, decide_false, Int.reduceLT, Int.reduceLE, Int.reduceGT]; done)
              | (show @Eq Bool _ _; simp only [q1, q2, Int.toNat_natCast, Bool.cond_true_left, Bool.cond_false_right, Bool.cond_true_right, Bool.cond_false_left, cond_true, cond_false, Bool.not_true, Bool.not_false, Bool.not_not, Bool.and_true, Bool.true_and, Bool.and_false, Bool.false_and, Bool.or_true, Bool.true_or, Bool.or_false, Bool.false_or, beq_self_eq_true, bne_self_eq_false, Bool.true_eq_false, Bool.false_eq_true, reduceCtorEq, Bool.and_self, Bool.or_self, Int.reduceBEq, Int.reduceBNe, Int.reduceNeg, decide_true, decide_false, Int.reduceLT, Int.reduceLE, Int.reduceGT]; done)
              | skip
          · have hz : (rowF (tstOf a1 a2 b1 b2 c1 c2 n fun i => stpL (s i)) (b1 + (i : Int)) (allF (tstOf a1 a2 b1 b2 c1 c2 n fun i => stpL (s i)) i) j) = [] := blt_nil q2
            have e : encL (dropF q) (rowF (tstOf a1 a2 b1 b2 c1 c2 n fun i => stpL (s i)) (b1 + (i : Int)) (allF (tstOf a1 a2 b1 b2 c1 c2 n fun i => stpL (s i)) i) (j + 1)) = span (⟨dropI (setR (tstOf a1 a2 b1 b2 c1 c2 n fun i => stpL (s i)) (b1 + (i : Int)) (c1 + (j : Int)) n).lo (b1 + (i : Int)) (c1 + (j : Int)) q, dropI (setR (tstOf a1 a2 b1 b2 c1 c2 n fun i => stpL (s i)) (b1 + (i : Int)) (c1 + (j : Int)) n).hi (b1 + (i : Int)) (c1 + (j : Int)) q⟩ : Rng) (⟨dropI (setR (tstOf a1 a2 b1 b2 c1 c2 n fun i => stpL (s i)) (b1 + (i : Int)) (c1 + (j : Int)) n).lo (b1 + (i : Int)) (c1 + (j : Int)) q, dropI (setR (tstOf a1 a2 b1 b2 c1 c2 n fun i => stpL (s i)) (b1 + (i : Int)) (c1 + (j : Int)) n).hi (b1 + (i : Int)) (c1 + (j : Int)) q⟩ : Rng) := by rw [eN, hz, ← eD]; rfl
            repeat' first
              | exact PLe.refl _
              | exact BLe.refl _
              | exact PLeL.nil
              | exact BLeL.nil
              | refine ⟨?_, ?_⟩
              | refine PLeL.cons ?_ ?_
              | refine BLeL.cons ?_ ?_
              | refine ple_int ?_
              | refine ple_bool ?_
              | refine ple_tt ?_
              | refine ple_ff ?_
              | refine PLe.aggL ?_
              | refine PLe.tupL ?_
              | refine BLe.cellsL ?_
              | refine next_rng (cn := cntF 9 c1) rfl (fun m => by show (c1 + (m : Int) - c1).toNat = m; omega) hjc trivial (.mk ?_ ?_)
              | refine fun h => absurd h (by decide)
              | (refine fun h => ?_; exfalso; simp only [q1, q2, Int.toNat_natCast, Bool.cond_true_left, Bool.cond_false_right, Bool.cond_true_right, Bool.cond_false_left, cond_true, cond_false, Bool.not_true, Bool.not_false, Bool.not_not, Bool.and_true, Bool.true_and, Bool.and_false, Bool.false_and, Bool.or_true, Bool.true_or, Bool.or_false, Bool.false_or, beq_self_eq_true, bne_self_eq_false, Bool.true_eq_false, Bool.false_eq_true, reduceCtorEq, Bool.and_self, Bool.or_self, Int.reduceBEq, Int.reduceBNe, Int.reduceNeg, decide_true, decide_false, Int.reduceLT, Int.reduceLE, Int.reduceGT] at h; done)
              | refine fun (h : @Eq Bool _ _) => ?_
            all_goals first
              | trivial
              | rfl
              | omega
              | exact e2
              | exact hLs
              | exact (congrArg Rng.lo e).symm
              | exact (congrArg Rng.hi e).symm
              | exact eB.symm
              | exact ple_tt eB
              | (simp only [q1, q2, Int.toNat_natCast, Bool.cond_true_left, Bool.cond_false_right, Bool.cond_true_right, Bool.cond_false_left, cond_true, cond_false, Bool.not_true, Bool.not_false, Bool.not_not, Bool.and_true, Bool.true_and, Bool.and_false, Bool.false_and, Bool.or_true, Bool.true_or, Bool.or_false, Bool.false_or, beq_self_eq_true, bne_self_eq_false, Bool.true_eq_false, Bool.false_eq_true, reduceCtorEq, Bool.and_self, Bool.or_self, Int.reduceBEq, Int.reduceBNe, Int.reduceNeg, decide_true, decide_false, Int.reduceLT, Int.reduceLE, Int.reduceGT]; done)
              | (show @Eq Bool _ _; simp only [q1, q2, Int.toNat_natCast, Bool.cond_true_left, Bool.cond_false_right, Bool.cond_true_right, Bool.cond_false_left, cond_true, cond_false, Bool.not_true, Bool.not_false, Bool.not_not, Bool.and_true, Bool.true_and, Bool.and_false, Bool.false_and, Bool.or_true, Bool.true_or, Bool.or_false, Bool.false_or, beq_self_eq_true, bne_self_eq_false, Bool.true_eq_false, Bool.false_eq_true, reduceCtorEq, Bool.and_self, Bool.or_self, Int.reduceBEq, Int.reduceBNe, Int.reduceNeg, decide_true, decide_false, Int.reduceLT, Int.reduceLE, Int.reduceGT]; done)
              | skip
      · have hjn : j = ((tstOf a1 a2 b1 b2 c1 c2 n fun i => stpL (s i))).nc := by
          have h2 : ¬ c1 + (j : Int) ≤ c2 := of_decide_eq_false h2
          rw [hncD] at hj ⊢; omega
        subst hjn
        clear h2
        repeat' first
          | exact PLe.refl _
          | exact BLe.refl _
          | exact PLeL.nil
          | exact BLeL.nil
          | refine ⟨?_, ?_⟩
          | refine PLeL.cons ?_ ?_
          | refine BLeL.cons ?_ ?_
          | refine ple_int ?_
          | refine ple_bool ?_
          | refine ple_tt ?_
          | refine ple_ff ?_
          | refine PLe.aggL ?_
          | refine PLe.tupL ?_
          | refine BLe.cellsL ?_
          | refine next_rng (cn := cntF 8 b1) rfl (fun m => by show (b1 + (m : Int) - b1).toNat = m; omega) hib trivial (.mk ?_ ?_)
          | refine fun h => absurd h (by decide)
          | refine fun (h : @Eq Bool _ _) => ?_
        all_goals first
          | trivial
          | rfl
          | omega
          | exact e1
          | skip
    · have hin : i = ((tstOf a1 a2 b1 b2 c1 c2 n fun i => stpL (s i))).nb := by
        have h1 : ¬ b1 + (i : Int) ≤ b2 := of_decide_eq_false h1
        rw [hnbD] at hi ⊢; omega
      subst hin
      clear h1
      repeat' first
        | exact PLe.refl _
        | exact BLe.refl _
        | exact PLeL.nil
        | exact BLeL.nil
        | refine ⟨?_, ?_⟩
        | refine PLeL.cons ?_ ?_
        | refine BLeL.cons ?_ ?_
        | refine ple_int ?_
        | refine ple_bool ?_
        | refine ple_tt ?_
        | refine ple_ff ?_
        | refine PLe.aggL ?_
        | refine PLe.tupL ?_
        | refine BLe.cellsL ?_
        | refine fun h => absurd h (by decide)
        | refine fun (h : @Eq Bool _ _) => ?_
      all_goals first
        | trivial
        | rfl
        | omega
        | skip
  · exact h.elim
/-- The error that a law expects of a call: of the test, of its other argument, of no curve. -/
def askE (t : Tst) (b : Bool) (e : Int) : Int := bif tfE t != 0 then tfE t else bif b then e else bif manyL (famsM t) == 0 then 7 else 0
def askS : V.Spec
  | [.agg [.int .i64 a1, .int .i64 a2, .int .i64 b1, .int .i64 b2, .int .i64 c1, .int .i64 c2, .slice none n get], p, .int .i64 e] => match boolOf p with
    | some b => (some (isL stpL n get), I (askE (tstOf a1 a2 b1 b2 c1 c2 n get) b e))
    | none => bad
  | _ => bad
set_option maxRecDepth 20000 in
set_option maxHeartbeats 1000000 in
theorem sf25 : SF Try.prog 25 askS := by
  refine sf_of types_ok mixed (l := [(21, tfS), (26, refCurvesS)]) ⟨sf21, sf26, trivial⟩ (es := []) trivial 3 Try.func25 rfl (by kernel_rfl) fun args h => ?_
  unfold askS at h
  split at h
  · rename_i a1 a2 b1 b2 c1 c2 n get p e
    split at h
    · rename_i b hb
      have hL : isL stpL n get := h
      obtain ⟨hn, s, rfl⟩ := isL.get hL
      clear h
      refine ⟨rfl, ?_⟩
      refine bool3 hb (fun h1 h2 => ?_) (fun h1 h2 => ?_) fun h1 => ?_
      · subst h1 h2
        show evalCode _ _ _ fun o => match o with
          | .normal st | .ret st => withP _ (_ ∧ PLe _ (I (askE (tstOf a1 a2 b1 b2 c1 c2 n fun i => stpL (s i)) true e)))
          | _ => False
        refine (Bool.eq_false_or_eq_true (tfE (tstOf a1 a2 b1 b2 c1 c2 n fun i => stpL (s i)) != 0)).elim (fun p1 => ?_) fun p1 => ?_
        · have eE : askE (tstOf a1 a2 b1 b2 c1 c2 n fun i => stpL (s i)) true e = tfE (tstOf a1 a2 b1 b2 c1 c2 n fun i => stpL (s i)) := by unfold askE; rw [p1]; rfl
          rw [eE]
          repeat' first
            | exact PLe.refl _
            | exact BLe.refl _
            | exact PLeL.nil
            | exact BLeL.nil
            | refine ⟨?_, ?_⟩
            | refine PLeL.cons ?_ ?_
            | refine BLeL.cons ?_ ?_
            | refine ple_int ?_
            | refine ple_bool ?_
            | refine ple_tt ?_
            | refine ple_ff ?_
            | refine PLe.aggL ?_
            | refine PLe.tupL ?_
            | refine BLe.cellsL ?_
            | refine fun h => absurd h (by decide)
            | (refine fun h => ?_; exfalso; simp only [p1, Int.toNat_natCast, Bool.cond_true_left, Bool.cond_false_right, Bool.cond_true_right, Bool.cond_false_left, cond_true, cond_false, Bool.not_true, Bool.not_false, Bool.not_not, Bool.and_true, Bool.true_and, Bool.and_false, Bool.false_and, Bool.or_true, Bool.true_or, Bool.or_false, Bool.false_or, beq_self_eq_true, bne_self_eq_false, Bool.true_eq_false, Bool.false_eq_true, reduceCtorEq, Bool.and_self, Bool.or_self, Int.reduceBEq, Int.reduceBNe, Int.reduceNeg, decide_true, decide_false, Int.reduceLT, Int.reduceLE, Int.reduceGT] at h; done)
            | refine fun (h : @Eq Bool _ _) => ?_
          all_goals first
            | trivial
            | rfl
            | omega
            | exact hL
            | (simp only [p1, Int.toNat_natCast, Bool.cond_true_left, Bool.cond_false_right, Bool.cond_true_right, Bool.cond_false_left, cond_true, cond_false, Bool.not_true, Bool.not_false, Bool.not_not, Bool.and_true, Bool.true_and, Bool.and_false, Bool.false_and, Bool.or_true, Bool.true_or, Bool.or_false, Bool.false_or, beq_self_eq_true, bne_self_eq_false, Bool.true_eq_false, Bool.false_eq_true, reduceCtorEq, Bool.and_self, Bool.or_self, Int.reduceBEq, Int.reduceBNe, Int.reduceNeg, decide_true, decide_false, Int.reduceLT, Int.reduceLE, Int.reduceGT]; done)
            | (show @Eq Bool _ _; simp only [p1, Int.toNat_natCast, Bool.cond_true_left, Bool.cond_false_right, Bool.cond_true_right, Bool.cond_false_left, cond_true, cond_false, Bool.not_true, Bool.not_false, Bool.not_not, Bool.and_true, Bool.true_and, Bool.and_false, Bool.false_and, Bool.or_true, Bool.true_or, Bool.or_false, Bool.false_or, beq_self_eq_true, bne_self_eq_false, Bool.true_eq_false, Bool.false_eq_true, reduceCtorEq, Bool.and_self, Bool.or_self, Int.reduceBEq, Int.reduceBNe, Int.reduceNeg, decide_true, decide_false, Int.reduceLT, Int.reduceLE, Int.reduceGT]; done)
            | skip
        · have hok : okT (tstOf a1 a2 b1 b2 c1 c2 n fun i => stpL (s i)) := tfE_ok (by simpa using p1)
          have eE : askE (tstOf a1 a2 b1 b2 c1 c2 n fun i => stpL (s i)) true e = e := by unfold askE; rw [p1]; rfl
          rw [eE]
          repeat' first
            | exact PLe.refl _
            | exact BLe.refl _
            | exact PLeL.nil
            | exact BLeL.nil
            | refine ⟨?_, ?_⟩
            | refine PLeL.cons ?_ ?_
            | refine BLeL.cons ?_ ?_
            | refine ple_int ?_
            | refine ple_bool ?_
            | refine ple_tt ?_
            | refine ple_ff ?_
            | refine PLe.aggL ?_
            | refine PLe.tupL ?_
            | refine BLe.cellsL ?_
            | refine fun h => absurd h (by decide)
            | (refine fun h => ?_; exfalso; simp only [p1, Int.toNat_natCast, Bool.cond_true_left, Bool.cond_false_right, Bool.cond_true_right, Bool.cond_false_left, cond_true, cond_false, Bool.not_true, Bool.not_false, Bool.not_not, Bool.and_true, Bool.true_and, Bool.and_false, Bool.false_and, Bool.or_true, Bool.true_or, Bool.or_false, Bool.false_or, beq_self_eq_true, bne_self_eq_false, Bool.true_eq_false, Bool.false_eq_true, reduceCtorEq, Bool.and_self, Bool.or_self, Int.reduceBEq, Int.reduceBNe, Int.reduceNeg, decide_true, decide_false, Int.reduceLT, Int.reduceLE, Int.reduceGT] at h; done)
            | refine fun (h : @Eq Bool _ _) => ?_
          all_goals first
            | trivial
            | rfl
            | omega
            | exact hL
            | (simp only [p1, Int.toNat_natCast, Bool.cond_true_left, Bool.cond_false_right, Bool.cond_true_right, Bool.cond_false_left, cond_true, cond_false, Bool.not_true, Bool.not_false, Bool.not_not, Bool.and_true, Bool.true_and, Bool.and_false, Bool.false_and, Bool.or_true, Bool.true_or, Bool.or_false, Bool.false_or, beq_self_eq_true, bne_self_eq_false, Bool.true_eq_false, Bool.false_eq_true, reduceCtorEq, Bool.and_self, Bool.or_self, Int.reduceBEq, Int.reduceBNe, Int.reduceNeg, decide_true, decide_false, Int.reduceLT, Int.reduceLE, Int.reduceGT]; done)
            | (show @Eq Bool _ _; simp only [p1, Int.toNat_natCast, Bool.cond_true_left, Bool.cond_false_right, Bool.cond_true_right, Bool.cond_false_left, cond_true, cond_false, Bool.not_true, Bool.not_false, Bool.not_not, Bool.and_true, Bool.true_and, Bool.and_false, Bool.false_and, Bool.or_true, Bool.true_or, Bool.or_false, Bool.false_or, beq_self_eq_true, bne_self_eq_false, Bool.true_eq_false, Bool.false_eq_true, reduceCtorEq, Bool.and_self, Bool.or_self, Int.reduceBEq, Int.reduceBNe, Int.reduceNeg, decide_true, decide_false, Int.reduceLT, Int.reduceLE, Int.reduceGT]; done)
            | skip
      · subst h1 h2
        show evalCode _ _ _ fun o => match o with
          | .normal st | .ret st => withP _ (_ ∧ PLe _ (I (askE (tstOf a1 a2 b1 b2 c1 c2 n fun i => stpL (s i)) false e)))
          | _ => False
        refine (Bool.eq_false_or_eq_true (tfE (tstOf a1 a2 b1 b2 c1 c2 n fun i => stpL (s i)) != 0)).elim (fun p1 => ?_) fun p1 => ?_
        · have eE : askE (tstOf a1 a2 b1 b2 c1 c2 n fun i => stpL (s i)) false e = tfE (tstOf a1 a2 b1 b2 c1 c2 n fun i => stpL (s i)) := by unfold askE; rw [p1]; rfl
          rw [eE]
          repeat' first
            | exact PLe.refl _
            | exact BLe.refl _
            | exact PLeL.nil
            | exact BLeL.nil
            | refine ⟨?_, ?_⟩
            | refine PLeL.cons ?_ ?_
            | refine BLeL.cons ?_ ?_
            | refine ple_int ?_
            | refine ple_bool ?_
            | refine ple_tt ?_
            | refine ple_ff ?_
            | refine PLe.aggL ?_
            | refine PLe.tupL ?_
            | refine BLe.cellsL ?_
            | refine fun h => absurd h (by decide)
            | (refine fun h => ?_; exfalso; simp only [p1, Int.toNat_natCast, Bool.cond_true_left, Bool.cond_false_right, Bool.cond_true_right, Bool.cond_false_left, cond_true, cond_false, Bool.not_true, Bool.not_false, Bool.not_not, Bool.and_true, Bool.true_and, Bool.and_false, Bool.false_and, Bool.or_true, Bool.true_or, Bool.or_false, Bool.false_or, beq_self_eq_true, bne_self_eq_false, Bool.true_eq_false, Bool.false_eq_true, reduceCtorEq, Bool.and_self, Bool.or_self, Int.reduceBEq, Int.reduceBNe, Int.reduceNeg, decide_true, decide_false, Int.reduceLT, Int.reduceLE, Int.reduceGT] at h; done)
            | refine fun (h : @Eq Bool _ _) => ?_
          all_goals first
            | trivial
            | rfl
            | omega
            | exact hL
            | (simp only [p1, Int.toNat_natCast, Bool.cond_true_left, Bool.cond_false_right, Bool.cond_true_right, Bool.cond_false_left, cond_true, cond_false, Bool.not_true, Bool.not_false, Bool.not_not, Bool.and_true, Bool.true_and, Bool.and_false, Bool.false_and, Bool.or_true, Bool.true_or, Bool.or_false, Bool.false_or, beq_self_eq_true, bne_self_eq_false, Bool.true_eq_false, Bool.false_eq_true, reduceCtorEq, Bool.and_self, Bool.or_self, Int.reduceBEq, Int.reduceBNe, Int.reduceNeg, decide_true, decide_false, Int.reduceLT, Int.reduceLE, Int.reduceGT]; done)
            | (show @Eq Bool _ _; simp only [p1, Int.toNat_natCast, Bool.cond_true_left, Bool.cond_false_right, Bool.cond_true_right, Bool.cond_false_left, cond_true, cond_false, Bool.not_true, Bool.not_false, Bool.not_not, Bool.and_true, Bool.true_and, Bool.and_false, Bool.false_and, Bool.or_true, Bool.true_or, Bool.or_false, Bool.false_or, beq_self_eq_true, bne_self_eq_false, Bool.true_eq_false, Bool.false_eq_true, reduceCtorEq, Bool.and_self, Bool.or_self, Int.reduceBEq, Int.reduceBNe, Int.reduceNeg, decide_true, decide_false, Int.reduceLT, Int.reduceLE, Int.reduceGT]; done)
            | skip
        · have hok : okT (tstOf a1 a2 b1 b2 c1 c2 n fun i => stpL (s i)) := tfE_ok (by simpa using p1)
          refine (Bool.eq_false_or_eq_true (manyL (famsM (tstOf a1 a2 b1 b2 c1 c2 n fun i => stpL (s i))) == 0)).elim (fun p3 => ?_) fun p3 => ?_
          · have eE : askE (tstOf a1 a2 b1 b2 c1 c2 n fun i => stpL (s i)) false e = 7 := by unfold askE; rw [p1, p3]; rfl
            rw [eE]
            repeat' first
              | exact PLe.refl _
              | exact BLe.refl _
              | exact PLeL.nil
              | exact BLeL.nil
              | refine ⟨?_, ?_⟩
              | refine PLeL.cons ?_ ?_
              | refine BLeL.cons ?_ ?_
              | refine ple_int ?_
              | refine ple_bool ?_
              | refine ple_tt ?_
              | refine ple_ff ?_
              | refine PLe.aggL ?_
              | refine PLe.tupL ?_
              | refine BLe.cellsL ?_
              | refine fun h => absurd h (by decide)
              | (refine fun h => ?_; exfalso; simp only [p1, p3, Int.toNat_natCast, Bool.cond_true_left, Bool.cond_false_right, Bool.cond_true_right, Bool.cond_false_left, cond_true, cond_false, Bool.not_true, Bool.not_false, Bool.not_not, Bool.and_true, Bool.true_and, Bool.and_false, Bool.false_and, Bool.or_true, Bool.true_or, Bool.or_false, Bool.false_or, beq_self_eq_true, bne_self_eq_false, Bool.true_eq_false, Bool.false_eq_true, reduceCtorEq, Bool.and_self, Bool.or_self, Int.reduceBEq, Int.reduceBNe, Int.reduceNeg, decide_true, decide_false, Int.reduceLT, Int.reduceLE, Int.reduceGT] at h; done)
              | refine fun (h : @Eq Bool _ _) => ?_
            all_goals first
              | trivial
              | rfl
              | omega
              | exact hL
              | (refine .mk hok ?_; rfl)
              | (simp only [p1, p3, Int.toNat_natCast, Bool.cond_true_left, Bool.cond_false_right, Bool.cond_true_right, Bool.cond_false_left, cond_true, cond_false, Bool.not_true, Bool.not_false, Bool.not_not, Bool.and_true, Bool.true_and, Bool.and_false, Bool.false_and, Bool.or_true, Bool.true_or, Bool.or_false, Bool.false_or, beq_self_eq_true, bne_self_eq_false, Bool.true_eq_false, Bool.false_eq_true, reduceCtorEq, Bool.and_self, Bool.or_self, Int.reduceBEq, Int.reduceBNe, Int.reduceNeg, decide_true, decide_false, Int.reduceLT, Int.reduceLE, Int.reduceGT]; done)
              | (show @Eq Bool _ _; simp only [p1, p3, Int.toNat_natCast, Bool.cond_true_left, Bool.cond_false_right, Bool.cond_true_right, Bool.cond_false_left, cond_true, cond_false, Bool.not_true, Bool.not_false, Bool.not_not, Bool.and_true, Bool.true_and, Bool.and_false, Bool.false_and, Bool.or_true, Bool.true_or, Bool.or_false, Bool.false_or, beq_self_eq_true, bne_self_eq_false, Bool.true_eq_false, Bool.false_eq_true, reduceCtorEq, Bool.and_self, Bool.or_self, Int.reduceBEq, Int.reduceBNe, Int.reduceNeg, decide_true, decide_false, Int.reduceLT, Int.reduceLE, Int.reduceGT]; done)
              | skip
          · have eE : askE (tstOf a1 a2 b1 b2 c1 c2 n fun i => stpL (s i)) false e = 0 := by unfold askE; rw [p1, p3]; rfl
            rw [eE]
            repeat' first
              | exact PLe.refl _
              | exact BLe.refl _
              | exact PLeL.nil
              | exact BLeL.nil
              | refine ⟨?_, ?_⟩
              | refine PLeL.cons ?_ ?_
              | refine BLeL.cons ?_ ?_
              | refine ple_int ?_
              | refine ple_bool ?_
              | refine ple_tt ?_
              | refine ple_ff ?_
              | refine PLe.aggL ?_
              | refine PLe.tupL ?_
              | refine BLe.cellsL ?_
              | refine fun h => absurd h (by decide)
              | (refine fun h => ?_; exfalso; simp only [p1, p3, Int.toNat_natCast, Bool.cond_true_left, Bool.cond_false_right, Bool.cond_true_right, Bool.cond_false_left, cond_true, cond_false, Bool.not_true, Bool.not_false, Bool.not_not, Bool.and_true, Bool.true_and, Bool.and_false, Bool.false_and, Bool.or_true, Bool.true_or, Bool.or_false, Bool.false_or, beq_self_eq_true, bne_self_eq_false, Bool.true_eq_false, Bool.false_eq_true, reduceCtorEq, Bool.and_self, Bool.or_self, Int.reduceBEq, Int.reduceBNe, Int.reduceNeg, decide_true, decide_false, Int.reduceLT, Int.reduceLE, Int.reduceGT] at h; done)
              | refine fun (h : @Eq Bool _ _) => ?_
            all_goals first
              | trivial
              | rfl
              | omega
              | exact hL
              | (refine .mk hok ?_; rfl)
              | (simp only [p1, p3, Int.toNat_natCast, Bool.cond_true_left, Bool.cond_false_right, Bool.cond_true_right, Bool.cond_false_left, cond_true, cond_false, Bool.not_true, Bool.not_false, Bool.not_not, Bool.and_true, Bool.true_and, Bool.and_false, Bool.false_and, Bool.or_true, Bool.true_or, Bool.or_false, Bool.false_or, beq_self_eq_true, bne_self_eq_false, Bool.true_eq_false, Bool.false_eq_true, reduceCtorEq, Bool.and_self, Bool.or_self, Int.reduceBEq, Int.reduceBNe, Int.reduceNeg, decide_true, decide_false, Int.reduceLT, Int.reduceLE, Int.reduceGT]; done)
              | (show @Eq Bool _ _; simp only [p1, p3, Int.toNat_natCast, Bool.cond_true_left, Bool.cond_false_right, Bool.cond_true_right, Bool.cond_false_left, cond_true, cond_false, Bool.not_true, Bool.not_false, Bool.not_not, Bool.and_true, Bool.true_and, Bool.and_false, Bool.false_and, Bool.or_true, Bool.true_or, Bool.or_false, Bool.false_or, beq_self_eq_true, bne_self_eq_false, Bool.true_eq_false, Bool.false_eq_true, reduceCtorEq, Bool.and_self, Bool.or_self, Int.reduceBEq, Int.reduceBNe, Int.reduceNeg, decide_true, decide_false, Int.reduceLT, Int.reduceLE, Int.reduceGT]; done)
              | skip
      · subst h1
        show evalCode _ _ _ fun o => match o with
          | .normal st | .ret st => withP _ (_ ∧ PLe _ (I (askE (tstOf a1 a2 b1 b2 c1 c2 n fun i => stpL (s i)) b e)))
          | _ => False
        refine (Bool.eq_false_or_eq_true (tfE (tstOf a1 a2 b1 b2 c1 c2 n fun i => stpL (s i)) != 0)).elim (fun p1 => ?_) fun p1 => ?_
        · have eE : askE (tstOf a1 a2 b1 b2 c1 c2 n fun i => stpL (s i)) b e = tfE (tstOf a1 a2 b1 b2 c1 c2 n fun i => stpL (s i)) := by unfold askE; rw [p1]; rfl
          rw [eE]
          repeat' first
            | exact PLe.refl _
            | exact BLe.refl _
            | exact PLeL.nil
            | exact BLeL.nil
            | refine ⟨?_, ?_⟩
            | refine PLeL.cons ?_ ?_
            | refine BLeL.cons ?_ ?_
            | refine ple_int ?_
            | refine ple_bool ?_
            | refine ple_tt ?_
            | refine ple_ff ?_
            | refine PLe.aggL ?_
            | refine PLe.tupL ?_
            | refine BLe.cellsL ?_
            | refine fun h => absurd h (by decide)
            | (refine fun h => ?_; exfalso; simp only [p1, Int.toNat_natCast, Bool.cond_true_left, Bool.cond_false_right, Bool.cond_true_right, Bool.cond_false_left, cond_true, cond_false, Bool.not_true, Bool.not_false, Bool.not_not, Bool.and_true, Bool.true_and, Bool.and_false, Bool.false_and, Bool.or_true, Bool.true_or, Bool.or_false, Bool.false_or, beq_self_eq_true, bne_self_eq_false, Bool.true_eq_false, Bool.false_eq_true, reduceCtorEq, Bool.and_self, Bool.or_self, Int.reduceBEq, Int.reduceBNe, Int.reduceNeg, decide_true, decide_false, Int.reduceLT, Int.reduceLE, Int.reduceGT] at h; done)
            | refine fun (h : @Eq Bool _ _) => ?_
          all_goals first
            | trivial
            | rfl
            | omega
            | exact hL
            | (simp only [p1, Int.toNat_natCast, Bool.cond_true_left, Bool.cond_false_right, Bool.cond_true_right, Bool.cond_false_left, cond_true, cond_false, Bool.not_true, Bool.not_false, Bool.not_not, Bool.and_true, Bool.true_and, Bool.and_false, Bool.false_and, Bool.or_true, Bool.true_or, Bool.or_false, Bool.false_or, beq_self_eq_true, bne_self_eq_false, Bool.true_eq_false, Bool.false_eq_true, reduceCtorEq, Bool.and_self, Bool.or_self, Int.reduceBEq, Int.reduceBNe, Int.reduceNeg, decide_true, decide_false, Int.reduceLT, Int.reduceLE, Int.reduceGT]; done)
            | (show @Eq Bool _ _; simp only [p1, Int.toNat_natCast, Bool.cond_true_left, Bool.cond_false_right, Bool.cond_true_right, Bool.cond_false_left, cond_true, cond_false, Bool.not_true, Bool.not_false, Bool.not_not, Bool.and_true, Bool.true_and, Bool.and_false, Bool.false_and, Bool.or_true, Bool.true_or, Bool.or_false, Bool.false_or, beq_self_eq_true, bne_self_eq_false, Bool.true_eq_false, Bool.false_eq_true, reduceCtorEq, Bool.and_self, Bool.or_self, Int.reduceBEq, Int.reduceBNe, Int.reduceNeg, decide_true, decide_false, Int.reduceLT, Int.reduceLE, Int.reduceGT]; done)
            | skip
        · have hok : okT (tstOf a1 a2 b1 b2 c1 c2 n fun i => stpL (s i)) := tfE_ok (by simpa using p1)
          refine (Bool.eq_false_or_eq_true b).elim (fun p2 => ?_) fun p2 => ?_
          · subst p2
            have eE : askE (tstOf a1 a2 b1 b2 c1 c2 n fun i => stpL (s i)) true e = e := by unfold askE; rw [p1]; rfl
            rw [eE]
            repeat' first
              | exact PLe.refl _
              | exact BLe.refl _
              | exact PLeL.nil
              | exact BLeL.nil
              | refine ⟨?_, ?_⟩
              | refine PLeL.cons ?_ ?_
              | refine BLeL.cons ?_ ?_
              | refine ple_int ?_
              | refine ple_bool ?_
              | refine ple_tt ?_
              | refine ple_ff ?_
              | refine PLe.aggL ?_
              | refine PLe.tupL ?_
              | refine BLe.cellsL ?_
              | refine fun h => absurd h (by decide)
              | (refine fun h => ?_; exfalso; simp only [p1, Int.toNat_natCast, Bool.cond_true_left, Bool.cond_false_right, Bool.cond_true_right, Bool.cond_false_left, cond_true, cond_false, Bool.not_true, Bool.not_false, Bool.not_not, Bool.and_true, Bool.true_and, Bool.and_false, Bool.false_and, Bool.or_true, Bool.true_or, Bool.or_false, Bool.false_or, beq_self_eq_true, bne_self_eq_false, Bool.true_eq_false, Bool.false_eq_true, reduceCtorEq, Bool.and_self, Bool.or_self, Int.reduceBEq, Int.reduceBNe, Int.reduceNeg, decide_true, decide_false, Int.reduceLT, Int.reduceLE, Int.reduceGT] at h; done)
              | refine fun (h : @Eq Bool _ _) => ?_
            all_goals first
              | trivial
              | rfl
              | omega
              | exact hL
              | (simp only [p1, Int.toNat_natCast, Bool.cond_true_left, Bool.cond_false_right, Bool.cond_true_right, Bool.cond_false_left, cond_true, cond_false, Bool.not_true, Bool.not_false, Bool.not_not, Bool.and_true, Bool.true_and, Bool.and_false, Bool.false_and, Bool.or_true, Bool.true_or, Bool.or_false, Bool.false_or, beq_self_eq_true, bne_self_eq_false, Bool.true_eq_false, Bool.false_eq_true, reduceCtorEq, Bool.and_self, Bool.or_self, Int.reduceBEq, Int.reduceBNe, Int.reduceNeg, decide_true, decide_false, Int.reduceLT, Int.reduceLE, Int.reduceGT]; done)
              | (show @Eq Bool _ _; simp only [p1, Int.toNat_natCast, Bool.cond_true_left, Bool.cond_false_right, Bool.cond_true_right, Bool.cond_false_left, cond_true, cond_false, Bool.not_true, Bool.not_false, Bool.not_not, Bool.and_true, Bool.true_and, Bool.and_false, Bool.false_and, Bool.or_true, Bool.true_or, Bool.or_false, Bool.false_or, beq_self_eq_true, bne_self_eq_false, Bool.true_eq_false, Bool.false_eq_true, reduceCtorEq, Bool.and_self, Bool.or_self, Int.reduceBEq, Int.reduceBNe, Int.reduceNeg, decide_true, decide_false, Int.reduceLT, Int.reduceLE, Int.reduceGT]; done)
              | skip
          · subst p2
            refine (Bool.eq_false_or_eq_true (manyL (famsM (tstOf a1 a2 b1 b2 c1 c2 n fun i => stpL (s i))) == 0)).elim (fun p3 => ?_) fun p3 => ?_
            · have eE : askE (tstOf a1 a2 b1 b2 c1 c2 n fun i => stpL (s i)) false e = 7 := by unfold askE; rw [p1, p3]; rfl
              rw [eE]
              repeat' first
                | exact PLe.refl _
                | exact BLe.refl _
                | exact PLeL.nil
                | exact BLeL.nil
                | refine ⟨?_, ?_⟩
                | refine PLeL.cons ?_ ?_
                | refine BLeL.cons ?_ ?_
                | refine ple_int ?_
                | refine ple_bool ?_
                | refine ple_tt ?_
                | refine ple_ff ?_
                | refine PLe.aggL ?_
                | refine PLe.tupL ?_
                | refine BLe.cellsL ?_
                | refine fun h => absurd h (by decide)
                | (refine fun h => ?_; exfalso; simp only [p1, p3, Int.toNat_natCast, Bool.cond_true_left, Bool.cond_false_right, Bool.cond_true_right, Bool.cond_false_left, cond_true, cond_false, Bool.not_true, Bool.not_false, Bool.not_not, Bool.and_true, Bool.true_and, Bool.and_false, Bool.false_and, Bool.or_true, Bool.true_or, Bool.or_false, Bool.false_or, beq_self_eq_true, bne_self_eq_false, Bool.true_eq_false, Bool.false_eq_true, reduceCtorEq, Bool.and_self, Bool.or_self, Int.reduceBEq, Int.reduceBNe, Int.reduceNeg, decide_true, decide_false, Int.reduceLT, Int.reduceLE, Int.reduceGT] at h; done)
                | refine fun (h : @Eq Bool _ _) => ?_
              all_goals first
                | trivial
                | rfl
                | omega
                | exact hL
                | (refine .mk hok ?_; rfl)
                | (simp only [p1, p3, Int.toNat_natCast, Bool.cond_true_left, Bool.cond_false_right, Bool.cond_true_right, Bool.cond_false_left, cond_true, cond_false, Bool.not_true, Bool.not_false, Bool.not_not, Bool.and_true, Bool.true_and, Bool.and_false, Bool.false_and, Bool.or_true, Bool.true_or, Bool.or_false, Bool.false_or, beq_self_eq_true, bne_self_eq_false, Bool.true_eq_false, Bool.false_eq_true, reduceCtorEq, Bool.and_self, Bool.or_self, Int.reduceBEq, Int.reduceBNe, Int.reduceNeg, decide_true, decide_false, Int.reduceLT, Int.reduceLE, Int.reduceGT]; done)
                | (show @Eq Bool _ _; simp only [p1, p3, Int.toNat_natCast, Bool.cond_true_left, Bool.cond_false_right, Bool.cond_true_right, Bool.cond_false_left, cond_true, cond_false, Bool.not_true, Bool.not_false, Bool.not_not, Bool.and_true, Bool.true_and, Bool.and_false, Bool.false_and, Bool.or_true, Bool.true_or, Bool.or_false, Bool.false_or, beq_self_eq_true, bne_self_eq_false, Bool.true_eq_false, Bool.false_eq_true, reduceCtorEq, Bool.and_self, Bool.or_self, Int.reduceBEq, Int.reduceBNe, Int.reduceNeg, decide_true, decide_false, Int.reduceLT, Int.reduceLE, Int.reduceGT]; done)
                | skip
            · have eE : askE (tstOf a1 a2 b1 b2 c1 c2 n fun i => stpL (s i)) false e = 0 := by unfold askE; rw [p1, p3]; rfl
              rw [eE]
              repeat' first
                | exact PLe.refl _
                | exact BLe.refl _
                | exact PLeL.nil
                | exact BLeL.nil
                | refine ⟨?_, ?_⟩
                | refine PLeL.cons ?_ ?_
                | refine BLeL.cons ?_ ?_
                | refine ple_int ?_
                | refine ple_bool ?_
                | refine ple_tt ?_
                | refine ple_ff ?_
                | refine PLe.aggL ?_
                | refine PLe.tupL ?_
                | refine BLe.cellsL ?_
                | refine fun h => absurd h (by decide)
                | (refine fun h => ?_; exfalso; simp only [p1, p3, Int.toNat_natCast, Bool.cond_true_left, Bool.cond_false_right, Bool.cond_true_right, Bool.cond_false_left, cond_true, cond_false, Bool.not_true, Bool.not_false, Bool.not_not, Bool.and_true, Bool.true_and, Bool.and_false, Bool.false_and, Bool.or_true, Bool.true_or, Bool.or_false, Bool.false_or, beq_self_eq_true, bne_self_eq_false, Bool.true_eq_false, Bool.false_eq_true, reduceCtorEq, Bool.and_self, Bool.or_self, Int.reduceBEq, Int.reduceBNe, Int.reduceNeg, decide_true, decide_false, Int.reduceLT, Int.reduceLE, Int.reduceGT] at h; done)
                | refine fun (h : @Eq Bool _ _) => ?_
              all_goals first
                | trivial
                | rfl
                | omega
                | exact hL
                | (refine .mk hok ?_; rfl)
                | (simp only [p1, p3, Int.toNat_natCast, Bool.cond_true_left, Bool.cond_false_right, Bool.cond_true_right, Bool.cond_false_left, cond_true, cond_false, Bool.not_true, Bool.not_false, Bool.not_not, Bool.and_true, Bool.true_and, Bool.and_false, Bool.false_and, Bool.or_true, Bool.true_or, Bool.or_false, Bool.false_or, beq_self_eq_true, bne_self_eq_false, Bool.true_eq_false, Bool.false_eq_true, reduceCtorEq, Bool.and_self, Bool.or_self, Int.reduceBEq, Int.reduceBNe, Int.reduceNeg, decide_true, decide_false, Int.reduceLT, Int.reduceLE, Int.reduceGT]; done)
                | (show @Eq Bool _ _; simp only [p1, p3, Int.toNat_natCast, Bool.cond_true_left, Bool.cond_false_right, Bool.cond_true_right, Bool.cond_false_left, cond_true, cond_false, Bool.not_true, Bool.not_false, Bool.not_not, Bool.and_true, Bool.true_and, Bool.and_false, Bool.false_and, Bool.or_true, Bool.true_or, Bool.or_false, Bool.false_or, beq_self_eq_true, bne_self_eq_false, Bool.true_eq_false, Bool.false_eq_true, reduceCtorEq, Bool.and_self, Bool.or_self, Int.reduceBEq, Int.reduceBNe, Int.reduceNeg, decide_true, decide_false, Int.reduceLT, Int.reduceLE, Int.reduceGT]; done)
                | skip
    · exact h.elim
  · exact h.elim
end Go.Proofs.Ytnjhbmcambofgaa
