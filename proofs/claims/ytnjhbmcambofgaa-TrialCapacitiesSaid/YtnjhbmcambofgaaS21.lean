/- Layer 4: Capacity by the document's words. -/
import Derived.Test.YtnjhbmcambofgaaS20
namespace Go.Proofs.Ytnjhbmcambofgaa
open Go.V
set_option linter.unusedSimpArgs false
set_option linter.unusedVariables false

/-- Up to which flow all curves keep the limit, of the first m flows, if they do so one after another. -/
def sureN (l : List Fam) (lim : Int) : Nat → Int
  | 0 => -1
  | m + 1 => bif decide ((encL (dropF (m : Int)) l).hi ≤ lim) && (sureN l lim m == (m : Int) - 1) then (m : Int) else sureN l lim m
def badN (l : List Fam) (lim : Int) : Int := firstN (fun i => !decide ((encL (dropF (i : Int)) l).lo ≤ lim)) 1001
def capS (l : List Fam) (lim : Int) : Int := bif decide (0 ≤ badN l lim) then sureN l lim ((badN l lim).toNat + 1) else sureN l lim 1001
def capM (l : List Fam) (lim : Int) : Int := bif decide (0 ≤ badN l lim) then badN l lim - 1 else 1000
theorem sureN_0 (l : List Fam) (lim : Int) : sureN l lim 0 = -1 := rfl
theorem sureN_1 (l : List Fam) (lim : Int) (m : Nat) : sureN l lim (m + 1) = bif decide ((encL (dropF (m : Int)) l).hi ≤ lim) && (sureN l lim m == (m : Int) - 1) then (m : Int) else sureN l lim m := rfl
theorem badN_t {l : List Fam} {lim : Int} {m : Nat} (h : ∀ i : Nat, i < m → (!decide ((encL (dropF (i : Int)) l).lo ≤ lim)) = false) (hm : decide ((encL (dropF (m : Int)) l).lo ≤ lim) = false) (hlt : m < 1001) : capS l lim = sureN l lim (m + 1) ∧ capM l lim = (m : Int) - 1 := by
  have e : badN l lim = (m : Int) := firstN_t h (by rw [hm]; rfl) hlt
  have e6 : decide (0 ≤ (m : Int)) = true := decide_eq_true (by omega)
  unfold capS capM
  rw [e, e6, cond_true, cond_true, Int.toNat_natCast]
  exact ⟨rfl, rfl⟩
theorem badN_f {l : List Fam} {lim : Int} (h : ∀ i : Nat, i < 1001 → (!decide ((encL (dropF (i : Int)) l).lo ≤ lim)) = false) : capS l lim = sureN l lim 1001 ∧ capM l lim = 1000 := by
  have e : badN l lim = -1 := firstN_f h
  have e6 : decide (0 ≤ (-1 : Int)) = false := by decide
  unfold capS capM
  rw [e, e6, cond_false, cond_false]
  exact ⟨rfl, rfl⟩
attribute [irreducible] sureN badN capS capM
def refCapS : V.Spec
  | [.agg [.int .i64 a1, .int .i64 a2, .int .i64 b1, .int .i64 b2, .int .i64 c1, .int .i64 c2, .slice none n get], .int .i64 lim] => (some (isT (tstOf a1 a2 b1 b2 c1 c2 n get) get), .tup [I (capS (famsM (tstOf a1 a2 b1 b2 c1 c2 n get)) lim), I (capM (famsM (tstOf a1 a2 b1 b2 c1 c2 n get)) lim)])
  | _ => bad
set_option maxRecDepth 20000 in
set_option maxHeartbeats 1000000 in
theorem sf34 : SF Try.prog 34 refCapS := by
  refine sf_of types_ok mixed (l := [(31, refDrawS)]) ⟨sf31, trivial⟩ (es := []) trivial 2 Try.func34 rfl (by kernel_rfl) fun args h => ?_
  unfold refCapS at h
  split at h
  · rename_i a1 a2 b1 b2 c1 c2 n get lim
    have hT : isT (tstOf a1 a2 b1 b2 c1 c2 n get) get := h
    obtain ⟨hok, e⟩ := isT.get hT
    obtain ⟨s, rfl⟩ : ∃ s : Nat → Stp, get = fun i => stpL (s i) := ⟨_, e⟩
    clear e
    refine ⟨rfl, ?_⟩
    show evalCode _ _ _ fun o => match o with
      | .normal st | .ret st => withP _ (_ ∧ PLe _ (.tup [I (capS (famsM (tstOf a1 a2 b1 b2 c1 c2 n fun i => stpL (s i))) lim), I (capM (famsM (tstOf a1 a2 b1 b2 c1 c2 n fun i => stpL (s i))) lim)]))
      | _ => False
    repeat' first
      | exact PLe.refl _
      | exact BLe.refl _
      | exact PLeL.nil
      | exact BLeL.nil
      | refine ⟨?_, ?_⟩
      | refine PLeL.cons ?_ ?_
      | refine BLeL.cons ?_ ?_
      | refine ple_int ?_
      | refine ple_bool ?_
      | refine ple_tt ?_
      | refine ple_ff ?_
      | refine PLe.aggL ?_
      | refine PLe.tupL ?_
      | refine BLe.cellsL ?_
      | refine halt_rng (cnt 8) 1001 [1, 2, 6, 7, 8] [2] (fun m => [I lim, .ptr 2 0, I (sureN (famsM (tstOf a1 a2 b1 b2 c1 c2 n fun i => stpL (s i))) lim m), I ((m : Nat) - 1 : Int), I (m : Nat)]) (fun m => [.cells [I a1, I a2, I b1, I b2, I c1, I c2, .slice none n fun i => stpL (s i)]]) (fun m => ∀ i, i < m → (!decide ((encL (dropF ((i : Nat) : Int)) (famsM (tstOf a1 a2 b1 b2 c1 c2 n fun i => stpL (s i)))).lo ≤ lim)) = false) rfl (.mk ?_ ?_) (fun i hi => by omega) ?_
      | refine fun h => absurd h (by decide)
      | refine fun (h : @Eq Bool _ _) => ?_
    all_goals first
      | trivial
      | rfl
      | omega
      | exact (sureN_0 _ _).symm
      | skip
    intro m hm hQ
    refine ⟨fun h1 => ?_, fun h1 => ?_⟩
    · have hlt : m < 1001 := by
        have : (m : Int) ≤ 1000 := of_decide_eq_true h1
        omega
      have e1 : IntKind.i64.wrap ((m : Int) + 1) = ((m + 1 : Nat) : Int) := by rw [w64 (by omega) (by omega)]; omega
      have e2 : IntKind.i64.wrap ((m : Int) - 1) = (m : Int) - 1 := by rw [w64 (by omega) (by omega)]
      have e3 : ((m : Int) - 1 == IntKind.i64.wrap ((m : Int) - 1)) = true := by rw [e2]; exact beq_self_eq_true _
      have e4 : decide ((m : Int) < (m : Int)) = false := decide_eq_false (by omega)
      have e5 : decide ((m : Int) - 1 < (m : Int)) = true := decide_eq_true (by omega)
      clear h1
      refine (Bool.eq_false_or_eq_true (decide ((encL (dropF (m : Int)) (famsM (tstOf a1 a2 b1 b2 c1 c2 n fun i => stpL (s i)))).hi ≤ lim))).elim (fun q1 => ?_) fun q1 => ?_
      · refine (Bool.eq_false_or_eq_true (sureN (famsM (tstOf a1 a2 b1 b2 c1 c2 n fun i => stpL (s i))) lim m == (m : Int) - 1)).elim (fun q2 => ?_) fun q2 => ?_
        · have q2w : (sureN (famsM (tstOf a1 a2 b1 b2 c1 c2 n fun i => stpL (s i))) lim m == IntKind.i64.wrap ((m : Int) - 1)) = true := by rw [e2]; exact q2
          have eN : sureN (famsM (tstOf a1 a2 b1 b2 c1 c2 n fun i => stpL (s i))) lim (m + 1) = (m : Int) := by
            rw [sureN_1]
            simp only [q1, q2, Bool.true_and, Bool.false_and, Bool.and_true, Bool.and_false, cond_true, cond_false]
          refine (Bool.eq_false_or_eq_true (decide ((encL (dropF (m : Int)) (famsM (tstOf a1 a2 b1 b2 c1 c2 n fun i => stpL (s i)))).lo ≤ lim))).elim (fun r1 => ?_) fun r1 => ?_
          · have hQ' : ∀ i, i < m + 1 → (!decide ((encL (dropF ((i : Nat) : Int)) (famsM (tstOf a1 a2 b1 b2 c1 c2 n fun i => stpL (s i)))).lo ≤ lim)) = false := fun i hi => by
              rcases Nat.lt_succ_iff_lt_or_eq.1 hi with h1 | rfl
              · exact hQ i h1
              · rw [r1]; rfl
            repeat' first
              | exact PLe.refl _
              | exact BLe.refl _
              | exact PLeL.nil
              | exact BLeL.nil
              | refine ⟨?_, ?_⟩
              | refine PLeL.cons ?_ ?_
              | refine BLeL.cons ?_ ?_
              | refine ple_int ?_
              | refine ple_bool ?_
              | refine ple_tt ?_
              | refine ple_ff ?_
              | refine PLe.aggL ?_
              | refine PLe.tupL ?_
              | refine BLe.cellsL ?_
              | refine next_rng (cn := cnt 8) rfl (fun _ => rfl) hlt hQ' (.mk ?_ ?_)
              | refine fun h => absurd h (by decide)
              | (refine fun h => ?_; exfalso; simp only [q1, q2w, r1, e3, e4, e5, Int.toNat_natCast, Bool.cond_true_left, Bool.cond_false_right, Bool.cond_true_right, Bool.cond_false_left, cond_true, cond_false, Bool.not_true, Bool.not_false, Bool.not_not, Bool.and_true, Bool.true_and, Bool.and_false, Bool.false_and, Bool.or_true, Bool.true_or, Bool.or_false, Bool.false_or, beq_self_eq_true, bne_self_eq_false, Bool.true_eq_false, Bool.false_eq_true, reduceCtorEq, Bool.and_self, Bool.or_self, Int.reduceBEq, Int.reduceBNe, Int.reduceNeg, decide_true, decide_false, Int.reduceLT, Int.reduceLE, Int.reduceGT] at h; done)
              | refine fun (h : @Eq Bool _ _) => ?_
            all_goals first
              | trivial
              | rfl
              | omega
              | exact hT
              | exact e1
              | exact eN.symm
              | (show (m : Int) = ((m + 1 : Nat) : Int) - 1; omega)
              | (simp only [q1, q2w, r1, e3, e4, e5, Int.toNat_natCast, Bool.cond_true_left, Bool.cond_false_right, Bool.cond_true_right, Bool.cond_false_left, cond_true, cond_false, Bool.not_true, Bool.not_false, Bool.not_not, Bool.and_true, Bool.true_and, Bool.and_false, Bool.false_and, Bool.or_true, Bool.true_or, Bool.or_false, Bool.false_or, beq_self_eq_true, bne_self_eq_false, Bool.true_eq_false, Bool.false_eq_true, reduceCtorEq, Bool.and_self, Bool.or_self, Int.reduceBEq, Int.reduceBNe, Int.reduceNeg, decide_true, decide_false, Int.reduceLT, Int.reduceLE, Int.reduceGT]; done)
              | (show @Eq Bool _ _; simp only [q1, q2w, r1, e3, e4, e5, Int.toNat_natCast, Bool.cond_true_left, Bool.cond_false_right, Bool.cond_true_right, Bool.cond_false_left, cond_true, cond_false, Bool.not_true, Bool.not_false, Bool.not_not, Bool.and_true, Bool.true_and, Bool.and_false, Bool.false_and, Bool.or_true, Bool.true_or, Bool.or_false, Bool.false_or, beq_self_eq_true, bne_self_eq_false, Bool.true_eq_false, Bool.false_eq_true, reduceCtorEq, Bool.and_self, Bool.or_self, Int.reduceBEq, Int.reduceBNe, Int.reduceNeg, decide_true, decide_false, Int.reduceLT, Int.reduceLE, Int.reduceGT]; done)
              | skip
          · obtain ⟨eS, eM⟩ := badN_t hQ r1 hlt
            rw [eN] at eS
            rw [eS, eM]
            repeat' first
              | exact PLe.refl _
              | exact BLe.refl _
              | exact PLeL.nil
              | exact BLeL.nil
              | refine ⟨?_, ?_⟩
              | refine PLeL.cons ?_ ?_
              | refine BLeL.cons ?_ ?_
              | refine ple_int ?_
              | refine ple_bool ?_
              | refine ple_tt ?_
              | refine ple_ff ?_
              | refine PLe.aggL ?_
              | refine PLe.tupL ?_
              | refine BLe.cellsL ?_
              | refine fun h => absurd h (by decide)
              | (refine fun h => ?_; exfalso; simp only [q1, q2w, r1, e3, e4, e5, Int.toNat_natCast, Bool.cond_true_left, Bool.cond_false_right, Bool.cond_true_right, Bool.cond_false_left, cond_true, cond_false, Bool.not_true, Bool.not_false, Bool.not_not, Bool.and_true, Bool.true_and, Bool.and_false, Bool.false_and, Bool.or_true, Bool.true_or, Bool.or_false, Bool.false_or, beq_self_eq_true, bne_self_eq_false, Bool.true_eq_false, Bool.false_eq_true, reduceCtorEq, Bool.and_self, Bool.or_self, Int.reduceBEq, Int.reduceBNe, Int.reduceNeg, decide_true, decide_false, Int.reduceLT, Int.reduceLE, Int.reduceGT] at h; done)
              | refine fun (h : @Eq Bool _ _) => ?_
            all_goals first
              | trivial
              | rfl
              | omega
              | exact hT
              | exact e1
              | exact eN.symm
              | (simp only [q1, q2w, r1, e3, e4, e5, Int.toNat_natCast, Bool.cond_true_left, Bool.cond_false_right, Bool.cond_true_right, Bool.cond_false_left, cond_true, cond_false, Bool.not_true, Bool.not_false, Bool.not_not, Bool.and_true, Bool.true_and, Bool.and_false, Bool.false_and, Bool.or_true, Bool.true_or, Bool.or_false, Bool.false_or, beq_self_eq_true, bne_self_eq_false, Bool.true_eq_false, Bool.false_eq_true, reduceCtorEq, Bool.and_self, Bool.or_self, Int.reduceBEq, Int.reduceBNe, Int.reduceNeg, decide_true, decide_false, Int.reduceLT, Int.reduceLE, Int.reduceGT]; done)
              | (show @Eq Bool _ _; simp only [q1, q2w, r1, e3, e4, e5, Int.toNat_natCast, Bool.cond_true_left, Bool.cond_false_right, Bool.cond_true_right, Bool.cond_false_left, cond_true, cond_false, Bool.not_true, Bool.not_false, Bool.not_not, Bool.and_true, Bool.true_and, Bool.and_false, Bool.false_and, Bool.or_true, Bool.true_or, Bool.or_false, Bool.false_or, beq_self_eq_true, bne_self_eq_false, Bool.true_eq_false, Bool.false_eq_true, reduceCtorEq, Bool.and_self, Bool.or_self, Int.reduceBEq, Int.reduceBNe, Int.reduceNeg, decide_true, decide_false, Int.reduceLT, Int.reduceLE, Int.reduceGT]; done)
              | skip
        · have q2w : (sureN (famsM (tstOf a1 a2 b1 b2 c1 c2 n fun i => stpL (s i))) lim m == IntKind.i64.wrap ((m : Int) - 1)) = false := by rw [e2]; exact q2
          have eN : sureN (famsM (tstOf a1 a2 b1 b2 c1 c2 n fun i => stpL (s i))) lim (m + 1) = sureN (famsM (tstOf a1 a2 b1 b2 c1 c2 n fun i => stpL (s i))) lim m := by
            rw [sureN_1]
            simp only [q1, q2, Bool.true_and, Bool.false_and, Bool.and_true, Bool.and_false, cond_true, cond_false]
          refine (Bool.eq_false_or_eq_true (decide ((encL (dropF (m : Int)) (famsM (tstOf a1 a2 b1 b2 c1 c2 n fun i => stpL (s i)))).lo ≤ lim))).elim (fun r1 => ?_) fun r1 => ?_
          · have hQ' : ∀ i, i < m + 1 → (!decide ((encL (dropF ((i : Nat) : Int)) (famsM (tstOf a1 a2 b1 b2 c1 c2 n fun i => stpL (s i)))).lo ≤ lim)) = false := fun i hi => by
              rcases Nat.lt_succ_iff_lt_or_eq.1 hi with h1 | rfl
              · exact hQ i h1
              · rw [r1]; rfl
            repeat' first
              | exact PLe.refl _
              | exact BLe.refl _
              | exact PLeL.nil
              | exact BLeL.nil
              | refine ⟨?_, ?_⟩
              | refine PLeL.cons ?_ ?_
              | refine BLeL.cons ?_ ?_
              | refine ple_int ?_
              | refine ple_bool ?_
              | refine ple_tt ?_
              | refine ple_ff ?_
              | refine PLe.aggL ?_
              | refine PLe.tupL ?_
              | refine BLe.cellsL ?_
              | refine next_rng (cn := cnt 8) rfl (fun _ => rfl) hlt hQ' (.mk ?_ ?_)
              | refine fun h => absurd h (by decide)
              | (refine fun h => ?_; exfalso; simp only [q1, q2w, r1, e3, e4, e5, Int.toNat_natCast, Bool.cond_true_left, Bool.cond_false_right, Bool.cond_true_right, Bool.cond_false_left, cond_true, cond_false, Bool.not_true, Bool.not_false, Bool.not_not, Bool.and_true, Bool.true_and, Bool.and_false, Bool.false_and, Bool.or_true, Bool.true_or, Bool.or_false, Bool.false_or, beq_self_eq_true, bne_self_eq_false, Bool.true_eq_false, Bool.false_eq_true, reduceCtorEq, Bool.and_self, Bool.or_self, Int.reduceBEq, Int.reduceBNe, Int.reduceNeg, decide_true, decide_false, Int.reduceLT, Int.reduceLE, Int.reduceGT] at h; done)
              | refine fun (h : @Eq Bool _ _) => ?_
            all_goals first
              | trivial
              | rfl
              | omega
              | exact hT
              | exact e1
              | exact eN.symm
              | (show (m : Int) = ((m + 1 : Nat) : Int) - 1; omega)
              | (simp only [q1, q2w, r1, e3, e4, e5, Int.toNat_natCast, Bool.cond_true_left, Bool.cond_false_right, Bool.cond_true_right, Bool.cond_false_left, cond_true, cond_false, Bool.not_true, Bool.not_false, Bool.not_not, Bool.and_true, Bool.true_and, Bool.and_false, Bool.false_and, Bool.or_true, Bool.true_or, Bool.or_false, Bool.false_or, beq_self_eq_true, bne_self_eq_false, Bool.true_eq_false, Bool.false_eq_true, reduceCtorEq, Bool.and_self, Bool.or_self, Int.reduceBEq, Int.reduceBNe, Int.reduceNeg, decide_true, decide_false, Int.reduceLT, Int.reduceLE, Int.reduceGT]; done)
              | (show @Eq Bool _ _; simp only [q1, q2w, r1, e3, e4, e5, Int.toNat_natCast, Bool.cond_true_left, Bool.cond_false_right, Bool.cond_true_right, Bool.cond_false_left, cond_true, cond_false, Bool.not_true, Bool.not_false, Bool.not_not, Bool.and_true, Bool.true_and, Bool.and_false, Bool.false_and, Bool.or_true, Bool.true_or, Bool.or_false, Bool.false_or, beq_self_eq_true, bne_self_eq_false, Bool.true_eq_false, Bool.false_eq_true, reduceCtorEq, Bool.and_self, Bool.or_self, Int.reduceBEq, Int.reduceBNe, Int.reduceNeg, decide_true, decide_false, Int.reduceLT, Int.reduceLE, Int.reduceGT]; done)
              | skip
          · obtain ⟨eS, eM⟩ := badN_t hQ r1 hlt
            rw [eN] at eS
            rw [eS, eM]
            repeat' first
              | exact PLe.refl _
              | exact BLe.refl _
              | exact PLeL.nil
              | exact BLeL.nil
              | refine ⟨?_, ?_⟩
              | refine PLeL.cons ?_ ?_
              | refine BLeL.cons ?_ ?_
              | refine ple_int ?_
              | refine ple_bool ?_
              | refine ple_tt ?_
              | refine ple_ff ?_
              | refine PLe.aggL ?_
              | refine PLe.tupL ?_
              | refine BLe.cellsL ?_
              | refine fun h => absurd h (by decide)
              | (refine fun h => ?_; exfalso; simp only [q1, q2w, r1, e3, e4, e5, Int.toNat_natCast, Bool.cond_true_left, Bool.cond_false_right, Bool.cond_true_right, Bool.cond_false_left, cond_true, cond_false, Bool.not_true, Bool.not_false, Bool.not_not, Bool.and_true, Bool.true_and, Bool.and_false, Bool.false_and, Bool.or_true, Bool.true_or, Bool.or_false, Bool.false_or, beq_self_eq_true, bne_self_eq_false, Bool.true_eq_false, Bool.false_eq_true, reduceCtorEq, Bool.and_self, Bool.or_self, Int.reduceBEq, Int.reduceBNe, Int.reduceNeg, decide_true, decide_false, Int.reduceLT, Int.reduceLE, Int.reduceGT] at h; done)
              | refine fun (h : @Eq Bool _ _) => ?_
            all_goals first
              | trivial
              | rfl
              | omega
              | exact hT
              | exact e1
              | exact eN.symm
              | (simp only [q1, q2w, r1, e3, e4, e5, Int.toNat_natCast, Bool.cond_true_left, Bool.cond_false_right, Bool.cond_true_right, Bool.cond_false_left, cond_true, cond_false, Bool.not_true, Bool.not_false, Bool.not_not, Bool.and_true, Bool.true_and, Bool.and_false, Bool.false_and, Bool.or_true, Bool.true_or, Bool.or_false, Bool.false_or, beq_self_eq_true, bne_self_eq_false, Bool.true_eq_false, Bool.false_eq_true, reduceCtorEq, Bool.and_self, Bool.or_self, Int.reduceBEq, Int.reduceBNe, Int.reduceNeg, decide_true, decide_false, Int.reduceLT, Int.reduceLE, Int.reduceGT]; done)
              | (show @Eq Bool _ _; simp only [q1, q2w, r1, e3, e4, e5, Int.toNat_natCast, Bool.cond_true_left, Bool.cond_false_right, Bool.cond_true_right, Bool.cond_false_left, cond_true, cond_false, Bool.not_true, Bool.not_false, Bool.not_not, Bool.and_true, Bool.true_and, Bool.and_false, Bool.false_and, Bool.or_true, Bool.true_or, Bool.or_false, Bool.false_or, beq_self_eq_true, bne_self_eq_false, Bool.true_eq_false, Bool.false_eq_true, reduceCtorEq, Bool.and_self, Bool.or_self, Int.reduceBEq, Int.reduceBNe, Int.reduceNeg, decide_true, decide_false, Int.reduceLT, Int.reduceLE, Int.reduceGT]; done)
              | skip
      · skip
        have eN : sureN (famsM (tstOf a1 a2 b1 b2 c1 c2 n fun i => stpL (s i))) lim (m + 1) = sureN (famsM (tstOf a1 a2 b1 b2 c1 c2 n fun i => stpL (s i))) lim m := by
          rw [sureN_1]
          simp only [q1, Bool.true_and, Bool.false_and, Bool.and_true, Bool.and_false, cond_true, cond_false]
        refine (Bool.eq_false_or_eq_true (decide ((encL (dropF (m : Int)) (famsM (tstOf a1 a2 b1 b2 c1 c2 n fun i => stpL (s i)))).lo ≤ lim))).elim (fun r1 => ?_) fun r1 => ?_
        · have hQ' : ∀ i, i < m + 1 → (!decide ((encL (dropF ((i : Nat) : Int)) (famsM (tstOf a1 a2 b1 b2 c1 c2 n fun i => stpL (s i)))).lo ≤ lim)) = false := fun i hi => by
            rcases Nat.lt_succ_iff_lt_or_eq.1 hi with h1 | rfl
            · exact hQ i h1
            · rw [r1]; rfl
          repeat' first
            | exact PLe.refl _
            | exact BLe.refl _
            | exact PLeL.nil
            | exact BLeL.nil
            | refine ⟨?_, ?_⟩
            | refine PLeL.cons ?_ ?_
            | refine BLeL.cons ?_ ?_
            | refine ple_int ?_
            | refine ple_bool ?_
            | refine ple_tt ?_
            | refine ple_ff ?_
            | refine PLe.aggL ?_
            | refine PLe.tupL ?_
            | refine BLe.cellsL ?_
            | refine next_rng (cn := cnt 8) rfl (fun _ => rfl) hlt hQ' (.mk ?_ ?_)
            | refine fun h => absurd h (by decide)
            | (refine fun h => ?_; exfalso; simp only [q1, r1, e3, e4, e5, Int.toNat_natCast, Bool.cond_true_left, Bool.cond_false_right, Bool.cond_true_right, Bool.cond_false_left, cond_true, cond_false, Bool.not_true, Bool.not_false, Bool.not_not, Bool.and_true, Bool.true_and, Bool.and_false, Bool.false_and, Bool.or_true, Bool.true_or, Bool.or_false, Bool.false_or, beq_self_eq_true, bne_self_eq_false, Bool.true_eq_false, Bool.false_eq_true, reduceCtorEq, Bool.and_self, Bool.or_self, Int.reduceBEq, Int.reduceBNe, Int.reduceNeg, decide_true, decide_false, Int.reduceLT, Int.reduceLE, Int.reduceGT] at h; done)
            | refine fun (h : @Eq Bool _ _) => ?_
          all_goals first
            | trivial
            | rfl
            | omega
            | exact hT
            | exact e1
            | exact eN.symm
            | (show (m : Int) = ((m + 1 : Nat) : Int) - 1; omega)
            | (simp only [q1, r1, e3, e4, e5, Int.toNat_natCast, Bool.cond_true_left, Bool.cond_false_right, Bool.cond_true_right, Bool.cond_false_left, cond_true, cond_false, Bool.not_true, Bool.not_false, Bool.not_not, Bool.and_true, Bool.true_and, Bool.and_false, Bool.false_and, Bool.or_true, Bool.true_or, Bool.or_false, Bool.false_or, beq_self_eq_true, bne_self_eq_false, Bool.true_eq_false, Bool.false_eq_true, reduceCtorEq, Bool.and_self, Bool.or_self, Int.reduceBEq, Int.reduceBNe, Int.reduceNeg, decide_true, decide_false, Int.reduceLT, Int.reduceLE, Int.reduceGT]; done)
            | (show @Eq Bool _ _; simp only [q1, r1, e3, e4, e5, Int.toNat_natCast, Bool.cond_true_left, Bool.cond_false_right, Bool.cond_true_right, Bool.cond_false_left, cond_true, cond_false, Bool.not_true, Bool.not_false, Bool.not_not, Bool.and_true, Bool.true_and, Bool.and_false, Bool.false_and, Bool.or_true, Bool.true_or, Bool.or_false, Bool.false_or, beq_self_eq_true, bne_self_eq_false, Bool.true_eq_false, Bool.false_eq_true, reduceCtorEq, Bool.and_self, Bool.or_self, Int.reduceBEq, Int.reduceBNe, Int.reduceNeg, decide_true, decide_false, Int.reduceLT, Int.reduceLE, Int.reduceGT]; done)
            | skip
        · obtain ⟨eS, eM⟩ := badN_t hQ r1 hlt
          rw [eN] at eS
          rw [eS, eM]
          repeat' first
            | exact PLe.refl _
            | exact BLe.refl _
            | exact PLeL.nil
            | exact BLeL.nil
            | refine ⟨?_, ?_⟩
            | refine PLeL.cons ?_ ?_
            | refine BLeL.cons ?_ ?_
            | refine ple_int ?_
            | refine ple_bool ?_
            | refine ple_tt ?_
            | refine ple_ff ?_
            | refine PLe.aggL ?_
            | refine PLe.tupL ?_
            | refine BLe.cellsL ?_
            | refine fun h => absurd h (by decide)
            | (refine fun h => ?_; exfalso; simp only [q1, r1, e3, e4, e5, Int.toNat_natCast, Bool.cond_true_left, Bool.cond_false_right, Bool.cond_true_right, Bool.cond_false_left, cond_true, cond_false, Bool.not_true, Bool.not_false, Bool.not_not, Bool.and_true, Bool.true_and, Bool.and_false, Bool.false_and, Bool.or_true, Bool.true_or, Bool.or_false, Bool.false_or, beq_self_eq_true, bne_self_eq_false, Bool.true_eq_false, Bool.false_eq_true, reduceCtorEq, Bool.and_self, Bool.or_self, Int.reduceBEq, Int.reduceBNe, Int.reduceNeg, decide_true, decide_false, Int.reduceLT, Int.reduceLE, Int.reduceGT] at h; done)
            | refine fun (h : @Eq Bool _ _) => ?_
          all_goals first
            | trivial
            | rfl
            | omega
            | exact hT
            | exact e1
            | exact eN.symm
            | (simp only [q1, r1, e3, e4, e5, Int.toNat_natCast, Bool.cond_true_left, Bool.cond_false_right, Bool.cond_true_right, Bool.cond_false_left, cond_true, cond_false, Bool.not_true, Bool.not_false, Bool.not_not, Bool.and_true, Bool.true_and, Bool.and_false, Bool.false_and, Bool.or_true, Bool.true_or, Bool.or_false, Bool.false_or, beq_self_eq_true, bne_self_eq_false, Bool.true_eq_false, Bool.false_eq_true, reduceCtorEq, Bool.and_self, Bool.or_self, Int.reduceBEq, Int.reduceBNe, Int.reduceNeg, decide_true, decide_false, Int.reduceLT, Int.reduceLE, Int.reduceGT]; done)
            | (show @Eq Bool _ _; simp only [q1, r1, e3, e4, e5, Int.toNat_natCast, Bool.cond_true_left, Bool.cond_false_right, Bool.cond_true_right, Bool.cond_false_left, cond_true, cond_false, Bool.not_true, Bool.not_false, Bool.not_not, Bool.and_true, Bool.true_and, Bool.and_false, Bool.false_and, Bool.or_true, Bool.true_or, Bool.or_false, Bool.false_or, beq_self_eq_true, bne_self_eq_false, Bool.true_eq_false, Bool.false_eq_true, reduceCtorEq, Bool.and_self, Bool.or_self, Int.reduceBEq, Int.reduceBNe, Int.reduceNeg, decide_true, decide_false, Int.reduceLT, Int.reduceLE, Int.reduceGT]; done)
            | skip
    · have hmn : m = 1001 := by
        have : ¬ ((m : Int) ≤ 1000) := of_decide_eq_false h1
        omega
      subst hmn
      clear h1
      obtain ⟨eS, eM⟩ := badN_f hQ
      rw [eS, eM]
      repeat' first
        | exact PLe.refl _
        | exact BLe.refl _
        | exact PLeL.nil
        | exact BLeL.nil
        | refine ⟨?_, ?_⟩
        | refine PLeL.cons ?_ ?_
        | refine BLeL.cons ?_ ?_
        | refine ple_int ?_
        | refine ple_bool ?_
        | refine ple_tt ?_
        | refine ple_ff ?_
        | refine PLe.aggL ?_
        | refine PLe.tupL ?_
        | refine BLe.cellsL ?_
        | refine fun h => absurd h (by decide)
        | refine fun (h : @Eq Bool _ _) => ?_
      all_goals first
        | trivial
        | rfl
        | omega
        | skip
  · exact h.elim
end Go.Proofs.Ytnjhbmcambofgaa
