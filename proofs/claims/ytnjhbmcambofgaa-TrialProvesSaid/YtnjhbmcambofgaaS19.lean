/- Layer 4: Blame of the program. -/
import Derived.Test.YtnjhbmcambofgaaS10
import Derived.Test.YtnjhbmcambofgaaS14
namespace Go.Proofs.Ytnjhbmcambofgaa
open Go.V
set_option linter.unusedSimpArgs false
set_option linter.unusedVariables false

def cutT (t : Tst) (m : Nat) : Tst := ⟨t.a, t.b, t.c, m, t.s⟩
theorem cutT_ok {t : Tst} (h : okT t) {m : Nat} (hm : m ≤ t.n) : okT (cutT t m) := ⟨Nat.le_trans hm h.n, h.a, h.b, h.c, fun i hi => h.s i (Nat.lt_of_lt_of_le hi hm)⟩
/-- The first step with which, and with those before it, no curve agrees; or -1. -/
def blM (t : Tst) : Int := firstN (fun i => ((famsM (cutT t (i + 1))).length : Int) == 0) t.n
def blE (t : Tst) : Int := bif tfE t != 0 then tfE t else bif decide (0 ≤ blM t) then 0 else 7
def blN (t : Tst) : Int := bif tfE t != 0 then 0 else bif decide (0 ≤ blM t) then blM t else 0
def blameS : V.Spec
  | [.agg [.int .i64 a1, .int .i64 a2, .int .i64 b1, .int .i64 b2, .int .i64 c1, .int .i64 c2, .slice none n get]] => (some (isL stpL n get), .tup [I (blN (tstOf a1 a2 b1 b2 c1 c2 n get)), I (blE (tstOf a1 a2 b1 b2 c1 c2 n get))])
  | _ => bad
set_option maxRecDepth 20000 in
set_option maxHeartbeats 1000000 in
theorem sf35 : SF Try.prog 35 blameS := by
  refine sf_of types_ok mixed (l := [(19, tfS), (87, famsS)]) ⟨sf19, sf87, trivial⟩ (es := []) trivial 1 Try.func35 rfl (by kernel_rfl) fun args h => ?_
  unfold blameS at h
  split at h
  · rename_i a1 a2 b1 b2 c1 c2 n get
    have hL : isL stpL n get := h
    obtain ⟨hn, s, rfl⟩ := isL.get hL
    refine ⟨rfl, ?_⟩
    show evalCode _ _ _ fun o => match o with
      | .normal st | .ret st => withP _ (_ ∧ PLe _ (.tup [I (blN (tstOf a1 a2 b1 b2 c1 c2 n fun i => stpL (s i))), I (blE (tstOf a1 a2 b1 b2 c1 c2 n fun i => stpL (s i)))]))
      | _ => False
    refine (Bool.eq_false_or_eq_true (tfE (tstOf a1 a2 b1 b2 c1 c2 n fun i => stpL (s i)) != 0)).elim (fun p1 => ?_) fun p1 => ?_
    · have e1 : blN (tstOf a1 a2 b1 b2 c1 c2 n fun i => stpL (s i)) = 0 := by unfold blN; rw [p1]; rfl
      have e2 : blE (tstOf a1 a2 b1 b2 c1 c2 n fun i => stpL (s i)) = tfE (tstOf a1 a2 b1 b2 c1 c2 n fun i => stpL (s i)) := by unfold blE; rw [p1]; rfl
      rw [e1, e2]
      repeat' first | (exact PLe.refl _) | (exact BLe.refl _) | (exact PLeL.nil) | (exact BLeL.nil) | (refine ⟨?_, ?_⟩) | (refine PLeL.cons ?_ ?_) | (refine BLeL.cons ?_ ?_) | (refine ple_int ?_) | (refine ple_bool ?_) | (refine ple_tt ?_) | (refine ple_ff ?_) | (refine PLe.aggL ?_) | (refine PLe.tupL ?_) | (refine BLe.cellsL ?_) | (refine fun h => absurd h (by decide)) | (refine fun h => ?_; exfalso; simp only [p1, Int.toNat_natCast, Bool.cond_true_left, Bool.cond_false_right, Bool.cond_true_right, Bool.cond_false_left, cond_true, cond_false, Bool.not_true, Bool.not_false, Bool.not_not, Bool.and_true, Bool.true_and, Bool.and_false, Bool.false_and, Bool.or_true, Bool.true_or, Bool.or_false, Bool.false_or, beq_self_eq_true, bne_self_eq_false, Bool.true_eq_false, Bool.false_eq_true, reduceCtorEq, Bool.and_self, Bool.or_self, Int.reduceBEq, Int.reduceBNe, Int.reduceNeg, decide_true, decide_false, Int.reduceLT, Int.reduceLE, Int.reduceGT] at h; done) | (refine fun (h : @Eq Bool _ _) => ?_)
      all_goals first | trivial | rfl | omega | (exact hL) | (simp only [p1, Int.toNat_natCast, Bool.cond_true_left, Bool.cond_false_right, Bool.cond_true_right, Bool.cond_false_left, cond_true, cond_false, Bool.not_true, Bool.not_false, Bool.not_not, Bool.and_true, Bool.true_and, Bool.and_false, Bool.false_and, Bool.or_true, Bool.true_or, Bool.or_false, Bool.false_or, beq_self_eq_true, bne_self_eq_false, Bool.true_eq_false, Bool.false_eq_true, reduceCtorEq, Bool.and_self, Bool.or_self, Int.reduceBEq, Int.reduceBNe, Int.reduceNeg, decide_true, decide_false, Int.reduceLT, Int.reduceLE, Int.reduceGT]; done) | (show @Eq Bool _ _; simp only [p1, Int.toNat_natCast, Bool.cond_true_left, Bool.cond_false_right, Bool.cond_true_right, Bool.cond_false_left, cond_true, cond_false, Bool.not_true, Bool.not_false, Bool.not_not, Bool.and_true, Bool.true_and, Bool.and_false, Bool.false_and, Bool.or_true, Bool.true_or, Bool.or_false, Bool.false_or, beq_self_eq_true, bne_self_eq_false, Bool.true_eq_false, Bool.false_eq_true, reduceCtorEq, Bool.and_self, Bool.or_self, Int.reduceBEq, Int.reduceBNe, Int.reduceNeg, decide_true, decide_false, Int.reduceLT, Int.reduceLE, Int.reduceGT]; done) | skip
    · have hok : okT (tstOf a1 a2 b1 b2 c1 c2 n fun i => stpL (s i)) := tfE_ok (by simpa using p1)
      have hn12 : n ≤ 12 := hok.n
      have e1 : blN (tstOf a1 a2 b1 b2 c1 c2 n fun i => stpL (s i)) = bif decide (0 ≤ blM (tstOf a1 a2 b1 b2 c1 c2 n fun i => stpL (s i))) then blM (tstOf a1 a2 b1 b2 c1 c2 n fun i => stpL (s i)) else 0 := by unfold blN; rw [p1]; rfl
      have e2 : blE (tstOf a1 a2 b1 b2 c1 c2 n fun i => stpL (s i)) = bif decide (0 ≤ blM (tstOf a1 a2 b1 b2 c1 c2 n fun i => stpL (s i))) then 0 else 7 := by unfold blE; rw [p1]; rfl
      rw [e1, e2]
      repeat' first | (exact PLe.refl _) | (exact BLe.refl _) | (exact PLeL.nil) | (exact BLeL.nil) | (refine ⟨?_, ?_⟩) | (refine PLeL.cons ?_ ?_) | (refine BLeL.cons ?_ ?_) | (refine ple_int ?_) | (refine ple_bool ?_) | (refine ple_tt ?_) | (refine ple_ff ?_) | (refine PLe.aggL ?_) | (refine PLe.tupL ?_) | (refine BLe.cellsL ?_) | (refine halt_rng (cnt 15) n [1, 14, 15] [1] (fun m => [.ptr 1 0, I (n : Nat), I (m : Nat)]) (fun m => [.cells [I a1, I a2, I b1, I b2, I c1, I c2, .slice none n fun i => stpL (s i)]]) (fun m => ∀ i, i < m → (((famsM (tstOf a1 a2 b1 b2 c1 c2 (i + 1) fun i => stpL (s i))).length : Int) == 0) = false) rfl (.mk ?_ ?_) (fun i hi => by omega) ?_) | (refine fun h => absurd h (by decide)) | (refine fun h => ?_; exfalso; simp only [p1, Int.toNat_natCast, Bool.cond_true_left, Bool.cond_false_right, Bool.cond_true_right, Bool.cond_false_left, cond_true, cond_false, Bool.not_true, Bool.not_false, Bool.not_not, Bool.and_true, Bool.true_and, Bool.and_false, Bool.false_and, Bool.or_true, Bool.true_or, Bool.or_false, Bool.false_or, beq_self_eq_true, bne_self_eq_false, Bool.true_eq_false, Bool.false_eq_true, reduceCtorEq, Bool.and_self, Bool.or_self, Int.reduceBEq, Int.reduceBNe, Int.reduceNeg, decide_true, decide_false, Int.reduceLT, Int.reduceLE, Int.reduceGT] at h; done) | (refine fun (h : @Eq Bool _ _) => ?_)
      all_goals first | trivial | rfl | omega | (exact hL) | (simp only [p1, Int.toNat_natCast, Bool.cond_true_left, Bool.cond_false_right, Bool.cond_true_right, Bool.cond_false_left, cond_true, cond_false, Bool.not_true, Bool.not_false, Bool.not_not, Bool.and_true, Bool.true_and, Bool.and_false, Bool.false_and, Bool.or_true, Bool.true_or, Bool.or_false, Bool.false_or, beq_self_eq_true, bne_self_eq_false, Bool.true_eq_false, Bool.false_eq_true, reduceCtorEq, Bool.and_self, Bool.or_self, Int.reduceBEq, Int.reduceBNe, Int.reduceNeg, decide_true, decide_false, Int.reduceLT, Int.reduceLE, Int.reduceGT]; done) | (show @Eq Bool _ _; simp only [p1, Int.toNat_natCast, Bool.cond_true_left, Bool.cond_false_right, Bool.cond_true_right, Bool.cond_false_left, cond_true, cond_false, Bool.not_true, Bool.not_false, Bool.not_not, Bool.and_true, Bool.true_and, Bool.and_false, Bool.false_and, Bool.or_true, Bool.true_or, Bool.or_false, Bool.false_or, beq_self_eq_true, bne_self_eq_false, Bool.true_eq_false, Bool.false_eq_true, reduceCtorEq, Bool.and_self, Bool.or_self, Int.reduceBEq, Int.reduceBNe, Int.reduceNeg, decide_true, decide_false, Int.reduceLT, Int.reduceLE, Int.reduceGT]; done) | skip
      intro m hm hQ
      refine ⟨fun h1 => ?_, fun h1 => ?_⟩
      · have hlt : m < n := by simpa using h1
        have e3 := succ_w hlt hn
        clear h1
        have hT : isT (tstOf a1 a2 b1 b2 c1 c2 (IntKind.i64.wrap ((m : Int) + 1)).toNat fun i => stpL (s i)) (fun i => stpL (s i)) := by
          rw [e3]
          exact .mk (cutT_ok hok (m := m + 1) hlt) rfl
        refine (Bool.eq_false_or_eq_true (((famsM (tstOf a1 a2 b1 b2 c1 c2 (m + 1) fun i => stpL (s i))).length : Int) == 0)).elim (fun q1 => ?_) fun q1 => ?_
        · have q2 : (((famsM (tstOf a1 a2 b1 b2 c1 c2 (IntKind.i64.wrap ((m : Int) + 1)).toNat fun i => stpL (s i))).length : Int) == 0) = true := by rw [e3]; exact q1
          have e4 : blM (tstOf a1 a2 b1 b2 c1 c2 n fun i => stpL (s i)) = (m : Int) := firstN_t hQ q1 hlt
          have e5 : decide (0 ≤ (m : Int)) = true := decide_eq_true (by omega)
          rw [e4, e5]
          repeat' first | (exact PLe.refl _) | (exact BLe.refl _) | (exact PLeL.nil) | (exact BLeL.nil) | (refine ⟨?_, ?_⟩) | (refine PLeL.cons ?_ ?_) | (refine BLeL.cons ?_ ?_) | (refine ple_int ?_) | (refine ple_bool ?_) | (refine ple_tt ?_) | (refine ple_ff ?_) | (refine PLe.aggL ?_) | (refine PLe.tupL ?_) | (refine BLe.cellsL ?_) | (refine fun h => absurd h (by decide)) | (refine fun h => ?_; exfalso; simp only [q2, Int.toNat_natCast, Bool.cond_true_left, Bool.cond_false_right, Bool.cond_true_right, Bool.cond_false_left, cond_true, cond_false, Bool.not_true, Bool.not_false, Bool.not_not, Bool.and_true, Bool.true_and, Bool.and_false, Bool.false_and, Bool.or_true, Bool.true_or, Bool.or_false, Bool.false_or, beq_self_eq_true, bne_self_eq_false, Bool.true_eq_false, Bool.false_eq_true, reduceCtorEq, Bool.and_self, Bool.or_self, Int.reduceBEq, Int.reduceBNe, Int.reduceNeg, decide_true, decide_false, Int.reduceLT, Int.reduceLE, Int.reduceGT] at h; done) | (refine fun (h : @Eq Bool _ _) => ?_)
          all_goals first | trivial | rfl | omega | (exact hT) | (rw [e3]; omega) | (exact fun _ _ => rfl) | (exact stp_len) | (simp only [q2, Int.toNat_natCast, Bool.cond_true_left, Bool.cond_false_right, Bool.cond_true_right, Bool.cond_false_left, cond_true, cond_false, Bool.not_true, Bool.not_false, Bool.not_not, Bool.and_true, Bool.true_and, Bool.and_false, Bool.false_and, Bool.or_true, Bool.true_or, Bool.or_false, Bool.false_or, beq_self_eq_true, bne_self_eq_false, Bool.true_eq_false, Bool.false_eq_true, reduceCtorEq, Bool.and_self, Bool.or_self, Int.reduceBEq, Int.reduceBNe, Int.reduceNeg, decide_true, decide_false, Int.reduceLT, Int.reduceLE, Int.reduceGT]; done) | (show @Eq Bool _ _; simp only [q2, Int.toNat_natCast, Bool.cond_true_left, Bool.cond_false_right, Bool.cond_true_right, Bool.cond_false_left, cond_true, cond_false, Bool.not_true, Bool.not_false, Bool.not_not, Bool.and_true, Bool.true_and, Bool.and_false, Bool.false_and, Bool.or_true, Bool.true_or, Bool.or_false, Bool.false_or, beq_self_eq_true, bne_self_eq_false, Bool.true_eq_false, Bool.false_eq_true, reduceCtorEq, Bool.and_self, Bool.or_self, Int.reduceBEq, Int.reduceBNe, Int.reduceNeg, decide_true, decide_false, Int.reduceLT, Int.reduceLE, Int.reduceGT]; done) | skip
        · have q2 : (((famsM (tstOf a1 a2 b1 b2 c1 c2 (IntKind.i64.wrap ((m : Int) + 1)).toNat fun i => stpL (s i))).length : Int) == 0) = false := by rw [e3]; exact q1
          have hQ' : ∀ i, i < m + 1 → (((famsM (tstOf a1 a2 b1 b2 c1 c2 (i + 1) fun i => stpL (s i))).length : Int) == 0) = false := fun i hi => by
            rcases Nat.lt_succ_iff_lt_or_eq.1 hi with h1 | rfl
            · exact hQ i h1
            · exact q1
          repeat' first | (exact PLe.refl _) | (exact BLe.refl _) | (exact PLeL.nil) | (exact BLeL.nil) | (refine ⟨?_, ?_⟩) | (refine PLeL.cons ?_ ?_) | (refine BLeL.cons ?_ ?_) | (refine ple_int ?_) | (refine ple_bool ?_) | (refine ple_tt ?_) | (refine ple_ff ?_) | (refine PLe.aggL ?_) | (refine PLe.tupL ?_) | (refine BLe.cellsL ?_) | (refine next_rng (cn := cnt 15) rfl (fun _ => rfl) hlt hQ' (.mk ?_ ?_)) | (refine fun h => absurd h (by decide)) | (refine fun h => ?_; exfalso; simp only [q2, Int.toNat_natCast, Bool.cond_true_left, Bool.cond_false_right, Bool.cond_true_right, Bool.cond_false_left, cond_true, cond_false, Bool.not_true, Bool.not_false, Bool.not_not, Bool.and_true, Bool.true_and, Bool.and_false, Bool.false_and, Bool.or_true, Bool.true_or, Bool.or_false, Bool.false_or, beq_self_eq_true, bne_self_eq_false, Bool.true_eq_false, Bool.false_eq_true, reduceCtorEq, Bool.and_self, Bool.or_self, Int.reduceBEq, Int.reduceBNe, Int.reduceNeg, decide_true, decide_false, Int.reduceLT, Int.reduceLE, Int.reduceGT] at h; done) | (refine fun (h : @Eq Bool _ _) => ?_)
          all_goals first | trivial | rfl | omega | (exact hT) | (exact e3) | (rw [e3]; omega) | (exact fun _ _ => rfl) | (exact stp_len) | (simp only [q2, Int.toNat_natCast, Bool.cond_true_left, Bool.cond_false_right, Bool.cond_true_right, Bool.cond_false_left, cond_true, cond_false, Bool.not_true, Bool.not_false, Bool.not_not, Bool.and_true, Bool.true_and, Bool.and_false, Bool.false_and, Bool.or_true, Bool.true_or, Bool.or_false, Bool.false_or, beq_self_eq_true, bne_self_eq_false, Bool.true_eq_false, Bool.false_eq_true, reduceCtorEq, Bool.and_self, Bool.or_self, Int.reduceBEq, Int.reduceBNe, Int.reduceNeg, decide_true, decide_false, Int.reduceLT, Int.reduceLE, Int.reduceGT]; done) | (show @Eq Bool _ _; simp only [q2, Int.toNat_natCast, Bool.cond_true_left, Bool.cond_false_right, Bool.cond_true_right, Bool.cond_false_left, cond_true, cond_false, Bool.not_true, Bool.not_false, Bool.not_not, Bool.and_true, Bool.true_and, Bool.and_false, Bool.false_and, Bool.or_true, Bool.true_or, Bool.or_false, Bool.false_or, beq_self_eq_true, bne_self_eq_false, Bool.true_eq_false, Bool.false_eq_true, reduceCtorEq, Bool.and_self, Bool.or_self, Int.reduceBEq, Int.reduceBNe, Int.reduceNeg, decide_true, decide_false, Int.reduceLT, Int.reduceLE, Int.reduceGT]; done) | skip
      · have hmn : m = n := by
          have : ¬ ((m : Int) < n) := of_decide_eq_false h1
          omega
        subst hmn
        have e4 : blM (tstOf a1 a2 b1 b2 c1 c2 m fun i => stpL (s i)) = -1 := firstN_f hQ
        rw [e4]
        repeat' first | (exact PLe.refl _) | (exact BLe.refl _) | (exact PLeL.nil) | (exact BLeL.nil) | (refine ⟨?_, ?_⟩) | (refine PLeL.cons ?_ ?_) | (refine BLeL.cons ?_ ?_) | (refine ple_int ?_) | (refine ple_bool ?_) | (refine ple_tt ?_) | (refine ple_ff ?_) | (refine PLe.aggL ?_) | (refine PLe.tupL ?_) | (refine BLe.cellsL ?_) | (refine fun h => absurd h (by decide)) | (refine fun (h : @Eq Bool _ _) => ?_)
        all_goals first | trivial | rfl | omega | skip
  · exact h.elim
end Go.Proofs.Ytnjhbmcambofgaa
