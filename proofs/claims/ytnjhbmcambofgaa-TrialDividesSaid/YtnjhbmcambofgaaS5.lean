/- Layer 4: tests, whether they are valid; who agrees. -/
import Derived.Test.YtnjhbmcambofgaaS4
namespace Go.Proofs.Ytnjhbmcambofgaa
open Go.V
set_option linter.unusedSimpArgs false

def boxB (t : Tst) : Bool := decide (okBox t.a.lo t.a.hi t.b.lo t.b.hi t.c.lo t.c.hi)
def stpB (s : Nat → Stp) (n : Nat) : Bool := allN (fun i => decide (okStp (s i).q (s i).lo (s i).hi)) n
/-- The error of a test. -/
def tfE (t : Tst) : Int := bif decide ((12 : Int) < (t.n : Int)) then 3 else bif boxB t && stpB t.s t.n then 0 else 1
theorem tfE_ok {t : Tst} (h : tfE t = 0) : okT t := by
  unfold tfE at h
  cases h1 : decide ((12 : Int) < (t.n : Int)) with
  | true => rw [h1] at h; exact absurd (show (3 : Int) = 0 from h) (by decide)
  | false =>
    rw [h1] at h
    cases h2 : boxB t && stpB t.s t.n with
    | false => rw [h2] at h; exact absurd (show (1 : Int) = 0 from h) (by decide)
    | true =>
      simp only [Bool.and_eq_true] at h2
      have h1 := of_decide_eq_false h1
      have h3 := of_decide_eq_true h2.1
      exact ⟨by omega, h3.1, ⟨h3.2.1.1, h3.2.1.2.1, h3.2.1.2.2, h3.2.2.1⟩, ⟨h3.2.2.2.1.1, h3.2.2.2.1.2.1, h3.2.2.2.1.2.2, h3.2.2.2.2⟩, fun i hi => of_decide_eq_true (allN_all h2.2 i hi)⟩
theorem tfE_okT {t : Tst} (h : okT t) : tfE t = 0 := by
  unfold tfE
  have h1 : decide ((12 : Int) < (t.n : Int)) = false := decide_eq_false (by have := h.n; omega)
  have h2 : boxB t = true := decide_eq_true ⟨h.a, ⟨h.b.1, h.b.2.1, h.b.2.2.1⟩, h.b.2.2.2, ⟨h.c.1, h.c.2.1, h.c.2.2.1⟩, h.c.2.2.2⟩
  have h3 : stpB t.s t.n = true := allN_t fun i hi => decide_eq_true (h.s i hi)
  rw [h1, h2, h3]; rfl
theorem tfE_or (t : Tst) : tfE t = 3 ∨ tfE t = 1 ∨ tfE t = 0 := by
  unfold tfE
  cases decide ((12 : Int) < (t.n : Int)) <;> cases (boxB t && stpB t.s t.n) <;> simp
def tfS : V.Spec
  | [.agg [.int .i64 a1, .int .i64 a2, .int .i64 b1, .int .i64 b2, .int .i64 c1, .int .i64 c2, .slice none n get]] => (some (isL stpL n get), I (tfE (tstOf a1 a2 b1 b2 c1 c2 n get)))
  | _ => bad
theorem B3 {p q r : Bool} {c : Prop} (h : p = true → c) (h1 : p = false → q = false → c) (h2 : p = false → q = true → r = false → c) (h3 : p = false → q = true → r = true → c) : c := by
  cases p
  · cases q
    · exact h1 rfl rfl
    · cases r
      · exact h2 rfl rfl rfl
      · exact h3 rfl rfl rfl
  · exact h rfl
set_option maxRecDepth 20000 in
theorem sf19 : SF Try.prog 19 tfS := by
  refine sf_of types_ok mixed (l := [(66, hasBoxS), (67, everyVS)]) ⟨sf66, sf67a, trivial⟩ (es := []) trivial 1 Try.func19 rfl (by kernel_rfl) fun args h => ?_
  unfold tfS at h
  split at h
  · rename_i a1 a2 b1 b2 c1 c2 n get
    have hL : isL stpL n get := h
    obtain ⟨hn, s, rfl⟩ := isL.get hL
    clear h
    refine ⟨rfl, ?_⟩
    show evalCode _ _ _ fun o => match o with
      | .normal st | .ret st => withP _ (_ ∧ PLe _ (I (tfE ⟨⟨a1, a2⟩, ⟨b1, b2⟩, ⟨c1, c2⟩, n, s⟩)))
      | _ => False
    refine B3 (p := decide ((12 : Int) < (n : Int))) (q := boxB ⟨⟨a1, a2⟩, ⟨b1, b2⟩, ⟨c1, c2⟩, n, s⟩) (r := stpB s n) (fun p1 => ?_) (fun p1 p2 => ?_) (fun p1 p2 p3 => ?_) (fun p1 p2 p3 => ?_)
    · have e : tfE ⟨⟨a1, a2⟩, ⟨b1, b2⟩, ⟨c1, c2⟩, n, s⟩ = 3 := by unfold tfE; rw [show decide ((12 : Int) < ((⟨⟨a1, a2⟩, ⟨b1, b2⟩, ⟨c1, c2⟩, n, s⟩ : Tst).n : Int)) = _ from p1]; rfl
      rw [e]
      repeat' first | (exact PLe.refl _) | (exact BLe.refl _) | (exact PLeL.nil) | (exact BLeL.nil) | (refine ⟨?_, ?_⟩) | (refine PLeL.cons ?_ ?_) | (refine BLeL.cons ?_ ?_) | (refine ple_int ?_) | (refine ple_bool ?_) | (refine ple_tt ?_) | (refine ple_ff ?_) | (refine PLe.aggL ?_) | (refine PLe.tupL ?_) | (refine BLe.cellsL ?_) | (refine fun h => absurd h (by decide)) | (refine fun h => ?_; exfalso; simp only [p1, Int.toNat_natCast, Bool.cond_true_left, Bool.cond_false_right, Bool.cond_true_right, Bool.cond_false_left, cond_true, cond_false, Bool.not_true, Bool.not_false, Bool.not_not, Bool.and_true, Bool.true_and, Bool.and_false, Bool.false_and, Bool.or_true, Bool.true_or, Bool.or_false, Bool.false_or, beq_self_eq_true, bne_self_eq_false, Bool.true_eq_false, Bool.false_eq_true, reduceCtorEq, Bool.and_self, Bool.or_self, Int.reduceBEq, Int.reduceBNe, Int.reduceNeg, decide_true, decide_false, Int.reduceLT, Int.reduceLE, Int.reduceGT] at h; done) | (refine fun (h : @Eq Bool _ _) => ?_)
      all_goals first | trivial | rfl | omega | (exact hL) | (simp only [p1, Int.toNat_natCast, Bool.cond_true_left, Bool.cond_false_right, Bool.cond_true_right, Bool.cond_false_left, cond_true, cond_false, Bool.not_true, Bool.not_false, Bool.not_not, Bool.and_true, Bool.true_and, Bool.and_false, Bool.false_and, Bool.or_true, Bool.true_or, Bool.or_false, Bool.false_or, beq_self_eq_true, bne_self_eq_false, Bool.true_eq_false, Bool.false_eq_true, reduceCtorEq, Bool.and_self, Bool.or_self, Int.reduceBEq, Int.reduceBNe, Int.reduceNeg, decide_true, decide_false, Int.reduceLT, Int.reduceLE, Int.reduceGT]; done) | (show @Eq Bool _ _; simp only [p1, Int.toNat_natCast, Bool.cond_true_left, Bool.cond_false_right, Bool.cond_true_right, Bool.cond_false_left, cond_true, cond_false, Bool.not_true, Bool.not_false, Bool.not_not, Bool.and_true, Bool.true_and, Bool.and_false, Bool.false_and, Bool.or_true, Bool.true_or, Bool.or_false, Bool.false_or, beq_self_eq_true, bne_self_eq_false, Bool.true_eq_false, Bool.false_eq_true, reduceCtorEq, Bool.and_self, Bool.or_self, Int.reduceBEq, Int.reduceBNe, Int.reduceNeg, decide_true, decide_false, Int.reduceLT, Int.reduceLE, Int.reduceGT]; done) | skip
    · have e : tfE ⟨⟨a1, a2⟩, ⟨b1, b2⟩, ⟨c1, c2⟩, n, s⟩ = 1 := by unfold tfE; rw [show decide ((12 : Int) < ((⟨⟨a1, a2⟩, ⟨b1, b2⟩, ⟨c1, c2⟩, n, s⟩ : Tst).n : Int)) = _ from p1]; simp only [cond_false, p2]; rfl
      rw [e]
      have p2 : decide (okBox a1 a2 b1 b2 c1 c2) = _ := p2
      repeat' first | (exact PLe.refl _) | (exact BLe.refl _) | (exact PLeL.nil) | (exact BLeL.nil) | (refine ⟨?_, ?_⟩) | (refine PLeL.cons ?_ ?_) | (refine BLeL.cons ?_ ?_) | (refine ple_int ?_) | (refine ple_bool ?_) | (refine ple_tt ?_) | (refine ple_ff ?_) | (refine PLe.aggL ?_) | (refine PLe.tupL ?_) | (refine BLe.cellsL ?_) | (refine fun h => absurd h (by decide)) | (refine fun h => ?_; exfalso; simp only [p1, p2, Int.toNat_natCast, Bool.cond_true_left, Bool.cond_false_right, Bool.cond_true_right, Bool.cond_false_left, cond_true, cond_false, Bool.not_true, Bool.not_false, Bool.not_not, Bool.and_true, Bool.true_and, Bool.and_false, Bool.false_and, Bool.or_true, Bool.true_or, Bool.or_false, Bool.false_or, beq_self_eq_true, bne_self_eq_false, Bool.true_eq_false, Bool.false_eq_true, reduceCtorEq, Bool.and_self, Bool.or_self, Int.reduceBEq, Int.reduceBNe, Int.reduceNeg, decide_true, decide_false, Int.reduceLT, Int.reduceLE, Int.reduceGT] at h; done) | (refine fun (h : @Eq Bool _ _) => ?_)
      all_goals first | trivial | rfl | omega | (exact hL) | (simp only [p1, p2, Int.toNat_natCast, Bool.cond_true_left, Bool.cond_false_right, Bool.cond_true_right, Bool.cond_false_left, cond_true, cond_false, Bool.not_true, Bool.not_false, Bool.not_not, Bool.and_true, Bool.true_and, Bool.and_false, Bool.false_and, Bool.or_true, Bool.true_or, Bool.or_false, Bool.false_or, beq_self_eq_true, bne_self_eq_false, Bool.true_eq_false, Bool.false_eq_true, reduceCtorEq, Bool.and_self, Bool.or_self, Int.reduceBEq, Int.reduceBNe, Int.reduceNeg, decide_true, decide_false, Int.reduceLT, Int.reduceLE, Int.reduceGT]; done) | (show @Eq Bool _ _; simp only [p1, p2, Int.toNat_natCast, Bool.cond_true_left, Bool.cond_false_right, Bool.cond_true_right, Bool.cond_false_left, cond_true, cond_false, Bool.not_true, Bool.not_false, Bool.not_not, Bool.and_true, Bool.true_and, Bool.and_false, Bool.false_and, Bool.or_true, Bool.true_or, Bool.or_false, Bool.false_or, beq_self_eq_true, bne_self_eq_false, Bool.true_eq_false, Bool.false_eq_true, reduceCtorEq, Bool.and_self, Bool.or_self, Int.reduceBEq, Int.reduceBNe, Int.reduceNeg, decide_true, decide_false, Int.reduceLT, Int.reduceLE, Int.reduceGT]; done) | skip
    · have e : tfE ⟨⟨a1, a2⟩, ⟨b1, b2⟩, ⟨c1, c2⟩, n, s⟩ = 1 := by unfold tfE; rw [show decide ((12 : Int) < ((⟨⟨a1, a2⟩, ⟨b1, b2⟩, ⟨c1, c2⟩, n, s⟩ : Tst).n : Int)) = _ from p1]; simp only [cond_false, p2, p3]; rfl
      rw [e]
      have p2 : decide (okBox a1 a2 b1 b2 c1 c2) = _ := p2
      have p3 : allN (fun i => decide (okStp (s i).q (s i).lo (s i).hi)) n = _ := p3
      have p4 : allN (fun i => decide (okStp (stpOf (stpL (s i))).q (stpOf (stpL (s i))).lo (stpOf (stpL (s i))).hi)) n = _ := p3
      repeat' first | (exact PLe.refl _) | (exact BLe.refl _) | (exact PLeL.nil) | (exact BLeL.nil) | (refine ⟨?_, ?_⟩) | (refine PLeL.cons ?_ ?_) | (refine BLeL.cons ?_ ?_) | (refine ple_int ?_) | (refine ple_bool ?_) | (refine ple_tt ?_) | (refine ple_ff ?_) | (refine PLe.aggL ?_) | (refine PLe.tupL ?_) | (refine BLe.cellsL ?_) | (refine fun h => absurd h (by decide)) | (refine fun h => ?_; exfalso; simp only [p1, p2, p3, p4, Int.toNat_natCast, Bool.cond_true_left, Bool.cond_false_right, Bool.cond_true_right, Bool.cond_false_left, cond_true, cond_false, Bool.not_true, Bool.not_false, Bool.not_not, Bool.and_true, Bool.true_and, Bool.and_false, Bool.false_and, Bool.or_true, Bool.true_or, Bool.or_false, Bool.false_or, beq_self_eq_true, bne_self_eq_false, Bool.true_eq_false, Bool.false_eq_true, reduceCtorEq, Bool.and_self, Bool.or_self, Int.reduceBEq, Int.reduceBNe, Int.reduceNeg, decide_true, decide_false, Int.reduceLT, Int.reduceLE, Int.reduceGT] at h; done) | (refine fun (h : @Eq Bool _ _) => ?_)
      all_goals first | trivial | rfl | omega | (exact hL) | (simp only [p1, p2, p3, p4, Int.toNat_natCast, Bool.cond_true_left, Bool.cond_false_right, Bool.cond_true_right, Bool.cond_false_left, cond_true, cond_false, Bool.not_true, Bool.not_false, Bool.not_not, Bool.and_true, Bool.true_and, Bool.and_false, Bool.false_and, Bool.or_true, Bool.true_or, Bool.or_false, Bool.false_or, beq_self_eq_true, bne_self_eq_false, Bool.true_eq_false, Bool.false_eq_true, reduceCtorEq, Bool.and_self, Bool.or_self, Int.reduceBEq, Int.reduceBNe, Int.reduceNeg, decide_true, decide_false, Int.reduceLT, Int.reduceLE, Int.reduceGT]; done) | (show @Eq Bool _ _; simp only [p1, p2, p3, p4, Int.toNat_natCast, Bool.cond_true_left, Bool.cond_false_right, Bool.cond_true_right, Bool.cond_false_left, cond_true, cond_false, Bool.not_true, Bool.not_false, Bool.not_not, Bool.and_true, Bool.true_and, Bool.and_false, Bool.false_and, Bool.or_true, Bool.true_or, Bool.or_false, Bool.false_or, beq_self_eq_true, bne_self_eq_false, Bool.true_eq_false, Bool.false_eq_true, reduceCtorEq, Bool.and_self, Bool.or_self, Int.reduceBEq, Int.reduceBNe, Int.reduceNeg, decide_true, decide_false, Int.reduceLT, Int.reduceLE, Int.reduceGT]; done) | skip
    · have e : tfE ⟨⟨a1, a2⟩, ⟨b1, b2⟩, ⟨c1, c2⟩, n, s⟩ = 0 := by unfold tfE; rw [show decide ((12 : Int) < ((⟨⟨a1, a2⟩, ⟨b1, b2⟩, ⟨c1, c2⟩, n, s⟩ : Tst).n : Int)) = _ from p1]; simp only [cond_false, p2, p3]; rfl
      rw [e]
      have p2 : decide (okBox a1 a2 b1 b2 c1 c2) = _ := p2
      have p3 : allN (fun i => decide (okStp (s i).q (s i).lo (s i).hi)) n = _ := p3
      have p4 : allN (fun i => decide (okStp (stpOf (stpL (s i))).q (stpOf (stpL (s i))).lo (stpOf (stpL (s i))).hi)) n = _ := p3
      repeat' first | (exact PLe.refl _) | (exact BLe.refl _) | (exact PLeL.nil) | (exact BLeL.nil) | (refine ⟨?_, ?_⟩) | (refine PLeL.cons ?_ ?_) | (refine BLeL.cons ?_ ?_) | (refine ple_int ?_) | (refine ple_bool ?_) | (refine ple_tt ?_) | (refine ple_ff ?_) | (refine PLe.aggL ?_) | (refine PLe.tupL ?_) | (refine BLe.cellsL ?_) | (refine fun h => absurd h (by decide)) | (refine fun h => ?_; exfalso; simp only [p1, p2, p3, p4, Int.toNat_natCast, Bool.cond_true_left, Bool.cond_false_right, Bool.cond_true_right, Bool.cond_false_left, cond_true, cond_false, Bool.not_true, Bool.not_false, Bool.not_not, Bool.and_true, Bool.true_and, Bool.and_false, Bool.false_and, Bool.or_true, Bool.true_or, Bool.or_false, Bool.false_or, beq_self_eq_true, bne_self_eq_false, Bool.true_eq_false, Bool.false_eq_true, reduceCtorEq, Bool.and_self, Bool.or_self, Int.reduceBEq, Int.reduceBNe, Int.reduceNeg, decide_true, decide_false, Int.reduceLT, Int.reduceLE, Int.reduceGT] at h; done) | (refine fun (h : @Eq Bool _ _) => ?_)
      all_goals first | trivial | rfl | omega | (exact hL) | (simp only [p1, p2, p3, p4, Int.toNat_natCast, Bool.cond_true_left, Bool.cond_false_right, Bool.cond_true_right, Bool.cond_false_left, cond_true, cond_false, Bool.not_true, Bool.not_false, Bool.not_not, Bool.and_true, Bool.true_and, Bool.and_false, Bool.false_and, Bool.or_true, Bool.true_or, Bool.or_false, Bool.false_or, beq_self_eq_true, bne_self_eq_false, Bool.true_eq_false, Bool.false_eq_true, reduceCtorEq, Bool.and_self, Bool.or_self, Int.reduceBEq, Int.reduceBNe, Int.reduceNeg, decide_true, decide_false, Int.reduceLT, Int.reduceLE, Int.reduceGT]; done) | (show @Eq Bool _ _; simp only [p1, p2, p3, p4, Int.toNat_natCast, Bool.cond_true_left, Bool.cond_false_right, Bool.cond_true_right, Bool.cond_false_left, cond_true, cond_false, Bool.not_true, Bool.not_false, Bool.not_not, Bool.and_true, Bool.true_and, Bool.and_false, Bool.false_and, Bool.or_true, Bool.true_or, Bool.or_false, Bool.false_or, beq_self_eq_true, bne_self_eq_false, Bool.true_eq_false, Bool.false_eq_true, reduceCtorEq, Bool.and_self, Bool.or_self, Int.reduceBEq, Int.reduceBNe, Int.reduceNeg, decide_true, decide_false, Int.reduceLT, Int.reduceLE, Int.reduceGT]; done) | skip
  · exact h.elim
set_option maxRecDepth 20000 in
set_option maxHeartbeats 1000000 in
theorem sf21 : SF Try.prog 21 tfS := by
  refine sf_of types_ok mixed (l := [(30, withinS), (62, isFromS)]) ⟨sf30, sf62, trivial⟩ (es := []) trivial 1 Try.func21 rfl (by kernel_rfl) fun args h => ?_
  unfold tfS at h
  split at h
  · rename_i a1 a2 b1 b2 c1 c2 n get
    have hL : isL stpL n get := h
    obtain ⟨hn, s, rfl⟩ := isL.get hL
    clear h
    refine ⟨rfl, ?_⟩
    show evalCode _ _ _ fun o => match o with
      | .normal st | .ret st => withP _ (_ ∧ PLe _ (I (tfE ⟨⟨a1, a2⟩, ⟨b1, b2⟩, ⟨c1, c2⟩, n, s⟩)))
      | _ => False
    refine B3 (p := decide ((12 : Int) < (n : Int))) (q := boxB ⟨⟨a1, a2⟩, ⟨b1, b2⟩, ⟨c1, c2⟩, n, s⟩) (r := true) (fun p1 => ?_) (fun p1 p2 => ?_) (fun p1 p2 p3 => absurd p3 (by decide)) (fun p1 p2 p3 => ?_)
    · have e : tfE ⟨⟨a1, a2⟩, ⟨b1, b2⟩, ⟨c1, c2⟩, n, s⟩ = 3 := by unfold tfE; rw [show decide ((12 : Int) < ((⟨⟨a1, a2⟩, ⟨b1, b2⟩, ⟨c1, c2⟩, n, s⟩ : Tst).n : Int)) = _ from p1]; rfl
      rw [e]
      repeat' first | (exact PLe.refl _) | (exact BLe.refl _) | (exact PLeL.nil) | (exact BLeL.nil) | (refine ⟨?_, ?_⟩) | (refine PLeL.cons ?_ ?_) | (refine BLeL.cons ?_ ?_) | (refine ple_int ?_) | (refine ple_bool ?_) | (refine ple_tt ?_) | (refine ple_ff ?_) | (refine PLe.aggL ?_) | (refine PLe.tupL ?_) | (refine BLe.cellsL ?_) | (refine fun h => absurd h (by decide)) | (refine fun h => ?_; exfalso; simp only [p1, Int.toNat_natCast, Bool.cond_true_left, Bool.cond_false_right, Bool.cond_true_right, Bool.cond_false_left, cond_true, cond_false, Bool.not_true, Bool.not_false, Bool.not_not, Bool.and_true, Bool.true_and, Bool.and_false, Bool.false_and, Bool.or_true, Bool.true_or, Bool.or_false, Bool.false_or, beq_self_eq_true, bne_self_eq_false, Bool.true_eq_false, Bool.false_eq_true, reduceCtorEq, Bool.and_self, Bool.or_self, Int.reduceBEq, Int.reduceBNe, Int.reduceNeg, decide_true, decide_false, Int.reduceLT, Int.reduceLE, Int.reduceGT] at h; done) | (refine fun (h : @Eq Bool _ _) => ?_)
      all_goals first | trivial | rfl | omega | (simp only [p1, Int.toNat_natCast, Bool.cond_true_left, Bool.cond_false_right, Bool.cond_true_right, Bool.cond_false_left, cond_true, cond_false, Bool.not_true, Bool.not_false, Bool.not_not, Bool.and_true, Bool.true_and, Bool.and_false, Bool.false_and, Bool.or_true, Bool.true_or, Bool.or_false, Bool.false_or, beq_self_eq_true, bne_self_eq_false, Bool.true_eq_false, Bool.false_eq_true, reduceCtorEq, Bool.and_self, Bool.or_self, Int.reduceBEq, Int.reduceBNe, Int.reduceNeg, decide_true, decide_false, Int.reduceLT, Int.reduceLE, Int.reduceGT]; done) | (show @Eq Bool _ _; simp only [p1, Int.toNat_natCast, Bool.cond_true_left, Bool.cond_false_right, Bool.cond_true_right, Bool.cond_false_left, cond_true, cond_false, Bool.not_true, Bool.not_false, Bool.not_not, Bool.and_true, Bool.true_and, Bool.and_false, Bool.false_and, Bool.or_true, Bool.true_or, Bool.or_false, Bool.false_or, beq_self_eq_true, bne_self_eq_false, Bool.true_eq_false, Bool.false_eq_true, reduceCtorEq, Bool.and_self, Bool.or_self, Int.reduceBEq, Int.reduceBNe, Int.reduceNeg, decide_true, decide_false, Int.reduceLT, Int.reduceLE, Int.reduceGT]; done) | skip
    · have e : tfE ⟨⟨a1, a2⟩, ⟨b1, b2⟩, ⟨c1, c2⟩, n, s⟩ = 1 := by unfold tfE; rw [show decide ((12 : Int) < ((⟨⟨a1, a2⟩, ⟨b1, b2⟩, ⟨c1, c2⟩, n, s⟩ : Tst).n : Int)) = _ from p1]; simp only [cond_false, p2]; rfl
      rw [e]
      have p2 : decide (okBox a1 a2 b1 b2 c1 c2) = _ := p2
      have p2 := of_decide_eq_false p2
      repeat' first | (exact PLe.refl _) | (exact BLe.refl _) | (exact PLeL.nil) | (exact BLeL.nil) | (refine ⟨?_, ?_⟩) | (refine PLeL.cons ?_ ?_) | (refine BLeL.cons ?_ ?_) | (refine ple_int ?_) | (refine ple_bool ?_) | (refine ple_tt ?_) | (refine ple_ff ?_) | (refine PLe.aggL ?_) | (refine PLe.tupL ?_) | (refine BLe.cellsL ?_) | (refine fun h => absurd h (by decide)) | (refine fun h => ?_; exfalso; simp only [p1, Int.toNat_natCast, Bool.cond_true_left, Bool.cond_false_right, Bool.cond_true_right, Bool.cond_false_left, cond_true, cond_false, Bool.not_true, Bool.not_false, Bool.not_not, Bool.and_true, Bool.true_and, Bool.and_false, Bool.false_and, Bool.or_true, Bool.true_or, Bool.or_false, Bool.false_or, beq_self_eq_true, bne_self_eq_false, Bool.true_eq_false, Bool.false_eq_true, reduceCtorEq, Bool.and_self, Bool.or_self, Int.reduceBEq, Int.reduceBNe, Int.reduceNeg, decide_true, decide_false, Int.reduceLT, Int.reduceLE, Int.reduceGT] at h; done) | (refine fun (h : @Eq Bool _ _) => ?_)
      all_goals first | trivial | rfl | omega | (simp only [p1, Int.toNat_natCast, Bool.cond_true_left, Bool.cond_false_right, Bool.cond_true_right, Bool.cond_false_left, cond_true, cond_false, Bool.not_true, Bool.not_false, Bool.not_not, Bool.and_true, Bool.true_and, Bool.and_false, Bool.false_and, Bool.or_true, Bool.true_or, Bool.or_false, Bool.false_or, beq_self_eq_true, bne_self_eq_false, Bool.true_eq_false, Bool.false_eq_true, reduceCtorEq, Bool.and_self, Bool.or_self, Int.reduceBEq, Int.reduceBNe, Int.reduceNeg, decide_true, decide_false, Int.reduceLT, Int.reduceLE, Int.reduceGT]; done) | (show @Eq Bool _ _; simp only [p1, Int.toNat_natCast, Bool.cond_true_left, Bool.cond_false_right, Bool.cond_true_right, Bool.cond_false_left, cond_true, cond_false, Bool.not_true, Bool.not_false, Bool.not_not, Bool.and_true, Bool.true_and, Bool.and_false, Bool.false_and, Bool.or_true, Bool.true_or, Bool.or_false, Bool.false_or, beq_self_eq_true, bne_self_eq_false, Bool.true_eq_false, Bool.false_eq_true, reduceCtorEq, Bool.and_self, Bool.or_self, Int.reduceBEq, Int.reduceBNe, Int.reduceNeg, decide_true, decide_false, Int.reduceLT, Int.reduceLE, Int.reduceGT]; done) | skip
      all_goals (exfalso; simp only [Bool.not_eq_false', decide_eq_true_eq, decide_eq_false_iff_not, okBox] at *; simp (disch := omega) only [w64] at *; omega)
    · have p2' := p2
      have p2' : decide (okBox a1 a2 b1 b2 c1 c2) = _ := p2'
      have p2' := of_decide_eq_true p2'
      have q1 : decide (0 ≤ a1 ∧ a1 ≤ a2 ∧ a2 ≤ 100000) = true := decide_eq_true p2'.1
      have q2 : decide (0 ≤ b1 ∧ b1 ≤ b2 ∧ b2 ≤ 10000) = true := decide_eq_true p2'.2.1
      have q3 : decide (0 ≤ c1 ∧ c1 ≤ c2 ∧ c2 ≤ 1000) = true := decide_eq_true p2'.2.2.2.1
      have w1 : IntKind.i64.wrap (b2 - b1) = b2 - b1 := w64 (by omega) (by omega)
      have w2 : IntKind.i64.wrap (c2 - c1) = c2 - c1 := w64 (by omega) (by omega)
      have q4 : decide ((39 : Int) < b2 - b1) = false := decide_eq_false (by omega)
      have q5 : decide ((39 : Int) < c2 - c1) = false := decide_eq_false (by omega)
      repeat' first | (exact PLe.refl _) | (exact BLe.refl _) | (exact PLeL.nil) | (exact BLeL.nil) | (refine ⟨?_, ?_⟩) | (refine PLeL.cons ?_ ?_) | (refine BLeL.cons ?_ ?_) | (refine ple_int ?_) | (refine ple_bool ?_) | (refine ple_tt ?_) | (refine ple_ff ?_) | (refine PLe.aggL ?_) | (refine PLe.tupL ?_) | (refine BLe.cellsL ?_) | (refine halt_rng (cnt 3) n [1, 3] [1] (fun m => [.ptr 1 0, I m]) (fun m => [.cells [I a1, I a2, I b1, I b2, I c1, I c2, .slice none n fun i => stpL (s i)]]) (fun m => ∀ i, i < m → decide (okStp (s i).q (s i).lo (s i).hi) = true) rfl (.mk ?_ ?_) (fun i hi => absurd hi (by omega)) ?_) | (refine fun h => absurd h (by decide)) | (refine fun h => ?_; exfalso; simp only [p1, q1, q2, q3, w1, w2, q4, q5, Int.toNat_natCast, Bool.cond_true_left, Bool.cond_false_right, Bool.cond_true_right, Bool.cond_false_left, cond_true, cond_false, Bool.not_true, Bool.not_false, Bool.not_not, Bool.and_true, Bool.true_and, Bool.and_false, Bool.false_and, Bool.or_true, Bool.true_or, Bool.or_false, Bool.false_or, beq_self_eq_true, bne_self_eq_false, Bool.true_eq_false, Bool.false_eq_true, reduceCtorEq, Bool.and_self, Bool.or_self, Int.reduceBEq, Int.reduceBNe, Int.reduceNeg, decide_true, decide_false, Int.reduceLT, Int.reduceLE, Int.reduceGT] at h; done) | (refine fun (h : @Eq Bool _ _) => ?_)
      all_goals first | trivial | rfl | omega | (simp only [p1, q1, q2, q3, w1, w2, q4, q5, Int.toNat_natCast, Bool.cond_true_left, Bool.cond_false_right, Bool.cond_true_right, Bool.cond_false_left, cond_true, cond_false, Bool.not_true, Bool.not_false, Bool.not_not, Bool.and_true, Bool.true_and, Bool.and_false, Bool.false_and, Bool.or_true, Bool.true_or, Bool.or_false, Bool.false_or, beq_self_eq_true, bne_self_eq_false, Bool.true_eq_false, Bool.false_eq_true, reduceCtorEq, Bool.and_self, Bool.or_self, Int.reduceBEq, Int.reduceBNe, Int.reduceNeg, decide_true, decide_false, Int.reduceLT, Int.reduceLE, Int.reduceGT]; done) | (show @Eq Bool _ _; simp only [p1, q1, q2, q3, w1, w2, q4, q5, Int.toNat_natCast, Bool.cond_true_left, Bool.cond_false_right, Bool.cond_true_right, Bool.cond_false_left, cond_true, cond_false, Bool.not_true, Bool.not_false, Bool.not_not, Bool.and_true, Bool.true_and, Bool.and_false, Bool.false_and, Bool.or_true, Bool.true_or, Bool.or_false, Bool.false_or, beq_self_eq_true, bne_self_eq_false, Bool.true_eq_false, Bool.false_eq_true, reduceCtorEq, Bool.and_self, Bool.or_self, Int.reduceBEq, Int.reduceBNe, Int.reduceNeg, decide_true, decide_false, Int.reduceLT, Int.reduceLE, Int.reduceGT]; done) | skip
      intro m hm hq
      refine ⟨fun h3 => ?_, fun h3 => ?_⟩
      · have hmn : m < n := by simpa using h3
        have e3 := succ_w hmn hn
        clear h3
        refine (Bool.eq_false_or_eq_true (decide (okStp (s m).q (s m).lo (s m).hi))).elim (fun hp => ?_) fun hp => ?_
        · have hp2 := of_decide_eq_true hp
          have hq' : ∀ i, i < m + 1 → decide (okStp (s i).q (s i).lo (s i).hi) = true := fun i hi => by
            rcases Nat.lt_succ_iff_lt_or_eq.1 hi with h1 | rfl
            · exact hq i h1
            · exact hp
          have x1 : decide (0 ≤ (s m).q ∧ (s m).q ≤ 1000) = true := decide_eq_true hp2.1
          have x2 : decide (-2000000000 ≤ (s m).lo ∧ (s m).lo ≤ (s m).hi ∧ (s m).hi ≤ 2000000000) = true := decide_eq_true hp2.2
          repeat' first | (exact PLe.refl _) | (exact BLe.refl _) | (exact PLeL.nil) | (exact BLeL.nil) | (refine ⟨?_, ?_⟩) | (refine PLeL.cons ?_ ?_) | (refine BLeL.cons ?_ ?_) | (refine ple_int ?_) | (refine ple_bool ?_) | (refine ple_tt ?_) | (refine ple_ff ?_) | (refine PLe.aggL ?_) | (refine PLe.tupL ?_) | (refine BLe.cellsL ?_) | (refine next_rng (cn := cnt 3) rfl (fun _ => rfl) hmn hq' (.mk ?_ ?_)) | (refine fun h => absurd h (by decide)) | (refine fun h => ?_; exfalso; simp only [hp, x1, x2, Int.toNat_natCast, Bool.cond_true_left, Bool.cond_false_right, Bool.cond_true_right, Bool.cond_false_left, cond_true, cond_false, Bool.not_true, Bool.not_false, Bool.not_not, Bool.and_true, Bool.true_and, Bool.and_false, Bool.false_and, Bool.or_true, Bool.true_or, Bool.or_false, Bool.false_or, beq_self_eq_true, bne_self_eq_false, Bool.true_eq_false, Bool.false_eq_true, reduceCtorEq, Bool.and_self, Bool.or_self, Int.reduceBEq, Int.reduceBNe, Int.reduceNeg, decide_true, decide_false, Int.reduceLT, Int.reduceLE, Int.reduceGT] at h; done) | (refine fun (h : @Eq Bool _ _) => ?_)
          all_goals first | trivial | rfl | omega | (exact e3) | (simp only [hp, x1, x2, Int.toNat_natCast, Bool.cond_true_left, Bool.cond_false_right, Bool.cond_true_right, Bool.cond_false_left, cond_true, cond_false, Bool.not_true, Bool.not_false, Bool.not_not, Bool.and_true, Bool.true_and, Bool.and_false, Bool.false_and, Bool.or_true, Bool.true_or, Bool.or_false, Bool.false_or, beq_self_eq_true, bne_self_eq_false, Bool.true_eq_false, Bool.false_eq_true, reduceCtorEq, Bool.and_self, Bool.or_self, Int.reduceBEq, Int.reduceBNe, Int.reduceNeg, decide_true, decide_false, Int.reduceLT, Int.reduceLE, Int.reduceGT]; done) | (show @Eq Bool _ _; simp only [hp, x1, x2, Int.toNat_natCast, Bool.cond_true_left, Bool.cond_false_right, Bool.cond_true_right, Bool.cond_false_left, cond_true, cond_false, Bool.not_true, Bool.not_false, Bool.not_not, Bool.and_true, Bool.true_and, Bool.and_false, Bool.false_and, Bool.or_true, Bool.true_or, Bool.or_false, Bool.false_or, beq_self_eq_true, bne_self_eq_false, Bool.true_eq_false, Bool.false_eq_true, reduceCtorEq, Bool.and_self, Bool.or_self, Int.reduceBEq, Int.reduceBNe, Int.reduceNeg, decide_true, decide_false, Int.reduceLT, Int.reduceLE, Int.reduceGT]; done) | skip
        · have p3 : stpB s n = false := allN_f hmn hp
          have e : tfE ⟨⟨a1, a2⟩, ⟨b1, b2⟩, ⟨c1, c2⟩, n, s⟩ = 1 := by unfold tfE; rw [show decide ((12 : Int) < ((⟨⟨a1, a2⟩, ⟨b1, b2⟩, ⟨c1, c2⟩, n, s⟩ : Tst).n : Int)) = _ from p1]; simp only [cond_false, p2, p3]; rfl
          rw [e]
          have hp2 := of_decide_eq_false hp
          repeat' first | (exact PLe.refl _) | (exact BLe.refl _) | (exact PLeL.nil) | (exact BLeL.nil) | (refine ⟨?_, ?_⟩) | (refine PLeL.cons ?_ ?_) | (refine BLeL.cons ?_ ?_) | (refine ple_int ?_) | (refine ple_bool ?_) | (refine ple_tt ?_) | (refine ple_ff ?_) | (refine PLe.aggL ?_) | (refine PLe.tupL ?_) | (refine BLe.cellsL ?_) | (refine fun h => absurd h (by decide)) | (refine fun (h : @Eq Bool _ _) => ?_)
          all_goals first | trivial | rfl | omega | skip
          all_goals (exfalso; simp only [Int.toNat_natCast, Bool.not_eq_false', decide_eq_true_eq, decide_eq_false_iff_not, okStp, okDrop] at *; omega)
      · have hmn : m = n := by
          have : ¬ ((m : Int) < n) := of_decide_eq_false h3
          omega
        subst hmn
        have p3 : stpB s m = true := allN_t hq
        have e : tfE ⟨⟨a1, a2⟩, ⟨b1, b2⟩, ⟨c1, c2⟩, m, s⟩ = 0 := by unfold tfE; rw [show decide ((12 : Int) < ((⟨⟨a1, a2⟩, ⟨b1, b2⟩, ⟨c1, c2⟩, m, s⟩ : Tst).n : Int)) = _ from p1]; simp only [cond_false, p2, p3]; rfl
        rw [e]
        repeat' first | (exact PLe.refl _) | (exact BLe.refl _) | (exact PLeL.nil) | (exact BLeL.nil) | (refine ⟨?_, ?_⟩) | (refine PLeL.cons ?_ ?_) | (refine BLeL.cons ?_ ?_) | (refine ple_int ?_) | (refine ple_bool ?_) | (refine ple_tt ?_) | (refine ple_ff ?_) | (refine PLe.aggL ?_) | (refine PLe.tupL ?_) | (refine BLe.cellsL ?_) | (refine fun h => absurd h (by decide)) | (refine fun (h : @Eq Bool _ _) => ?_)
        all_goals first | trivial | rfl | omega | skip
  · exact h.elim
end Go.Proofs.Ytnjhbmcambofgaa
