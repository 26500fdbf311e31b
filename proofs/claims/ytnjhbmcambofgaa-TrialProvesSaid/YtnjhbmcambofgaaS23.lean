/- Layer 4: the first conflict by the document's words. -/
import Derived.Test.YtnjhbmcambofgaaS22
import Derived.Test.YtnjhbmcambofgaaS14
namespace Go.Proofs.Ytnjhbmcambofgaa
open Go.V
set_option linter.unusedSimpArgs false
set_option linter.unusedVariables false

def conAt (t : Tst) (b c : Int) (i j : Nat) : Bool := conB t b c (-1 + (i : Int)) (-1 + (j : Int))
def rowC (t : Tst) (b c : Int) (i : Nat) : Int := firstN (conAt t b c i) (t.n + 1)
def fstC (t : Tst) (b c : Int) : Int := firstN (fun i => decide (0 ≤ rowC t b c i)) (t.n + 1)
def fstP (t : Tst) (b c : Int) : Int × Int := bif decide (0 ≤ fstC t b c) then (-1 + fstC t b c, -1 + rowC t b c (fstC t b c).toNat) else (0, 0)
def firstS : V.Spec
  | [.agg [.int .i64 a1, .int .i64 a2, .int .i64 b1, .int .i64 b2, .int .i64 c1, .int .i64 c2, .slice none n get], .int .i64 b, .int .i64 c] => (some (isL stpL n get), .agg [I (fstP (tstOf a1 a2 b1 b2 c1 c2 n get) b c).1, I (fstP (tstOf a1 a2 b1 b2 c1 c2 n get) b c).2])
  | _ => bad
theorem fstP_t {t : Tst} {b c : Int} {i j : Nat} (hi : i < t.n + 1) (hj : j < t.n + 1) (h1 : ∀ k, k < i → decide (0 ≤ rowC t b c k) = false) (h2 : ∀ k, k < j → conAt t b c i k = false) (h3 : conAt t b c i j = true) : fstP t b c = (-1 + (i : Int), -1 + (j : Int)) := by
  have e1 : rowC t b c i = (j : Int) := firstN_t h2 h3 hj
  have e2 : decide (0 ≤ rowC t b c i) = true := by rw [e1]; exact decide_eq_true (by omega)
  have e3 : fstC t b c = (i : Int) := firstN_t h1 e2 hi
  have e4 : decide (0 ≤ (i : Int)) = true := decide_eq_true (by omega)
  unfold fstP
  rw [e3, e4, cond_true, Int.toNat_natCast, e1]
theorem fstP_f {t : Tst} {b c : Int} (h1 : ∀ k, k < t.n + 1 → decide (0 ≤ rowC t b c k) = false) : fstP t b c = (0, 0) := by
  have e3 : fstC t b c = -1 := firstN_f h1
  unfold fstP
  rw [e3]; rfl
theorem rowC_f {t : Tst} {b c : Int} {i : Nat} (h : ∀ k, k < t.n + 1 → conAt t b c i k = false) : decide (0 ≤ rowC t b c i) = false := by
  have e : rowC t b c i = -1 := firstN_f h
  rw [e]; rfl
set_option maxRecDepth 20000 in
set_option maxHeartbeats 1000000 in
theorem sf90 : SF Try.prog 90 firstS := by
  refine sf_of types_ok mixed (l := [(92, refConS)]) ⟨sf92, trivial⟩ (es := []) trivial 3 Try.func90 rfl (by kernel_rfl) fun args h => ?_
  unfold firstS at h
  split at h
  · rename_i a1 a2 b1 b2 c1 c2 n get b c
    have hL : isL stpL n get := h
    obtain ⟨hn, s, rfl⟩ := isL.get hL
    refine ⟨rfl, ?_⟩
    show evalCode _ _ _ fun o => match o with
      | .normal st | .ret st => withP _ (_ ∧ PLe _ (.agg [I (fstP (tstOf a1 a2 b1 b2 c1 c2 n fun i => stpL (s i)) b c).1, I (fstP (tstOf a1 a2 b1 b2 c1 c2 n fun i => stpL (s i)) b c).2]))
      | _ => False
    repeat' first | (exact PLe.refl _) | (exact BLe.refl _) | (exact PLeL.nil) | (exact BLeL.nil) | (refine ⟨?_, ?_⟩) | (refine PLeL.cons ?_ ?_) | (refine BLeL.cons ?_ ?_) | (refine ple_int ?_) | (refine ple_bool ?_) | (refine ple_tt ?_) | (refine ple_ff ?_) | (refine PLe.aggL ?_) | (refine PLe.tupL ?_) | (refine BLe.cellsL ?_) | (refine halt_rng (cntF 7 (-1)) (n + 1) [1, 2, 3, 6, 7] [3, 6] (fun i => [I b, I c, .ptr 3 0, .ptr 6 0, I (-1 + (i : Nat))]) (fun i => [.cells [I a1, I a2, I b1, I b2, I c1, I c2, .slice none n fun i => stpL (s i)], .cells [I 0, I 0]]) (fun i => ∀ k, k < i → decide (0 ≤ rowC (tstOf a1 a2 b1 b2 c1 c2 n fun i => stpL (s i)) b c k) = false) rfl (.mk ?_ ?_) (fun k hk => by omega) ?_) | (refine fun h => absurd h (by decide)) | (refine fun (h : @Eq Bool _ _) => ?_)
    all_goals first | trivial | rfl | omega | skip
    intro i hi hQ
    refine ⟨fun h1 => ?_, fun h1 => ?_⟩
    · have hlt : i < n + 1 := by
        have : -1 + (i : Int) < (n : Int) := of_decide_eq_true h1
        omega
      have e1 : IntKind.i64.wrap (-1 + (i : Int) + 1) = -1 + ((i + 1 : Nat) : Int) := by rw [w64 (by omega) (by omega)]; omega
      clear h1
      repeat' first | (exact PLe.refl _) | (exact BLe.refl _) | (exact PLeL.nil) | (exact BLeL.nil) | (refine ⟨?_, ?_⟩) | (refine PLeL.cons ?_ ?_) | (refine BLeL.cons ?_ ?_) | (refine ple_int ?_) | (refine ple_bool ?_) | (refine ple_tt ?_) | (refine ple_ff ?_) | (refine PLe.aggL ?_) | (refine PLe.tupL ?_) | (refine BLe.cellsL ?_) | (refine halt_rng (cntF 8 (-1)) (n + 1) [1, 2, 3, 6, 7, 8] [3, 6] (fun j => [I b, I c, .ptr 3 0, .ptr 6 0, I (-1 + (i : Nat)), I (-1 + (j : Nat))]) (fun j => [.cells [I a1, I a2, I b1, I b2, I c1, I c2, .slice none n fun i => stpL (s i)], .cells [I 0, I 0]]) (fun j => ∀ k, k < j → conAt (tstOf a1 a2 b1 b2 c1 c2 n fun i => stpL (s i)) b c i k = false) rfl (.mk ?_ ?_) (fun k hk => by omega) ?_) | (refine fun h => absurd h (by decide)) | (refine fun (h : @Eq Bool _ _) => ?_)
      all_goals first | trivial | rfl | omega | skip
      intro j hj hQ2
      refine ⟨fun h2 => ?_, fun h2 => ?_⟩
      · have hlt2 : j < n + 1 := by
          have : -1 + (j : Int) < (n : Int) := of_decide_eq_true h2
          omega
        have e2 : IntKind.i64.wrap (-1 + (j : Int) + 1) = -1 + ((j + 1 : Nat) : Int) := by rw [w64 (by omega) (by omega)]; omega
        clear h2
        refine (Bool.eq_false_or_eq_true (conB (tstOf a1 a2 b1 b2 c1 c2 n fun i => stpL (s i)) b c (-1 + (i : Int)) (-1 + (j : Int)))).elim (fun q1 => ?_) fun q1 => ?_
        · have eP : fstP (tstOf a1 a2 b1 b2 c1 c2 n fun i => stpL (s i)) b c = (-1 + (i : Int), -1 + (j : Int)) := fstP_t (t := (tstOf a1 a2 b1 b2 c1 c2 n fun i => stpL (s i))) hlt hlt2 hQ hQ2 q1
          rw [eP]
          repeat' first | (exact PLe.refl _) | (exact BLe.refl _) | (exact PLeL.nil) | (exact BLeL.nil) | (refine ⟨?_, ?_⟩) | (refine PLeL.cons ?_ ?_) | (refine BLeL.cons ?_ ?_) | (refine ple_int ?_) | (refine ple_bool ?_) | (refine ple_tt ?_) | (refine ple_ff ?_) | (refine PLe.aggL ?_) | (refine PLe.tupL ?_) | (refine BLe.cellsL ?_) | (refine fun h => absurd h (by decide)) | (refine fun h => ?_; exfalso; simp only [q1, Int.toNat_natCast, Bool.cond_true_left, Bool.cond_false_right, Bool.cond_true_right, Bool.cond_false_left, cond_true, cond_false, Bool.not_true, Bool.not_false, Bool.not_not, Bool.and_true, Bool.true_and, Bool.and_false, Bool.false_and, Bool.or_true, Bool.true_or, Bool.or_false, Bool.false_or, beq_self_eq_true, bne_self_eq_false, Bool.true_eq_false, Bool.false_eq_true, reduceCtorEq, Bool.and_self, Bool.or_self, Int.reduceBEq, Int.reduceBNe, Int.reduceNeg, decide_true, decide_false, Int.reduceLT, Int.reduceLE, Int.reduceGT] at h; done) | (refine fun (h : @Eq Bool _ _) => ?_)
          all_goals first | trivial | rfl | omega | (exact hL) | (simp only [q1, Int.toNat_natCast, Bool.cond_true_left, Bool.cond_false_right, Bool.cond_true_right, Bool.cond_false_left, cond_true, cond_false, Bool.not_true, Bool.not_false, Bool.not_not, Bool.and_true, Bool.true_and, Bool.and_false, Bool.false_and, Bool.or_true, Bool.true_or, Bool.or_false, Bool.false_or, beq_self_eq_true, bne_self_eq_false, Bool.true_eq_false, Bool.false_eq_true, reduceCtorEq, Bool.and_self, Bool.or_self, Int.reduceBEq, Int.reduceBNe, Int.reduceNeg, decide_true, decide_false, Int.reduceLT, Int.reduceLE, Int.reduceGT]; done) | (show @Eq Bool _ _; simp only [q1, Int.toNat_natCast, Bool.cond_true_left, Bool.cond_false_right, Bool.cond_true_right, Bool.cond_false_left, cond_true, cond_false, Bool.not_true, Bool.not_false, Bool.not_not, Bool.and_true, Bool.true_and, Bool.and_false, Bool.false_and, Bool.or_true, Bool.true_or, Bool.or_false, Bool.false_or, beq_self_eq_true, bne_self_eq_false, Bool.true_eq_false, Bool.false_eq_true, reduceCtorEq, Bool.and_self, Bool.or_self, Int.reduceBEq, Int.reduceBNe, Int.reduceNeg, decide_true, decide_false, Int.reduceLT, Int.reduceLE, Int.reduceGT]; done) | skip
        · have hQ2' : ∀ k, k < j + 1 → conAt (tstOf a1 a2 b1 b2 c1 c2 n fun i => stpL (s i)) b c i k = false := fun k hk => by
            rcases Nat.lt_succ_iff_lt_or_eq.1 hk with h1 | rfl
            · exact hQ2 k h1
            · exact q1
          repeat' first | (exact PLe.refl _) | (exact BLe.refl _) | (exact PLeL.nil) | (exact BLeL.nil) | (refine ⟨?_, ?_⟩) | (refine PLeL.cons ?_ ?_) | (refine BLeL.cons ?_ ?_) | (refine ple_int ?_) | (refine ple_bool ?_) | (refine ple_tt ?_) | (refine ple_ff ?_) | (refine PLe.aggL ?_) | (refine PLe.tupL ?_) | (refine BLe.cellsL ?_) | (refine next_rng (cn := cntF 8 (-1)) rfl (fun m => by show (-1 + (m : Int) - -1).toNat = m; omega) hlt2 hQ2' (.mk ?_ ?_)) | (refine fun h => absurd h (by decide)) | (refine fun h => ?_; exfalso; simp only [q1, Int.toNat_natCast, Bool.cond_true_left, Bool.cond_false_right, Bool.cond_true_right, Bool.cond_false_left, cond_true, cond_false, Bool.not_true, Bool.not_false, Bool.not_not, Bool.and_true, Bool.true_and, Bool.and_false, Bool.false_and, Bool.or_true, Bool.true_or, Bool.or_false, Bool.false_or, beq_self_eq_true, bne_self_eq_false, Bool.true_eq_false, Bool.false_eq_true, reduceCtorEq, Bool.and_self, Bool.or_self, Int.reduceBEq, Int.reduceBNe, Int.reduceNeg, decide_true, decide_false, Int.reduceLT, Int.reduceLE, Int.reduceGT] at h; done) | (refine fun (h : @Eq Bool _ _) => ?_)
          all_goals first | trivial | rfl | omega | (exact hL) | (exact e2) | (simp only [q1, Int.toNat_natCast, Bool.cond_true_left, Bool.cond_false_right, Bool.cond_true_right, Bool.cond_false_left, cond_true, cond_false, Bool.not_true, Bool.not_false, Bool.not_not, Bool.and_true, Bool.true_and, Bool.and_false, Bool.false_and, Bool.or_true, Bool.true_or, Bool.or_false, Bool.false_or, beq_self_eq_true, bne_self_eq_false, Bool.true_eq_false, Bool.false_eq_true, reduceCtorEq, Bool.and_self, Bool.or_self, Int.reduceBEq, Int.reduceBNe, Int.reduceNeg, decide_true, decide_false, Int.reduceLT, Int.reduceLE, Int.reduceGT]; done) | (show @Eq Bool _ _; simp only [q1, Int.toNat_natCast, Bool.cond_true_left, Bool.cond_false_right, Bool.cond_true_right, Bool.cond_false_left, cond_true, cond_false, Bool.not_true, Bool.not_false, Bool.not_not, Bool.and_true, Bool.true_and, Bool.and_false, Bool.false_and, Bool.or_true, Bool.true_or, Bool.or_false, Bool.false_or, beq_self_eq_true, bne_self_eq_false, Bool.true_eq_false, Bool.false_eq_true, reduceCtorEq, Bool.and_self, Bool.or_self, Int.reduceBEq, Int.reduceBNe, Int.reduceNeg, decide_true, decide_false, Int.reduceLT, Int.reduceLE, Int.reduceGT]; done) | skip
      · have hjn : j = n + 1 := by
          have : ¬ (-1 + (j : Int) < (n : Int)) := of_decide_eq_false h2
          omega
        subst hjn
        clear h2
        have hQ' : ∀ k, k < i + 1 → decide (0 ≤ rowC (tstOf a1 a2 b1 b2 c1 c2 n fun i => stpL (s i)) b c k) = false := fun k hk => by
          rcases Nat.lt_succ_iff_lt_or_eq.1 hk with h1 | rfl
          · exact hQ k h1
          · exact rowC_f (t := (tstOf a1 a2 b1 b2 c1 c2 n fun i => stpL (s i))) hQ2
        repeat' first | (exact PLe.refl _) | (exact BLe.refl _) | (exact PLeL.nil) | (exact BLeL.nil) | (refine ⟨?_, ?_⟩) | (refine PLeL.cons ?_ ?_) | (refine BLeL.cons ?_ ?_) | (refine ple_int ?_) | (refine ple_bool ?_) | (refine ple_tt ?_) | (refine ple_ff ?_) | (refine PLe.aggL ?_) | (refine PLe.tupL ?_) | (refine BLe.cellsL ?_) | (refine next_rng (cn := cntF 7 (-1)) rfl (fun m => by show (-1 + (m : Int) - -1).toNat = m; omega) hlt hQ' (.mk ?_ ?_)) | (refine fun h => absurd h (by decide)) | (refine fun (h : @Eq Bool _ _) => ?_)
        all_goals first | trivial | rfl | omega | (exact e1) | skip
    · have hin : i = n + 1 := by
        have : ¬ (-1 + (i : Int) < (n : Int)) := of_decide_eq_false h1
        omega
      subst hin
      clear h1
      have eP : fstP (tstOf a1 a2 b1 b2 c1 c2 n fun i => stpL (s i)) b c = (0, 0) := fstP_f (t := (tstOf a1 a2 b1 b2 c1 c2 n fun i => stpL (s i))) hQ
      rw [eP]
      repeat' first | (exact PLe.refl _) | (exact BLe.refl _) | (exact PLeL.nil) | (exact BLeL.nil) | (refine ⟨?_, ?_⟩) | (refine PLeL.cons ?_ ?_) | (refine BLeL.cons ?_ ?_) | (refine ple_int ?_) | (refine ple_bool ?_) | (refine ple_tt ?_) | (refine ple_ff ?_) | (refine PLe.aggL ?_) | (refine PLe.tupL ?_) | (refine BLe.cellsL ?_) | (refine fun h => absurd h (by decide)) | (refine fun (h : @Eq Bool _ _) => ?_)
      all_goals first | trivial | rfl | omega | skip
  · exact h.elim
end Go.Proofs.Ytnjhbmcambofgaa
