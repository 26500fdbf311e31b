/- Layer 4: Relations of any survey. -/
import Derived.Test.YtnjhbmcambofgaaS16
namespace Go.Proofs.Ytnjhbmcambofgaa
open Go.V
set_option linter.unusedSimpArgs false
set_option linter.unusedVariables false

def relE2 (v : Svy) : Int := bif svE v != 0 then svE v else relE v
def relN2 (v : Svy) : Nat := bif svE v != 0 then 0 else relN v
def relationsS : V.Spec
  | [.agg [.int .i64 wl, .int .i64 lv, .slice none n get]] => (some (isL obsL n get), .tup [.slice none (relN2 (svyOf wl lv n get)) (relsG (svyOf wl lv n get)), I (relE2 (svyOf wl lv n get))])
  | _ => bad
set_option maxRecDepth 20000 in
set_option maxHeartbeats 1000000 in
theorem rels_err (v : Svy) (hn : v.n ≤ 4611686018427387904) (p1 : (svE (svyOf v.wl v.lv v.n fun i => obsL (v.s i)) != 0) = true) : SF Try.prog 50 (V.atS [.agg (svyC v)] (.tup [.slice none 0 (relsG v), I (svE (svyOf v.wl v.lv v.n fun i => obsL (v.s i)))])) := by
  refine sf_gen types_ok mixed (l := [(93, askS2), (104, cfirstCS), (105, relS)]) ⟨sf93, sf104a, sf105, trivial⟩ (es := []) trivial (its := []) trivial (fr := []) trivial [] [] false [] [] 1 Try.func50 rfl (by kernel_rfl) fun args h => ?_
  have h : args = _ := h
  subst h
  refine ⟨rfl, ?_⟩
  show evalCode _ _ _ fun o => match o with
    | .normal st | .ret st => withP _ (_ ∧ PLe _ (.tup [.slice none 0 (relsG v), I (svE (svyOf v.wl v.lv v.n fun i => obsL (v.s i)))]))
    | _ => False
  have hL : isL obsL v.n fun i => obsL (v.s i) := .mk v.s hn rfl
  repeat' first | (exact ple_slice rfl fun i hi => by cases hi) | (exact PLe.refl _) | (exact BLe.refl _) | (exact PLeL.nil) | (exact BLeL.nil) | (refine ⟨?_, ?_⟩) | (refine PLeL.cons ?_ ?_) | (refine BLeL.cons ?_ ?_) | (refine ple_int ?_) | (refine ple_bool ?_) | (refine ple_tt ?_) | (refine ple_ff ?_) | (refine PLe.aggL ?_) | (refine PLe.tupL ?_) | (refine BLe.cellsL ?_) | (refine fun h => absurd h (by decide)) | (refine fun h => ?_; exfalso; simp only [p1, Int.toNat_natCast, Bool.cond_true_left, Bool.cond_false_right, Bool.cond_true_right, Bool.cond_false_left, cond_true, cond_false, Bool.not_true, Bool.not_false, Bool.not_not, Bool.and_true, Bool.true_and, Bool.and_false, Bool.false_and, Bool.or_true, Bool.true_or, Bool.or_false, Bool.false_or, beq_self_eq_true, bne_self_eq_false, Bool.true_eq_false, Bool.false_eq_true, reduceCtorEq, Bool.and_self, Bool.or_self, Int.reduceBEq, Int.reduceBNe, Int.reduceNeg, decide_true, decide_false, Int.reduceLT, Int.reduceLE, Int.reduceGT] at h; done) | (refine fun (h : @Eq Bool _ _) => ?_)
  all_goals first | trivial | rfl | omega | (exact hL) | (simp only [p1, Int.toNat_natCast, Bool.cond_true_left, Bool.cond_false_right, Bool.cond_true_right, Bool.cond_false_left, cond_true, cond_false, Bool.not_true, Bool.not_false, Bool.not_not, Bool.and_true, Bool.true_and, Bool.and_false, Bool.false_and, Bool.or_true, Bool.true_or, Bool.or_false, Bool.false_or, beq_self_eq_true, bne_self_eq_false, Bool.true_eq_false, Bool.false_eq_true, reduceCtorEq, Bool.and_self, Bool.or_self, Int.reduceBEq, Int.reduceBNe, Int.reduceNeg, decide_true, decide_false, Int.reduceLT, Int.reduceLE, Int.reduceGT]; done) | (show @Eq Bool _ _; simp only [p1, Int.toNat_natCast, Bool.cond_true_left, Bool.cond_false_right, Bool.cond_true_right, Bool.cond_false_left, cond_true, cond_false, Bool.not_true, Bool.not_false, Bool.not_not, Bool.and_true, Bool.true_and, Bool.and_false, Bool.false_and, Bool.or_true, Bool.true_or, Bool.or_false, Bool.false_or, beq_self_eq_true, bne_self_eq_false, Bool.true_eq_false, Bool.false_eq_true, reduceCtorEq, Bool.and_self, Bool.or_self, Int.reduceBEq, Int.reduceBNe, Int.reduceNeg, decide_true, decide_false, Int.reduceLT, Int.reduceLE, Int.reduceGT]; done) | skip
theorem sf50 : SF Try.prog 50 relationsS := by
  refine sf_each ⟨_, _, Try.func50, by kernel_rfl, rfl⟩ fun args h => ?_
  unfold relationsS at h ⊢
  split at h
  · rename_i wl lv n get
    have hL : isL obsL n get := h
    obtain ⟨hn, s, rfl⟩ := isL.get hL
    refine (Bool.eq_false_or_eq_true (svE (svyOf wl lv n fun i => obsL (s i)) != 0)).elim (fun p1 => ?_) fun p1 => ?_
    · have e1 : relN2 (svyOf wl lv n fun i => obsL (s i)) = 0 := by unfold relN2; rw [p1]; rfl
      have e2 : relE2 (svyOf wl lv n fun i => obsL (s i)) = svE (svyOf wl lv n fun i => obsL (s i)) := by unfold relE2; rw [p1]; rfl
      rw [e1, e2]
      exact rels_err ⟨wl, lv, n, s⟩ hn p1
    · have e1 : relN2 (svyOf wl lv n fun i => obsL (s i)) = relN (svyOf wl lv n fun i => obsL (s i)) := by unfold relN2; rw [p1]; rfl
      have e2 : relE2 (svyOf wl lv n fun i => obsL (s i)) = relE (svyOf wl lv n fun i => obsL (s i)) := by unfold relE2; rw [p1]; rfl
      rw [e1, e2]
      have p1e : svE (svyOf wl lv n fun i => obsL (s i)) = 0 := by simpa using p1
      exact rels_ok ⟨wl, lv, n, s⟩ (svE_ok p1e)
  · exact h.elim
end Go.Proofs.Ytnjhbmcambofgaa
