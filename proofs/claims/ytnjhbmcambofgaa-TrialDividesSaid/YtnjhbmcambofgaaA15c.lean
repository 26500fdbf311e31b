/- Layer 4: the law on divisions. -/
import Derived.Test.YtnjhbmcambofgaaS73
import Derived.Test.YtnjhbmcambofgaaS75
import Derived.Test.YtnjhbmcambofgaaS32
namespace Go.Proofs.Ytnjhbmcambofgaa
open Go.V
set_option linter.unusedSimpArgs false
set_option linter.unusedVariables false

set_option maxRecDepth 20000 in
set_option maxHeartbeats 2000000 in
theorem dividesBig (v : Svy) (x : Int) (hn : 70 < v.n) : SF Try.prog 15 (V.atS [.agg (svyC v), .int .u64 x] (.bool true)) := by
  have p0 : decide ((70 : Int) < (v.n : Int)) = true := decide_eq_true (by omega)
  refine sf_gen types_ok mixed (l := [(18, V.atS [] (.bool true))]) ⟨sf18, trivial⟩ (es := []) trivial (its := []) trivial (fr := []) trivial [] [] false [] [] 2 Try.func15 rfl (by kernel_rfl) fun args h => ?_
  have h : args = _ := h
  subst h
  refine ⟨rfl, ?_⟩
  show evalCode _ _ _ fun o => match o with
    | .normal st | .ret st => withP _ (_ ∧ PLe _ (.bool true))
    | _ => False
  repeat' first | (exact PLe.refl _) | (exact BLe.refl _) | (exact PLeL.nil) | (exact BLeL.nil) | (refine ⟨?_, ?_⟩) | (refine PLeL.cons ?_ ?_) | (refine BLeL.cons ?_ ?_) | (refine ple_int ?_) | (refine ple_bool ?_) | (refine ple_tt ?_) | (refine ple_ff ?_) | (refine PLe.aggL ?_) | (refine PLe.tupL ?_) | (refine BLe.cellsL ?_) | (refine fun h => absurd h (by decide)) | (refine fun h => ?_; exfalso; simp only [p0, Int.toNat_natCast, Bool.cond_true_left, Bool.cond_false_right, Bool.cond_true_right, Bool.cond_false_left, cond_true, cond_false, Bool.not_true, Bool.not_false, Bool.not_not, Bool.and_true, Bool.true_and, Bool.and_false, Bool.false_and, Bool.or_true, Bool.true_or, Bool.or_false, Bool.false_or, beq_self_eq_true, bne_self_eq_false, Bool.true_eq_false, Bool.false_eq_true, reduceCtorEq, Bool.and_self, Bool.or_self, Int.reduceBEq, Int.reduceBNe, Int.reduceNeg, decide_true, decide_false, Int.reduceLT, Int.reduceLE, Int.reduceGT] at h; done) | (refine fun (h : @Eq Bool _ _) => ?_)
  all_goals first | trivial | rfl | omega | (simp only [p0, Int.toNat_natCast, Bool.cond_true_left, Bool.cond_false_right, Bool.cond_true_right, Bool.cond_false_left, cond_true, cond_false, Bool.not_true, Bool.not_false, Bool.not_not, Bool.and_true, Bool.true_and, Bool.and_false, Bool.false_and, Bool.or_true, Bool.true_or, Bool.or_false, Bool.false_or, beq_self_eq_true, bne_self_eq_false, Bool.true_eq_false, Bool.false_eq_true, reduceCtorEq, Bool.and_self, Bool.or_self, Int.reduceBEq, Int.reduceBNe, Int.reduceNeg, decide_true, decide_false, Int.reduceLT, Int.reduceLE, Int.reduceGT]; done) | (show @Eq Bool _ _; simp only [p0, Int.toNat_natCast, Bool.cond_true_left, Bool.cond_false_right, Bool.cond_true_right, Bool.cond_false_left, cond_true, cond_false, Bool.not_true, Bool.not_false, Bool.not_not, Bool.and_true, Bool.true_and, Bool.and_false, Bool.false_and, Bool.or_true, Bool.true_or, Bool.or_false, Bool.false_or, beq_self_eq_true, bne_self_eq_false, Bool.true_eq_false, Bool.false_eq_true, reduceCtorEq, Bool.and_self, Bool.or_self, Int.reduceBEq, Int.reduceBNe, Int.reduceNeg, decide_true, decide_false, Int.reduceLT, Int.reduceLE, Int.reduceGT]; done) | skip
set_option maxRecDepth 20000 in
set_option maxHeartbeats 2000000 in
theorem dividesE (v : Svy) (x : Int) (hn : v.n ≤ 70) (p1 : (svE v != 0) = true) : SF Try.prog 15 (V.atS [.agg (svyC v), .int .u64 x] (.bool true)) := by
  have p0 : decide ((70 : Int) < (v.n : Int)) = false := decide_eq_false (by omega)
  refine sf_gen types_ok mixed (l := [(18, V.atS [] (.bool true)), (41, V.atS [.agg (svyC v)] (I (svE v)))]) ⟨sf18, d41 v, trivial⟩ (es := []) trivial (its := []) trivial (fr := []) trivial [] [] false [] [] 2 Try.func15 rfl (by kernel_rfl) fun args h => ?_
  have h : args = _ := h
  subst h
  refine ⟨rfl, ?_⟩
  show evalCode _ _ _ fun o => match o with
    | .normal st | .ret st => withP _ (_ ∧ PLe _ (.bool true))
    | _ => False
  repeat' first | (exact PLe.refl _) | (exact BLe.refl _) | (exact PLeL.nil) | (exact BLeL.nil) | (refine ⟨?_, ?_⟩) | (refine PLeL.cons ?_ ?_) | (refine BLeL.cons ?_ ?_) | (refine ple_int ?_) | (refine ple_bool ?_) | (refine ple_tt ?_) | (refine ple_ff ?_) | (refine PLe.aggL ?_) | (refine PLe.tupL ?_) | (refine BLe.cellsL ?_) | (refine fun h => absurd h (by decide)) | (refine fun h => ?_; exfalso; simp only [p0, p1, Int.toNat_natCast, Bool.cond_true_left, Bool.cond_false_right, Bool.cond_true_right, Bool.cond_false_left, cond_true, cond_false, Bool.not_true, Bool.not_false, Bool.not_not, Bool.and_true, Bool.true_and, Bool.and_false, Bool.false_and, Bool.or_true, Bool.true_or, Bool.or_false, Bool.false_or, beq_self_eq_true, bne_self_eq_false, Bool.true_eq_false, Bool.false_eq_true, reduceCtorEq, Bool.and_self, Bool.or_self, Int.reduceBEq, Int.reduceBNe, Int.reduceNeg, decide_true, decide_false, Int.reduceLT, Int.reduceLE, Int.reduceGT] at h; done) | (refine fun (h : @Eq Bool _ _) => ?_)
  all_goals first | trivial | rfl | omega | (simp only [p0, p1, Int.toNat_natCast, Bool.cond_true_left, Bool.cond_false_right, Bool.cond_true_right, Bool.cond_false_left, cond_true, cond_false, Bool.not_true, Bool.not_false, Bool.not_not, Bool.and_true, Bool.true_and, Bool.and_false, Bool.false_and, Bool.or_true, Bool.true_or, Bool.or_false, Bool.false_or, beq_self_eq_true, bne_self_eq_false, Bool.true_eq_false, Bool.false_eq_true, reduceCtorEq, Bool.and_self, Bool.or_self, Int.reduceBEq, Int.reduceBNe, Int.reduceNeg, decide_true, decide_false, Int.reduceLT, Int.reduceLE, Int.reduceGT]; done) | (show @Eq Bool _ _; simp only [p0, p1, Int.toNat_natCast, Bool.cond_true_left, Bool.cond_false_right, Bool.cond_true_right, Bool.cond_false_left, cond_true, cond_false, Bool.not_true, Bool.not_false, Bool.not_not, Bool.and_true, Bool.true_and, Bool.and_false, Bool.false_and, Bool.or_true, Bool.true_or, Bool.or_false, Bool.false_or, beq_self_eq_true, bne_self_eq_false, Bool.true_eq_false, Bool.false_eq_true, reduceCtorEq, Bool.and_self, Bool.or_self, Int.reduceBEq, Int.reduceBNe, Int.reduceNeg, decide_true, decide_false, Int.reduceLT, Int.reduceLE, Int.reduceGT]; done) | skip
set_option maxRecDepth 20000 in
set_option maxHeartbeats 2000000 in
theorem dividesC (k n : Nat) (lv : Int) (s : Nat → Obs) (x : Int) (hok : okV (sv4 k n lv s)) (hn : n ≤ 70) (i : Nat) (hc : clM (sv4 k n lv s) = (i : Int)) (hi : i < n) : SF Try.prog 15 (V.atS [.agg (svyC (sv4 k n lv s)), .int .u64 x] (.bool true)) := by
  have p0 : decide ((70 : Int) < (n : Int)) = false := decide_eq_false (by omega)
  have hw := hok.wl
  have hw : 1 ≤ (k : Int) ∧ (k : Int) ≤ 10 := hw
  have p1 : svE (sv4 k n lv s) = 0 := svE_okV hok
  have hk : (k : Int) = ((sv4 k n lv s)).wl := rfl
  have hk0 : ((k : Int) == ((sv4 k n lv s)).wl) = true := beq_self_eq_true _
  have xk : ((k : Int) != (k : Int)) = false := bne_self_eq_false _
  have hLv : isL obsL n fun i => obsL (s i) := .mk s (by omega) rfl
  have hcb : clashB (sv4 k n lv s) = true := (clash_iff hok).trans (by rw [hc]; exact decide_eq_true (by omega))
  have nf : ∀ p, fitsM (sv4 k n lv s) p = false := fun p => by
    cases h : fitsM (sv4 k n lv s) p with
    | false => rfl
    | true => exact absurd (hcb.symm.trans (fits_noclash hok h)) (by decide)
  have xf : ∀ (m : Nat) (p : Nat → Int), fitB (sv4 k n lv s) m p = false := fun m p => by
    unfold fitB
    rw [nf, Bool.and_false, Bool.and_false]
  have xfn : ∀ (m : Nat) (p : Nat → Int), (!fitB (sv4 k n lv s) m p) = true := fun m p => by rw [xf]; rfl
  obtain ⟨fr, to, KK, dd, vv, ws, hf, ht, hg, hK, hl, ha, hb, hst, hws⟩ := clash_way hok hk hc hi
  refine sf_gen types_ok mixed (l := [(18, V.atS [] (.bool true)), (41, V.atS [.agg (svyC (sv4 k n lv s))] (I 0)), (43, V.atS [.agg (svyC (sv4 k n lv s))] (.agg (svyC (sv4 k n lv s)))), (42, V.atS [.agg (svyC (sv4 k n lv s))] (.tup [.slice none k fun i => intL (groupsM (sv4 k n lv s) i), I 0])), (64, V.atS [I (k : Nat), .int .u64 x] (.slice none k fun i => intL (digit x i))), (54, fitsGW), (44, V.atS [.agg (svyC (sv4 k n lv s))] (.tup [I (i : Nat), lstP (wy (bq (sv4 k n lv s) k fr KK).o KK), I 0])), (50, V.atS [.agg (svyC (sv4 k n lv s))] (.tup [.slice none 0 (relsG (sv4 k n lv s)), I 9]))]) ⟨sf18, (by have := d41 (sv4 k n lv s); rw [p1] at this; exact this), d43 (sv4 k n lv s) (by show n ≤ 1000; omega), (by have := d42c (sv4 k n lv s) (by show n ≤ 1000; omega); unfold groupsN at this; rw [p1] at this; exact this), d64 k (by omega) x, sf_fitsGW, d44c (sv4 k n lv s) hok k hk i hc hi fr to KK hf ht hg hK hl ha hb, (by have := d50c (sv4 k n lv s) (by show n ≤ 1000; omega); unfold relN2 relE2 relN relE at this; rw [p1, hcb] at this; exact this), trivial⟩ (es := []) trivial (its := []) trivial (fr := []) trivial [] [] false [] [] 2 Try.func15 rfl (by kernel_rfl) fun args h => ?_
  have h : args = _ := h
  subst h
  refine ⟨rfl, ?_⟩
  show evalCode _ _ _ fun o => match o with
    | .normal st | .ret st => withP _ (_ ∧ PLe _ (.bool true))
    | _ => False
  repeat' first | (refine fun h => absurd (h.symm.trans p0) (by decide)) | (refine fun h => absurd (h.symm.trans xk) (by decide)) | (refine fun h => absurd (h.symm.trans (xf _ _)) (by decide)) | (refine fun h => absurd (h.symm.trans (xfn _ _)) (by decide)) | (exact PLe.refl _) | (exact BLe.refl _) | (exact PLeL.nil) | (exact BLeL.nil) | (refine ⟨?_, ?_⟩) | (refine PLeL.cons ?_ ?_) | (refine BLeL.cons ?_ ?_) | (refine ple_int ?_) | (refine ple_bool ?_) | (refine ple_tt ?_) | (refine ple_ff ?_) | (refine PLe.aggL ?_) | (refine PLe.tupL ?_) | (refine BLe.cellsL ?_) | (refine fun h => absurd h (by decide)) | (refine fun (h : @Eq Bool _ _) => ?_)
  all_goals first | trivial | rfl | omega | (show (0 + k) * 8 ≤ 140737488355328; omega) | (exact Nat.zero_add k) | (intro i hi; exact absurd hi (by omega)) | (intro i hi; exact ⟨rfl, rfl⟩) | (intro i hi; rfl) | (exact hLv) | (show n ≤ 1000; omega) | (show 0 + k ≤ 1000; omega) | (show k ≤ 1000; omega) | (show 0 + k < 2147483648; omega) | skip
end Go.Proofs.Ytnjhbmcambofgaa
