/- Layer 4: the law on pulses. -/
import Derived.Test.YtnjhbmcambofgaaS32
import Derived.Test.YtnjhbmcambofgaaS45
import Derived.Test.YtnjhbmcambofgaaS46
namespace Go.Proofs.Ytnjhbmcambofgaa
open Go.V
set_option linter.unusedSimpArgs false
set_option linter.unusedVariables false

def svL2S (v : Svy) (k : Nat) (p : Nat → Int) (r : PV) : V.Spec
  | [.agg x, .slice none m g] => (some (x = svyC v ∧ m = k ∧ ∀ i, i < k → g i = intL (p i)), r)
  | _ => bad
theorem sf_svL2 {f : Nat} {v : Svy} {k : Nat} {p : Nat → Int} {r : PV} (h : SF Try.prog f (V.atS [.agg (svyC v), .slice none k fun i => intL (p i)] r)) : SF Try.prog f (svL2S v k p r) := by
  refine sf_args h fun args hx => ?_
  unfold svL2S at hx ⊢
  split at hx
  · rename_i x m g
    obtain ⟨rfl, rfl, hg⟩ : x = svyC v ∧ m = k ∧ ∀ i, i < k → g i = intL (p i) := hx
    refine ⟨[.agg (svyC v), .slice none m fun i => intL (p i)], rfl, fun i hi => ?_, rfl, rfl⟩
    match i, hi with
    | 0, _ => exact .refl _
    | 1, _ => exact .slice _ _ _ _ hg
  · exact hx.elim
def svL3S (v : Svy) (q : Int) (k : Nat) (p : Nat → Int) (r : PV) : V.Spec
  | [.agg x, .int .i64 q', .slice none m g] => (some (x = svyC v ∧ q' = q ∧ m = k ∧ ∀ i, i < k → g i = intL (p i)), r)
  | _ => bad
theorem sf_svL3 {f : Nat} {v : Svy} {q : Int} {k : Nat} {p : Nat → Int} {r : PV} (h : SF Try.prog f (V.atS [.agg (svyC v), I q, .slice none k fun i => intL (p i)] r)) : SF Try.prog f (svL3S v q k p r) := by
  refine sf_args h fun args hx => ?_
  unfold svL3S at hx ⊢
  split at hx
  · rename_i x q' m g
    obtain ⟨rfl, rfl, rfl, hg⟩ : x = svyC v ∧ q' = q ∧ m = k ∧ ∀ i, i < k → g i = intL (p i) := hx
    refine ⟨[.agg (svyC v), I q', .slice none m fun i => intL (p i)], rfl, fun i hi => ?_, rfl, rfl⟩
    match i, hi with
    | 0, _ => exact .refl _
    | 1, _ => exact .refl _
    | 2, _ => exact .slice _ _ _ _ hg
  · exact hx.elim
theorem d43 (v : Svy) (hn : v.n ≤ 1000) : SF Try.prog 43 (V.atS [.agg (svyC v)] (.agg (svyC v))) := sf_at sf43 (show isL obsL v.n _ ∧ v.n ≤ 1000 from ⟨isLo v hn, hn⟩) rfl
set_option maxRecDepth 20000 in
set_option maxHeartbeats 2000000 in
theorem same_zero  : SF Try.prog 58 (V.atS [.agg (svyC zeroV), .agg [I 0, I 0, .nils]] (.bool true)) := by
  have hz : (0 : Int) = 0 := rfl
  refine sf_gen types_ok mixed (l := []) trivial (es := []) trivial (its := []) trivial (fr := []) trivial [] [] false [] [] 2 Try.func58 rfl (by kernel_rfl) fun args h => ?_
  have h : args = _ := h
  subst h
  refine ⟨rfl, ?_⟩
  show evalCode _ _ _ fun o => match o with
    | .normal st | .ret st => withP _ (_ ∧ PLe _ (.bool true))
    | _ => False
  repeat' first | (exact PLe.refl _) | (exact BLe.refl _) | (exact PLeL.nil) | (exact BLeL.nil) | (refine ⟨?_, ?_⟩) | (refine PLeL.cons ?_ ?_) | (refine BLeL.cons ?_ ?_) | (refine ple_int ?_) | (refine ple_bool ?_) | (refine ple_tt ?_) | (refine ple_ff ?_) | (refine PLe.aggL ?_) | (refine PLe.tupL ?_) | (refine BLe.cellsL ?_) | (refine halt_rng (cnt 5) 0 [2, 3, 5] [2, 3] (fun m => [.ptr 2 0, .ptr 3 0, I (m : Nat)]) (fun m => [.cells (svyC zeroV), .cells [I 0, I 0, .nils]]) (fun m => True) rfl (.mk ?_ ?_) trivial ?_) | (refine fun h => absurd h (by decide)) | (refine fun (h : @Eq Bool _ _) => ?_)
  all_goals first | trivial | rfl | omega | skip
  intro m hm _
  obtain rfl : m = 0 := by omega
  repeat' first | (exact PLe.refl _) | (exact BLe.refl _) | (exact PLeL.nil) | (exact BLeL.nil) | (refine ⟨?_, ?_⟩) | (refine PLeL.cons ?_ ?_) | (refine BLeL.cons ?_ ?_) | (refine ple_int ?_) | (refine ple_bool ?_) | (refine ple_tt ?_) | (refine ple_ff ?_) | (refine PLe.aggL ?_) | (refine PLe.tupL ?_) | (refine BLe.cellsL ?_) | (refine fun h => absurd h (by decide)) | (refine fun (h : @Eq Bool _ _) => ?_)
  all_goals first | trivial | rfl | omega | skip
set_option maxRecDepth 20000 in
set_option maxHeartbeats 2000000 in
theorem pulsesBig1 (v : Svy) (q : Int) (k : Nat) (p : Nat → Int) (hn : 70 < v.n) : SF Try.prog 10 (V.atS [.agg (svyC v), I q, .slice none k fun i => intL (p i)] (.bool true)) := by
  have p0 : decide ((70 : Int) < (v.n : Int)) = true := decide_eq_true (by omega)
  refine sf_gen types_ok mixed (l := [(18, V.atS [] (.bool true))]) ⟨sf18, trivial⟩ (es := []) trivial (its := []) trivial (fr := []) trivial [] [] false [] [] 3 Try.func10 rfl (by kernel_rfl) fun args h => ?_
  have h : args = _ := h
  subst h
  refine ⟨rfl, ?_⟩
  show evalCode _ _ _ fun o => match o with
    | .normal st | .ret st => withP _ (_ ∧ PLe _ (.bool true))
    | _ => False
  repeat' first | (exact PLe.refl _) | (exact BLe.refl _) | (exact PLeL.nil) | (exact BLeL.nil) | (refine ⟨?_, ?_⟩) | (refine PLeL.cons ?_ ?_) | (refine BLeL.cons ?_ ?_) | (refine ple_int ?_) | (refine ple_bool ?_) | (refine ple_tt ?_) | (refine ple_ff ?_) | (refine PLe.aggL ?_) | (refine PLe.tupL ?_) | (refine BLe.cellsL ?_) | (refine fun h => absurd h (by decide)) | (refine fun h => ?_; exfalso; simp only [p0, Int.toNat_natCast, Bool.cond_true_left, Bool.cond_false_right, Bool.cond_true_right, Bool.cond_false_left, cond_true, cond_false, Bool.not_true, Bool.not_false, Bool.not_not, Bool.and_true, Bool.true_and, Bool.and_false, Bool.false_and, Bool.or_true, Bool.true_or, Bool.or_false, Bool.false_or, beq_self_eq_true, bne_self_eq_false, Bool.true_eq_false, Bool.false_eq_true, reduceCtorEq, Bool.and_self, Bool.or_self, Int.reduceBEq, Int.reduceBNe, Int.reduceNeg, decide_true, decide_false, Int.reduceLT, Int.reduceLE, Int.reduceGT] at h; done) | (refine fun (h : @Eq Bool _ _) => ?_)
  all_goals first | trivial | rfl | omega | (simp only [p0, Int.toNat_natCast, Bool.cond_true_left, Bool.cond_false_right, Bool.cond_true_right, Bool.cond_false_left, cond_true, cond_false, Bool.not_true, Bool.not_false, Bool.not_not, Bool.and_true, Bool.true_and, Bool.and_false, Bool.false_and, Bool.or_true, Bool.true_or, Bool.or_false, Bool.false_or, beq_self_eq_true, bne_self_eq_false, Bool.true_eq_false, Bool.false_eq_true, reduceCtorEq, Bool.and_self, Bool.or_self, Int.reduceBEq, Int.reduceBNe, Int.reduceNeg, decide_true, decide_false, Int.reduceLT, Int.reduceLE, Int.reduceGT]; done) | (show @Eq Bool _ _; simp only [p0, Int.toNat_natCast, Bool.cond_true_left, Bool.cond_false_right, Bool.cond_true_right, Bool.cond_false_left, cond_true, cond_false, Bool.not_true, Bool.not_false, Bool.not_not, Bool.and_true, Bool.true_and, Bool.and_false, Bool.false_and, Bool.or_true, Bool.true_or, Bool.or_false, Bool.false_or, beq_self_eq_true, bne_self_eq_false, Bool.true_eq_false, Bool.false_eq_true, reduceCtorEq, Bool.and_self, Bool.or_self, Int.reduceBEq, Int.reduceBNe, Int.reduceNeg, decide_true, decide_false, Int.reduceLT, Int.reduceLE, Int.reduceGT]; done) | skip
set_option maxRecDepth 20000 in
set_option maxHeartbeats 2000000 in
theorem pulsesBig2 (v : Svy) (q : Int) (k : Nat) (p : Nat → Int) (hn : v.n ≤ 70) (hk : 20 < k) : SF Try.prog 10 (V.atS [.agg (svyC v), I q, .slice none k fun i => intL (p i)] (.bool true)) := by
  have p0 : decide ((70 : Int) < (v.n : Int)) = false := decide_eq_false (by omega)
  have p00 : decide ((20 : Int) < (k : Int)) = true := decide_eq_true (by omega)
  refine sf_gen types_ok mixed (l := [(18, V.atS [] (.bool true))]) ⟨sf18, trivial⟩ (es := []) trivial (its := []) trivial (fr := []) trivial [] [] false [] [] 3 Try.func10 rfl (by kernel_rfl) fun args h => ?_
  have h : args = _ := h
  subst h
  refine ⟨rfl, ?_⟩
  show evalCode _ _ _ fun o => match o with
    | .normal st | .ret st => withP _ (_ ∧ PLe _ (.bool true))
    | _ => False
  repeat' first | (exact PLe.refl _) | (exact BLe.refl _) | (exact PLeL.nil) | (exact BLeL.nil) | (refine ⟨?_, ?_⟩) | (refine PLeL.cons ?_ ?_) | (refine BLeL.cons ?_ ?_) | (refine ple_int ?_) | (refine ple_bool ?_) | (refine ple_tt ?_) | (refine ple_ff ?_) | (refine PLe.aggL ?_) | (refine PLe.tupL ?_) | (refine BLe.cellsL ?_) | (refine fun h => absurd h (by decide)) | (refine fun h => ?_; exfalso; simp only [p0, p00, Int.toNat_natCast, Bool.cond_true_left, Bool.cond_false_right, Bool.cond_true_right, Bool.cond_false_left, cond_true, cond_false, Bool.not_true, Bool.not_false, Bool.not_not, Bool.and_true, Bool.true_and, Bool.and_false, Bool.false_and, Bool.or_true, Bool.true_or, Bool.or_false, Bool.false_or, beq_self_eq_true, bne_self_eq_false, Bool.true_eq_false, Bool.false_eq_true, reduceCtorEq, Bool.and_self, Bool.or_self, Int.reduceBEq, Int.reduceBNe, Int.reduceNeg, decide_true, decide_false, Int.reduceLT, Int.reduceLE, Int.reduceGT] at h; done) | (refine fun (h : @Eq Bool _ _) => ?_)
  all_goals first | trivial | rfl | omega | (simp only [p0, p00, Int.toNat_natCast, Bool.cond_true_left, Bool.cond_false_right, Bool.cond_true_right, Bool.cond_false_left, cond_true, cond_false, Bool.not_true, Bool.not_false, Bool.not_not, Bool.and_true, Bool.true_and, Bool.and_false, Bool.false_and, Bool.or_true, Bool.true_or, Bool.or_false, Bool.false_or, beq_self_eq_true, bne_self_eq_false, Bool.true_eq_false, Bool.false_eq_true, reduceCtorEq, Bool.and_self, Bool.or_self, Int.reduceBEq, Int.reduceBNe, Int.reduceNeg, decide_true, decide_false, Int.reduceLT, Int.reduceLE, Int.reduceGT]; done) | (show @Eq Bool _ _; simp only [p0, p00, Int.toNat_natCast, Bool.cond_true_left, Bool.cond_false_right, Bool.cond_true_right, Bool.cond_false_left, cond_true, cond_false, Bool.not_true, Bool.not_false, Bool.not_not, Bool.and_true, Bool.true_and, Bool.and_false, Bool.false_and, Bool.or_true, Bool.true_or, Bool.or_false, Bool.false_or, beq_self_eq_true, bne_self_eq_false, Bool.true_eq_false, Bool.false_eq_true, reduceCtorEq, Bool.and_self, Bool.or_self, Int.reduceBEq, Int.reduceBNe, Int.reduceNeg, decide_true, decide_false, Int.reduceLT, Int.reduceLE, Int.reduceGT]; done) | skip
set_option maxRecDepth 20000 in
set_option maxHeartbeats 2000000 in
theorem pulsesE (v : Svy) (q : Int) (k : Nat) (p : Nat → Int) (hn : v.n ≤ 70) (hk : k ≤ 20) (p1 : (svE v != 0) = true) : SF Try.prog 10 (V.atS [.agg (svyC v), I q, .slice none k fun i => intL (p i)] (.bool true)) := by
  have p0 : decide ((70 : Int) < (v.n : Int)) = false := decide_eq_false (by omega)
  have p00 : decide ((20 : Int) < (k : Int)) = false := decide_eq_false (by omega)
  have p1e : (svE v == 0) = false := by simpa using p1
  refine sf_gen types_ok mixed (l := [(18, V.atS [] (.bool true)), (43, V.atS [.agg (svyC v)] (.agg (svyC v))), (41, V.atS [.agg (svyC v)] (I (svE v))), (54, svL2S v k p (.bool false)), (56, svL3S v q k p (.tup [.agg (svyC zeroV), I (svE v)])), (59, V.atS [.agg (svyC zeroV)] (.agg (svyC zeroV))), (58, V.atS [.agg (svyC zeroV), .agg [I 0, I 0, .nils]] (.bool true))]) ⟨sf18, d43 v (by omega), d41 v, sf_svL2 (by have := d54 v (by omega) k p (by omega); unfold fitB at this; rw [p1e, Bool.false_and] at this; exact this), sf_svL3 (pulseE1 v (by omega) q k p (by omega) p1), back_ok zeroV (by decide), same_zero, trivial⟩ (es := []) trivial (its := []) trivial (fr := []) trivial [] [] false [] [] 3 Try.func10 rfl (by kernel_rfl) fun args h => ?_
  have h : args = _ := h
  subst h
  refine ⟨rfl, ?_⟩
  show evalCode _ _ _ fun o => match o with
    | .normal st | .ret st => withP _ (_ ∧ PLe _ (.bool true))
    | _ => False
  repeat' first | (exact PLe.refl _) | (exact BLe.refl _) | (exact PLeL.nil) | (exact BLeL.nil) | (refine ⟨?_, ?_⟩) | (refine PLeL.cons ?_ ?_) | (refine BLeL.cons ?_ ?_) | (refine ple_int ?_) | (refine ple_bool ?_) | (refine ple_tt ?_) | (refine ple_ff ?_) | (refine PLe.aggL ?_) | (refine PLe.tupL ?_) | (refine BLe.cellsL ?_) | (refine fun h => absurd h (by decide)) | (refine fun h => ?_; exfalso; simp only [p0, p00, p1, p1e, Int.toNat_natCast, Bool.cond_true_left, Bool.cond_false_right, Bool.cond_true_right, Bool.cond_false_left, cond_true, cond_false, Bool.not_true, Bool.not_false, Bool.not_not, Bool.and_true, Bool.true_and, Bool.and_false, Bool.false_and, Bool.or_true, Bool.true_or, Bool.or_false, Bool.false_or, beq_self_eq_true, bne_self_eq_false, Bool.true_eq_false, Bool.false_eq_true, reduceCtorEq, Bool.and_self, Bool.or_self, Int.reduceBEq, Int.reduceBNe, Int.reduceNeg, decide_true, decide_false, Int.reduceLT, Int.reduceLE, Int.reduceGT] at h; done) | (refine fun (h : @Eq Bool _ _) => ?_)
  all_goals first | trivial | rfl | omega | (show (0 + k) * 8 ≤ 140737488355328; omega) | (exact Nat.zero_add k) | (intro i hi; exact absurd hi (by omega)) | (intro i hi; exact ⟨rfl, rfl⟩) | (intro i hi; rfl) | (simp only [p0, p00, p1, p1e, Int.toNat_natCast, Bool.cond_true_left, Bool.cond_false_right, Bool.cond_true_right, Bool.cond_false_left, cond_true, cond_false, Bool.not_true, Bool.not_false, Bool.not_not, Bool.and_true, Bool.true_and, Bool.and_false, Bool.false_and, Bool.or_true, Bool.true_or, Bool.or_false, Bool.false_or, beq_self_eq_true, bne_self_eq_false, Bool.true_eq_false, Bool.false_eq_true, reduceCtorEq, Bool.and_self, Bool.or_self, Int.reduceBEq, Int.reduceBNe, Int.reduceNeg, decide_true, decide_false, Int.reduceLT, Int.reduceLE, Int.reduceGT]; done) | (show @Eq Bool _ _; simp only [p0, p00, p1, p1e, Int.toNat_natCast, Bool.cond_true_left, Bool.cond_false_right, Bool.cond_true_right, Bool.cond_false_left, cond_true, cond_false, Bool.not_true, Bool.not_false, Bool.not_not, Bool.and_true, Bool.true_and, Bool.and_false, Bool.false_and, Bool.or_true, Bool.true_or, Bool.or_false, Bool.false_or, beq_self_eq_true, bne_self_eq_false, Bool.true_eq_false, Bool.false_eq_true, reduceCtorEq, Bool.and_self, Bool.or_self, Int.reduceBEq, Int.reduceBNe, Int.reduceNeg, decide_true, decide_false, Int.reduceLT, Int.reduceLE, Int.reduceGT]; done) | skip
set_option maxRecDepth 20000 in
set_option maxHeartbeats 2000000 in
theorem pulsesK (v : Svy) (q : Int) (k : Nat) (p : Nat → Int) (hn : v.n ≤ 70) (hk : k ≤ 20) (p1 : svE v = 0) : SF Try.prog 10 (V.atS [.agg (svyC v), I q, .slice none k fun i => intL (p i)] (.bool true)) := by
  have p0 : decide ((70 : Int) < (v.n : Int)) = false := decide_eq_false (by omega)
  have p00 : decide ((20 : Int) < (k : Int)) = false := decide_eq_false (by omega)
  have hok : okV v := svE_ok p1
  have hR : (pulR v q k p).n ≤ 1000 := by
    unfold pulR
    cases (pulE v q k p == 0) with
    | true =>
      show v.n + (pulL v q p k).length ≤ 1000
      have := (pulL_len v q p k).1
      omega
    | false => show 0 ≤ 1000; omega
  refine sf_gen types_ok mixed (l := [(18, V.atS [] (.bool true)), (43, V.atS [.agg (svyC v)] (.agg (svyC v))), (41, V.atS [.agg (svyC v)] (I 0)), (54, svL2S v k p (.bool (((k : Int) == v.wl) && fitsM v p))), (55, V.atS [.agg (svyC v), .slice none k fun i => intL (p i)] (.bool (((k : Int) == v.wl) && fitsM v p))), (56, svL3S v q k p (.tup [.agg (svyC (pulR v q k p)), I (pulE v q k p)])), (57, V.atS [.agg (svyC v), I q, .slice none k fun i => intL (p i)] (.tup [.agg (svyC (pulR v q k p)), I (pulE v q k p)])), (59, V.atS [.agg (svyC (pulR v q k p))] (.agg (svyC (pulR v q k p)))), (58, V.atS [.agg (svyC (pulR v q k p)), .agg (svyC (pulR v q k p))] (.bool true))]) ⟨sf18, d43 v (by omega), (by have := d41 v; rw [p1] at this; exact this), sf_svL2 (by have := d54 v (by omega) k p (by omega); unfold fitB at this; rw [p1] at this; exact this), d55 v hok k p, sf_svL3 (d56 v hok q k p (by omega)), d57 v hok q k p (by omega), back_ok (pulR v q k p) hR, same_self (pulR v q k p) hR, trivial⟩ (es := []) trivial (its := []) trivial (fr := []) trivial [] [] false [] [] 3 Try.func10 rfl (by kernel_rfl) fun args h => ?_
  have h : args = _ := h
  subst h
  refine ⟨rfl, ?_⟩
  show evalCode _ _ _ fun o => match o with
    | .normal st | .ret st => withP _ (_ ∧ PLe _ (.bool true))
    | _ => False
  repeat' first | (exact PLe.refl _) | (exact BLe.refl _) | (exact PLeL.nil) | (exact BLeL.nil) | (refine ⟨?_, ?_⟩) | (refine PLeL.cons ?_ ?_) | (refine BLeL.cons ?_ ?_) | (refine ple_int ?_) | (refine ple_bool ?_) | (refine ple_tt ?_) | (refine ple_ff ?_) | (refine PLe.aggL ?_) | (refine PLe.tupL ?_) | (refine BLe.cellsL ?_) | (refine fun h => absurd h (by decide)) | (refine fun h => ?_; exfalso; simp only [p0, p00, Int.toNat_natCast, Bool.cond_true_left, Bool.cond_false_right, Bool.cond_true_right, Bool.cond_false_left, cond_true, cond_false, Bool.not_true, Bool.not_false, Bool.not_not, Bool.and_true, Bool.true_and, Bool.and_false, Bool.false_and, Bool.or_true, Bool.true_or, Bool.or_false, Bool.false_or, beq_self_eq_true, bne_self_eq_false, Bool.true_eq_false, Bool.false_eq_true, reduceCtorEq, Bool.and_self, Bool.or_self, Int.reduceBEq, Int.reduceBNe, Int.reduceNeg, decide_true, decide_false, Int.reduceLT, Int.reduceLE, Int.reduceGT] at h; done) | (refine fun (h : @Eq Bool _ _) => ?_)
  all_goals first | trivial | rfl | omega | (show (0 + k) * 8 ≤ 140737488355328; omega) | (exact Nat.zero_add k) | (intro i hi; exact absurd hi (by omega)) | (intro i hi; exact ⟨rfl, rfl⟩) | (intro i hi; rfl) | (simp only [p0, p00, Int.toNat_natCast, Bool.cond_true_left, Bool.cond_false_right, Bool.cond_true_right, Bool.cond_false_left, cond_true, cond_false, Bool.not_true, Bool.not_false, Bool.not_not, Bool.and_true, Bool.true_and, Bool.and_false, Bool.false_and, Bool.or_true, Bool.true_or, Bool.or_false, Bool.false_or, beq_self_eq_true, bne_self_eq_false, Bool.true_eq_false, Bool.false_eq_true, reduceCtorEq, Bool.and_self, Bool.or_self, Int.reduceBEq, Int.reduceBNe, Int.reduceNeg, decide_true, decide_false, Int.reduceLT, Int.reduceLE, Int.reduceGT]; done) | (show @Eq Bool _ _; simp only [p0, p00, Int.toNat_natCast, Bool.cond_true_left, Bool.cond_false_right, Bool.cond_true_right, Bool.cond_false_left, cond_true, cond_false, Bool.not_true, Bool.not_false, Bool.not_not, Bool.and_true, Bool.true_and, Bool.and_false, Bool.false_and, Bool.or_true, Bool.true_or, Bool.or_false, Bool.false_or, beq_self_eq_true, bne_self_eq_false, Bool.true_eq_false, Bool.false_eq_true, reduceCtorEq, Bool.and_self, Bool.or_self, Int.reduceBEq, Int.reduceBNe, Int.reduceNeg, decide_true, decide_false, Int.reduceLT, Int.reduceLE, Int.reduceGT]; done) | skip
theorem pulsesA (v : Svy) (q : Int) (k : Nat) (p : Nat → Int) : SF Try.prog 10 (V.atS [.agg (svyC v), I q, .slice none k fun i => intL (p i)] (.bool true)) := by
  by_cases hn : v.n ≤ 70
  · by_cases hk : k ≤ 20
    · cases p1 : (svE v != 0) with
      | true => exact pulsesE v q k p hn hk p1
      | false => exact pulsesK v q k p hn hk (by simpa using p1)
    · exact pulsesBig2 v q k p hn (by omega)
  · exact pulsesBig1 v q k p (by omega)
end Go.Proofs.Ytnjhbmcambofgaa
