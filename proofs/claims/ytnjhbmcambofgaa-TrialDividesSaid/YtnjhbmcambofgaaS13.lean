/- Layer 4: copies of lists; a survey with its groups; Groups. -/
import Derived.Test.YtnjhbmcambofgaaS12
namespace Go.Proofs.Ytnjhbmcambofgaa
open Go.V
set_option linter.unusedSimpArgs false
set_option linter.unusedVariables false

def cloneS : V.Spec
  | [.slice none n get] => (some (n ≤ 1000 ∧ ∀ i, i < n → (get i).length = 1 ∧ (get i).all sc1 = true ∧ (get i).all noref1 = true), .slice none n get)
  | _ => bad
def askC (v : Svy) (g : Nat → Int) : List PV := [I v.wl, I v.lv, .slice none v.n fun i => obsL (v.s i), I (g 0), I (g 1), I (g 2), I (g 3), I (g 4), I (g 5), I (g 6), I (g 7), I (g 8), I (g 9)]
def askV (v : Svy) : Svy := bif svE v != 0 then ⟨0, 0, 0, v.s⟩ else v
def askG (v : Svy) : Nat → Int := bif svE v != 0 then fun _ => 0 else groupsM v
def askS2 : V.Spec
  | [.agg [.int .i64 wl, .int .i64 lv, .slice none n get]] => (some (isL obsL n get), .tup [.agg (askC (askV (svyOf wl lv n get)) (askG (svyOf wl lv n get))), I (svE (svyOf wl lv n get))])
  | _ => bad
def groupsN (v : Svy) : Nat := bif svE v != 0 then 0 else v.wl.toNat
def groupsS : V.Spec
  | [.agg [.int .i64 wl, .int .i64 lv, .slice none n get]] => (some (isL obsL n get), .tup [.slice none (groupsN (svyOf wl lv n get)) fun i => intL (groupsM (svyOf wl lv n get) i), I (svE (svyOf wl lv n get))])
  | _ => bad
theorem sff94 : SFF Try.prog 94 3 1 cloneS := by
  refine sff_of types_ok mixed (l := []) trivial (es := []) trivial 1 3 1 Try.func94 rfl (by kernel_rfl) fun args h => ?_
  unfold cloneS at h
  split at h
  · rename_i n get
    obtain ⟨hn, hl⟩ : n ≤ 1000 ∧ ∀ i, i < n → (get i).length = 1 ∧ (get i).all sc1 = true ∧ (get i).all noref1 = true := h
    refine ⟨rfl, n, get, rfl, fun i hi => ⟨(hl i hi).1, (hl i hi).2.2⟩, ?_⟩
    refine fun b hb => ?_
    cases b with
    | true =>
      have hn0 : n = 0 := by
        refine Classical.byContradiction fun hc => ?_
        have := hb (by omega)
        cases this
      subst hn0
      repeat' first | (exact ple_slice rfl fun i hi => by cases hi) | (exact PLe.refl _) | (exact BLe.refl _) | (exact PLeL.nil) | (exact BLeL.nil) | (refine ⟨?_, ?_⟩) | (refine PLeL.cons ?_ ?_) | (refine BLeL.cons ?_ ?_) | (refine ple_int ?_) | (refine ple_bool ?_) | (refine ple_tt ?_) | (refine ple_ff ?_) | (refine PLe.aggL ?_) | (refine PLe.tupL ?_) | (refine BLe.cellsL ?_) | (refine fun h => absurd h (by decide)) | (refine fun (h : @Eq Bool _ _) => ?_)
      all_goals first | trivial | rfl | omega | skip
    | false =>
      repeat' first | (exact PLe.refl _) | (exact BLe.refl _) | (exact PLeL.nil) | (exact BLeL.nil) | (refine ⟨?_, ?_⟩) | (refine PLeL.cons ?_ ?_) | (refine BLeL.cons ?_ ?_) | (refine ple_int ?_) | (refine ple_bool ?_) | (refine ple_tt ?_) | (refine ple_ff ?_) | (refine PLe.aggL ?_) | (refine PLe.tupL ?_) | (refine BLe.cellsL ?_) | (refine fun h => absurd h (by decide)) | (refine fun (h : @Eq Bool _ _) => ?_)
      all_goals first | trivial | rfl | omega | (exact fun i hi => ⟨(hl i hi).1, (hl i hi).2.1⟩) | (show (0 + n) * 8 ≤ 140737488355328; omega) | (show n * 8 ≤ 140737488355328; omega) | (intro i hi; exact absurd hi (by omega)) | (intro i hi; rfl) | skip
  · exact h.elim
set_option maxRecDepth 20000 in
set_option maxHeartbeats 1000000 in
theorem sf93 : SF Try.prog 93 askS2 := by
  refine sf_of types_ok mixed (l := [(45, svS), (123, joinS)]) ⟨sf45, sf123, trivial⟩ (es := []) trivial 1 Try.func93 rfl (by kernel_rfl) fun args h => ?_
  unfold askS2 at h
  split at h
  · rename_i wl lv n get
    have hL : isL obsL n get := h
    obtain ⟨hn, s, rfl⟩ := isL.get hL
    clear h
    refine ⟨rfl, ?_⟩
    show evalCode _ _ _ fun o => match o with
      | .normal st | .ret st => withP _ (_ ∧ PLe _ (.tup [.agg (askC (askV (svyOf wl lv n fun i => obsL (s i))) (askG (svyOf wl lv n fun i => obsL (s i)))), I (svE (svyOf wl lv n fun i => obsL (s i)))]))
      | _ => False
    refine (Bool.eq_false_or_eq_true (svE (svyOf wl lv n fun i => obsL (s i)) != 0)).elim (fun p1 => ?_) fun p1 => ?_
    · have e1 : askV (svyOf wl lv n fun i => obsL (s i)) = ⟨0, 0, 0, s⟩ := by unfold askV; rw [p1]; rfl
      have e2 : askG (svyOf wl lv n fun i => obsL (s i)) = fun _ => 0 := by unfold askG; rw [p1]; rfl
      rw [e1, e2]
      repeat' first | (exact ple_slice rfl fun i hi => by cases hi) | (exact PLe.refl _) | (exact BLe.refl _) | (exact PLeL.nil) | (exact BLeL.nil) | (refine ⟨?_, ?_⟩) | (refine PLeL.cons ?_ ?_) | (refine BLeL.cons ?_ ?_) | (refine ple_int ?_) | (refine ple_bool ?_) | (refine ple_tt ?_) | (refine ple_ff ?_) | (refine PLe.aggL ?_) | (refine PLe.tupL ?_) | (refine BLe.cellsL ?_) | (refine fun h => absurd h (by decide)) | (refine fun h => ?_; exfalso; simp only [p1, Int.toNat_natCast, Bool.cond_true_left, Bool.cond_false_right, Bool.cond_true_right, Bool.cond_false_left, cond_true, cond_false, Bool.not_true, Bool.not_false, Bool.not_not, Bool.and_true, Bool.true_and, Bool.and_false, Bool.false_and, Bool.or_true, Bool.true_or, Bool.or_false, Bool.false_or, beq_self_eq_true, bne_self_eq_false, Bool.true_eq_false, Bool.false_eq_true, reduceCtorEq, Bool.and_self, Bool.or_self, Int.reduceBEq, Int.reduceBNe, Int.reduceNeg, decide_true, decide_false, Int.reduceLT, Int.reduceLE, Int.reduceGT] at h; done) | (refine fun (h : @Eq Bool _ _) => ?_)
      all_goals first | trivial | rfl | omega | (exact hL) | (simp only [p1, Int.toNat_natCast, Bool.cond_true_left, Bool.cond_false_right, Bool.cond_true_right, Bool.cond_false_left, cond_true, cond_false, Bool.not_true, Bool.not_false, Bool.not_not, Bool.and_true, Bool.true_and, Bool.and_false, Bool.false_and, Bool.or_true, Bool.true_or, Bool.or_false, Bool.false_or, beq_self_eq_true, bne_self_eq_false, Bool.true_eq_false, Bool.false_eq_true, reduceCtorEq, Bool.and_self, Bool.or_self, Int.reduceBEq, Int.reduceBNe, Int.reduceNeg, decide_true, decide_false, Int.reduceLT, Int.reduceLE, Int.reduceGT]; done) | (show @Eq Bool _ _; simp only [p1, Int.toNat_natCast, Bool.cond_true_left, Bool.cond_false_right, Bool.cond_true_right, Bool.cond_false_left, cond_true, cond_false, Bool.not_true, Bool.not_false, Bool.not_not, Bool.and_true, Bool.true_and, Bool.and_false, Bool.false_and, Bool.or_true, Bool.true_or, Bool.or_false, Bool.false_or, beq_self_eq_true, bne_self_eq_false, Bool.true_eq_false, Bool.false_eq_true, reduceCtorEq, Bool.and_self, Bool.or_self, Int.reduceBEq, Int.reduceBNe, Int.reduceNeg, decide_true, decide_false, Int.reduceLT, Int.reduceLE, Int.reduceGT]; done) | skip
    · have e1 : askV (svyOf wl lv n fun i => obsL (s i)) = (svyOf wl lv n fun i => obsL (s i)) := by unfold askV; rw [p1]; rfl
      have e2 : askG (svyOf wl lv n fun i => obsL (s i)) = groupsM (svyOf wl lv n fun i => obsL (s i)) := by unfold askG; rw [p1]; rfl
      have p1e : svE (svyOf wl lv n fun i => obsL (s i)) = 0 := by simpa using p1
      have hok := svE_ok p1e
      rw [e1, e2]
      repeat' first | (exact PLe.refl _) | (exact BLe.refl _) | (exact PLeL.nil) | (exact BLeL.nil) | (refine ⟨?_, ?_⟩) | (refine PLeL.cons ?_ ?_) | (refine BLeL.cons ?_ ?_) | (refine ple_int ?_) | (refine ple_bool ?_) | (refine ple_tt ?_) | (refine ple_ff ?_) | (refine PLe.aggL ?_) | (refine PLe.tupL ?_) | (refine BLe.cellsL ?_) | (refine fun h => absurd h (by decide)) | (refine fun h => ?_; exfalso; simp only [p1, Int.toNat_natCast, Bool.cond_true_left, Bool.cond_false_right, Bool.cond_true_right, Bool.cond_false_left, cond_true, cond_false, Bool.not_true, Bool.not_false, Bool.not_not, Bool.and_true, Bool.true_and, Bool.and_false, Bool.false_and, Bool.or_true, Bool.true_or, Bool.or_false, Bool.false_or, beq_self_eq_true, bne_self_eq_false, Bool.true_eq_false, Bool.false_eq_true, reduceCtorEq, Bool.and_self, Bool.or_self, Int.reduceBEq, Int.reduceBNe, Int.reduceNeg, decide_true, decide_false, Int.reduceLT, Int.reduceLE, Int.reduceGT] at h; done) | (refine fun (h : @Eq Bool _ _) => ?_)
      all_goals first | trivial | rfl | omega | (exact hL) | (exact p1e.symm) | (refine .mk hok ?_; rfl) | (simp only [p1, Int.toNat_natCast, Bool.cond_true_left, Bool.cond_false_right, Bool.cond_true_right, Bool.cond_false_left, cond_true, cond_false, Bool.not_true, Bool.not_false, Bool.not_not, Bool.and_true, Bool.true_and, Bool.and_false, Bool.false_and, Bool.or_true, Bool.true_or, Bool.or_false, Bool.false_or, beq_self_eq_true, bne_self_eq_false, Bool.true_eq_false, Bool.false_eq_true, reduceCtorEq, Bool.and_self, Bool.or_self, Int.reduceBEq, Int.reduceBNe, Int.reduceNeg, decide_true, decide_false, Int.reduceLT, Int.reduceLE, Int.reduceGT]; done) | (show @Eq Bool _ _; simp only [p1, Int.toNat_natCast, Bool.cond_true_left, Bool.cond_false_right, Bool.cond_true_right, Bool.cond_false_left, cond_true, cond_false, Bool.not_true, Bool.not_false, Bool.not_not, Bool.and_true, Bool.true_and, Bool.and_false, Bool.false_and, Bool.or_true, Bool.true_or, Bool.or_false, Bool.false_or, beq_self_eq_true, bne_self_eq_false, Bool.true_eq_false, Bool.false_eq_true, reduceCtorEq, Bool.and_self, Bool.or_self, Int.reduceBEq, Int.reduceBNe, Int.reduceNeg, decide_true, decide_false, Int.reduceLT, Int.reduceLE, Int.reduceGT]; done) | skip
  · exact h.elim
theorem arr_at (g : Nat → Int) (a b c : PV) : ∀ i, i < 10 → ([a, b, c, I (g 0), I (g 1), I (g 2), I (g 3), I (g 4), I (g 5), I (g 6), I (g 7), I (g 8), I (g 9)].drop (0 + 3 + i * 1)).take 1 = intL (g i) := by
  intro i hi
  match i, hi with
  | 0, _ => rfl
  | 1, _ => rfl
  | 2, _ => rfl
  | 3, _ => rfl
  | 4, _ => rfl
  | 5, _ => rfl
  | 6, _ => rfl
  | 7, _ => rfl
  | 8, _ => rfl
  | 9, _ => rfl
theorem arr_ok (g : Nat → Int) (a b c : PV) {m : Nat} (hm : m ≤ 10) : ∀ i, i < m → (([a, b, c, I (g 0), I (g 1), I (g 2), I (g 3), I (g 4), I (g 5), I (g 6), I (g 7), I (g 8), I (g 9)].drop (0 + 3 + i * 1)).take 1).length = 1 ∧ (([a, b, c, I (g 0), I (g 1), I (g 2), I (g 3), I (g 4), I (g 5), I (g 6), I (g 7), I (g 8), I (g 9)].drop (0 + 3 + i * 1)).take 1).all sc1 = true ∧ (([a, b, c, I (g 0), I (g 1), I (g 2), I (g 3), I (g 4), I (g 5), I (g 6), I (g 7), I (g 8), I (g 9)].drop (0 + 3 + i * 1)).take 1).all noref1 = true := by
  intro i hi
  rw [arr_at g a b c i (by omega)]
  exact ⟨rfl, rfl, rfl⟩
set_option maxRecDepth 20000 in
set_option maxHeartbeats 1000000 in
theorem sf42 : SF Try.prog 42 groupsS := by
  refine sf_gen types_ok mixed (l := [(93, askS2)]) ⟨sf93, trivial⟩ (es := []) trivial (its := []) trivial (fr := [(94, 3, 1, cloneS)]) ⟨sff94, trivial⟩ [] [] false [] [] 1 Try.func42 rfl (by kernel_rfl) fun args h => ?_
  unfold groupsS at h
  split at h
  · rename_i wl lv n get
    have hL : isL obsL n get := h
    obtain ⟨hn, s, rfl⟩ := isL.get hL
    clear h
    refine ⟨rfl, ?_⟩
    show evalCode _ _ _ fun o => match o with
      | .normal st | .ret st => withP _ (_ ∧ PLe _ (.tup [.slice none (groupsN (svyOf wl lv n fun i => obsL (s i))) fun i => intL (groupsM (svyOf wl lv n fun i => obsL (s i)) i), I (svE (svyOf wl lv n fun i => obsL (s i)))]))
      | _ => False
    refine (Bool.eq_false_or_eq_true (svE (svyOf wl lv n fun i => obsL (s i)) != 0)).elim (fun p1 => ?_) fun p1 => ?_
    · have e3 : groupsN (svyOf wl lv n fun i => obsL (s i)) = 0 := by unfold groupsN; rw [p1]; rfl
      rw [e3]
      repeat' first | (exact ple_slice rfl fun i hi => by cases hi) | (exact PLe.refl _) | (exact BLe.refl _) | (exact PLeL.nil) | (exact BLeL.nil) | (refine ⟨?_, ?_⟩) | (refine PLeL.cons ?_ ?_) | (refine BLeL.cons ?_ ?_) | (refine ple_int ?_) | (refine ple_bool ?_) | (refine ple_tt ?_) | (refine ple_ff ?_) | (refine PLe.aggL ?_) | (refine PLe.tupL ?_) | (refine BLe.cellsL ?_) | (refine fun h => absurd h (by decide)) | (refine fun h => ?_; exfalso; simp only [p1, Int.toNat_natCast, Bool.cond_true_left, Bool.cond_false_right, Bool.cond_true_right, Bool.cond_false_left, cond_true, cond_false, Bool.not_true, Bool.not_false, Bool.not_not, Bool.and_true, Bool.true_and, Bool.and_false, Bool.false_and, Bool.or_true, Bool.true_or, Bool.or_false, Bool.false_or, beq_self_eq_true, bne_self_eq_false, Bool.true_eq_false, Bool.false_eq_true, reduceCtorEq, Bool.and_self, Bool.or_self, Int.reduceBEq, Int.reduceBNe, Int.reduceNeg, decide_true, decide_false, Int.reduceLT, Int.reduceLE, Int.reduceGT] at h; done) | (refine fun (h : @Eq Bool _ _) => ?_)
      all_goals first | trivial | rfl | omega | (exact hL) | (simp only [p1, Int.toNat_natCast, Bool.cond_true_left, Bool.cond_false_right, Bool.cond_true_right, Bool.cond_false_left, cond_true, cond_false, Bool.not_true, Bool.not_false, Bool.not_not, Bool.and_true, Bool.true_and, Bool.and_false, Bool.false_and, Bool.or_true, Bool.true_or, Bool.or_false, Bool.false_or, beq_self_eq_true, bne_self_eq_false, Bool.true_eq_false, Bool.false_eq_true, reduceCtorEq, Bool.and_self, Bool.or_self, Int.reduceBEq, Int.reduceBNe, Int.reduceNeg, decide_true, decide_false, Int.reduceLT, Int.reduceLE, Int.reduceGT]; done) | (show @Eq Bool _ _; simp only [p1, Int.toNat_natCast, Bool.cond_true_left, Bool.cond_false_right, Bool.cond_true_right, Bool.cond_false_left, cond_true, cond_false, Bool.not_true, Bool.not_false, Bool.not_not, Bool.and_true, Bool.true_and, Bool.and_false, Bool.false_and, Bool.or_true, Bool.true_or, Bool.or_false, Bool.false_or, beq_self_eq_true, bne_self_eq_false, Bool.true_eq_false, Bool.false_eq_true, reduceCtorEq, Bool.and_self, Bool.or_self, Int.reduceBEq, Int.reduceBNe, Int.reduceNeg, decide_true, decide_false, Int.reduceLT, Int.reduceLE, Int.reduceGT]; done) | skip
    · have e1 : askV (svyOf wl lv n fun i => obsL (s i)) = (svyOf wl lv n fun i => obsL (s i)) := by unfold askV; rw [p1]; rfl
      have e2 : askG (svyOf wl lv n fun i => obsL (s i)) = groupsM (svyOf wl lv n fun i => obsL (s i)) := by unfold askG; rw [p1]; rfl
      have e3 : groupsN (svyOf wl lv n fun i => obsL (s i)) = wl.toNat := by unfold groupsN; rw [p1]; rfl
      have p1e : svE (svyOf wl lv n fun i => obsL (s i)) = 0 := by simpa using p1
      have hok := svE_ok p1e
      have hwl : 1 ≤ wl ∧ wl ≤ 10 := hok.wl
      have ew : (askV (svyOf wl lv n fun i => obsL (s i))).wl = wl := by rw [e1]; rfl
      rw [e3]
      repeat' first | (exact PLe.refl _) | (exact BLe.refl _) | (exact PLeL.nil) | (exact BLeL.nil) | (refine ⟨?_, ?_⟩) | (refine PLeL.cons ?_ ?_) | (refine BLeL.cons ?_ ?_) | (refine ple_int ?_) | (refine ple_bool ?_) | (refine ple_tt ?_) | (refine ple_ff ?_) | (refine PLe.aggL ?_) | (refine PLe.tupL ?_) | (refine BLe.cellsL ?_) | (refine fun h => absurd h (by decide)) | (refine fun h => ?_; exfalso; simp only [p1, Int.toNat_natCast, Bool.cond_true_left, Bool.cond_false_right, Bool.cond_true_right, Bool.cond_false_left, cond_true, cond_false, Bool.not_true, Bool.not_false, Bool.not_not, Bool.and_true, Bool.true_and, Bool.and_false, Bool.false_and, Bool.or_true, Bool.true_or, Bool.or_false, Bool.false_or, beq_self_eq_true, bne_self_eq_false, Bool.true_eq_false, Bool.false_eq_true, reduceCtorEq, Bool.and_self, Bool.or_self, Int.reduceBEq, Int.reduceBNe, Int.reduceNeg, decide_true, decide_false, Int.reduceLT, Int.reduceLE, Int.reduceGT] at h; done) | (refine fun (h : @Eq Bool _ _) => ?_)
      all_goals first | trivial | rfl | omega | (exact hL) | (exact p1e.symm) | (show 0 + 3 + (askV (svyOf wl lv n fun i => obsL (s i))).wl.toNat * 1 ≤ 13; rw [ew]; omega) | (show 0 ≤ (askV (svyOf wl lv n fun i => obsL (s i))).wl; rw [ew]; omega) | (show (askV (svyOf wl lv n fun i => obsL (s i))).wl ≤ ((10 : Nat) : Int); rw [ew]; omega) | (show (askV (svyOf wl lv n fun i => obsL (s i))).wl.toNat ≤ 1000; rw [ew]; omega) | (exact fun i hi => And.imp id And.right (arr_ok (askG (svyOf wl lv n fun i => obsL (s i))) (I (askV (svyOf wl lv n fun i => obsL (s i))).wl) (I (askV (svyOf wl lv n fun i => obsL (s i))).lv) (.slice none (askV (svyOf wl lv n fun i => obsL (s i))).n fun i => obsL ((askV (svyOf wl lv n fun i => obsL (s i))).s i)) (by rw [ew]; omega) i hi)) | (exact arr_ok (askG (svyOf wl lv n fun i => obsL (s i))) (I (askV (svyOf wl lv n fun i => obsL (s i))).wl) (I (askV (svyOf wl lv n fun i => obsL (s i))).lv) (.slice none (askV (svyOf wl lv n fun i => obsL (s i))).n fun i => obsL ((askV (svyOf wl lv n fun i => obsL (s i))).s i)) (by rw [ew]; omega)) | (exact ple_slice (by rw [ew]) fun i hi => (arr_at (askG (svyOf wl lv n fun i => obsL (s i))) (I (askV (svyOf wl lv n fun i => obsL (s i))).wl) (I (askV (svyOf wl lv n fun i => obsL (s i))).lv) (.slice none (askV (svyOf wl lv n fun i => obsL (s i))).n fun i => obsL ((askV (svyOf wl lv n fun i => obsL (s i))).s i)) i (by rw [ew] at hi; omega)).trans (by rw [e2])) | (simp only [p1, Int.toNat_natCast, Bool.cond_true_left, Bool.cond_false_right, Bool.cond_true_right, Bool.cond_false_left, cond_true, cond_false, Bool.not_true, Bool.not_false, Bool.not_not, Bool.and_true, Bool.true_and, Bool.and_false, Bool.false_and, Bool.or_true, Bool.true_or, Bool.or_false, Bool.false_or, beq_self_eq_true, bne_self_eq_false, Bool.true_eq_false, Bool.false_eq_true, reduceCtorEq, Bool.and_self, Bool.or_self, Int.reduceBEq, Int.reduceBNe, Int.reduceNeg, decide_true, decide_false, Int.reduceLT, Int.reduceLE, Int.reduceGT]; done) | (show @Eq Bool _ _; simp only [p1, Int.toNat_natCast, Bool.cond_true_left, Bool.cond_false_right, Bool.cond_true_right, Bool.cond_false_left, cond_true, cond_false, Bool.not_true, Bool.not_false, Bool.not_not, Bool.and_true, Bool.true_and, Bool.and_false, Bool.false_and, Bool.or_true, Bool.true_or, Bool.or_false, Bool.false_or, beq_self_eq_true, bne_self_eq_false, Bool.true_eq_false, Bool.false_eq_true, reduceCtorEq, Bool.and_self, Bool.or_self, Int.reduceBEq, Int.reduceBNe, Int.reduceNeg, decide_true, decide_false, Int.reduceLT, Int.reduceLE, Int.reduceGT]; done) | skip
  · exact h.elim
end Go.Proofs.Ytnjhbmcambofgaa
