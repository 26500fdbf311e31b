/- Layer 4: the law on what a pulse tells. -/
import Derived.Test.YtnjhbmcambofgaaS32
import Derived.Test.YtnjhbmcambofgaaS48
import Derived.Test.YtnjhbmcambofgaaS52
import Derived.Test.YtnjhbmcambofgaaS46
namespace Go.Proofs.Ytnjhbmcambofgaa
open Go.V
set_option linter.unusedSimpArgs false
set_option linter.unusedVariables false

theorem d50 (v : Svy) (hn : v.n ≤ 1000) : SF Try.prog 50 (V.atS [.agg (svyC v)] (.tup [.slice none (relN2 v) (relsG v), I (relE2 v)])) := sf_at sf50 (show isL obsL v.n _ from isLo v hn) rfl
theorem d42 (v : Svy) (hn : v.n ≤ 1000) : SF Try.prog 42 (V.atS [.agg (svyC v)] (.tup [.slice none (groupsN v) (fun i => intL (groupsM v i)), I (svE v)])) := sf_at sf42 (show isL obsL v.n _ from isLo v hn) rfl
def sv4 (k n : Nat) (lv : Int) (s : Nat → Obs) : Svy := ⟨(k : Int), lv, n, s⟩
set_option maxRecDepth 20000 in
set_option maxHeartbeats 2000000 in
theorem pulsedBig (v : Svy) (x a : Int) (hn : 50 < v.n) : SF Try.prog 17 (V.atS [.agg (svyC v), .int .u64 x, .int .u8 a] (.bool true)) := by
  have p0 : decide ((50 : Int) < (v.n : Int)) = true := decide_eq_true (by omega)
  refine sf_gen types_ok mixed (l := [(18, V.atS [] (.bool true))]) ⟨sf18, trivial⟩ (es := []) trivial (its := []) trivial (fr := []) trivial [] [] false [] [] 3 Try.func17 rfl (by kernel_rfl) fun args h => ?_
  have h : args = _ := h
  subst h
  refine ⟨rfl, ?_⟩
  show evalCode _ _ _ fun o => match o with
    | .normal st | .ret st => withP _ (_ ∧ PLe _ (.bool true))
    | _ => False
  repeat' first | (exact PLe.refl _) | (exact BLe.refl _) | (exact PLeL.nil) | (exact BLeL.nil) | (refine ⟨?_, ?_⟩) | (refine PLeL.cons ?_ ?_) | (refine BLeL.cons ?_ ?_) | (refine ple_int ?_) | (refine ple_bool ?_) | (refine ple_tt ?_) | (refine ple_ff ?_) | (refine PLe.aggL ?_) | (refine PLe.tupL ?_) | (refine BLe.cellsL ?_) | (refine fun h => absurd h (by decide)) | (refine fun h => ?_; exfalso; simp only [p0, Int.toNat_natCast, Bool.cond_true_left, Bool.cond_false_right, Bool.cond_true_right, Bool.cond_false_left, cond_true, cond_false, Bool.not_true, Bool.not_false, Bool.not_not, Bool.and_true, Bool.true_and, Bool.and_false, Bool.false_and, Bool.or_true, Bool.true_or, Bool.or_false, Bool.false_or, beq_self_eq_true, bne_self_eq_false, Bool.true_eq_false, Bool.false_eq_true, reduceCtorEq, Bool.and_self, Bool.or_self, Int.reduceBEq, Int.reduceBNe, Int.reduceNeg, decide_true, decide_false, Int.reduceLT, Int.reduceLE, Int.reduceGT] at h; done) | (refine fun (h : @Eq Bool _ _) => ?_)
  all_goals first | trivial | rfl | omega | (simp only [p0, Int.toNat_natCast, Bool.cond_true_left, Bool.cond_false_right, Bool.cond_true_right, Bool.cond_false_left, cond_true, cond_false, Bool.not_true, Bool.not_false, Bool.not_not, Bool.and_true, Bool.true_and, Bool.and_false, Bool.false_and, Bool.or_true, Bool.true_or, Bool.or_false, Bool.false_or, beq_self_eq_true, bne_self_eq_false, Bool.true_eq_false, Bool.false_eq_true, reduceCtorEq, Bool.and_self, Bool.or_self, Int.reduceBEq, Int.reduceBNe, Int.reduceNeg, decide_true, decide_false, Int.reduceLT, Int.reduceLE, Int.reduceGT]; done) | (show @Eq Bool _ _; simp only [p0, Int.toNat_natCast, Bool.cond_true_left, Bool.cond_false_right, Bool.cond_true_right, Bool.cond_false_left, cond_true, cond_false, Bool.not_true, Bool.not_false, Bool.not_not, Bool.and_true, Bool.true_and, Bool.and_false, Bool.false_and, Bool.or_true, Bool.true_or, Bool.or_false, Bool.false_or, beq_self_eq_true, bne_self_eq_false, Bool.true_eq_false, Bool.false_eq_true, reduceCtorEq, Bool.and_self, Bool.or_self, Int.reduceBEq, Int.reduceBNe, Int.reduceNeg, decide_true, decide_false, Int.reduceLT, Int.reduceLE, Int.reduceGT]; done) | skip
set_option maxRecDepth 20000 in
set_option maxHeartbeats 2000000 in
theorem pulsedE (v : Svy) (x a : Int) (hn : v.n ≤ 50) (p1 : (svE v != 0) = true) : SF Try.prog 17 (V.atS [.agg (svyC v), .int .u64 x, .int .u8 a] (.bool true)) := by
  have p0 : decide ((50 : Int) < (v.n : Int)) = false := decide_eq_false (by omega)
  refine sf_gen types_ok mixed (l := [(18, V.atS [] (.bool true)), (41, V.atS [.agg (svyC v)] (I (svE v)))]) ⟨sf18, d41 v, trivial⟩ (es := []) trivial (its := []) trivial (fr := []) trivial [] [] false [] [] 3 Try.func17 rfl (by kernel_rfl) fun args h => ?_
  have h : args = _ := h
  subst h
  refine ⟨rfl, ?_⟩
  show evalCode _ _ _ fun o => match o with
    | .normal st | .ret st => withP _ (_ ∧ PLe _ (.bool true))
    | _ => False
  repeat' first | (exact PLe.refl _) | (exact BLe.refl _) | (exact PLeL.nil) | (exact BLeL.nil) | (refine ⟨?_, ?_⟩) | (refine PLeL.cons ?_ ?_) | (refine BLeL.cons ?_ ?_) | (refine ple_int ?_) | (refine ple_bool ?_) | (refine ple_tt ?_) | (refine ple_ff ?_) | (refine PLe.aggL ?_) | (refine PLe.tupL ?_) | (refine BLe.cellsL ?_) | (refine fun h => absurd h (by decide)) | (refine fun h => ?_; exfalso; simp only [p0, p1, Int.toNat_natCast, Bool.cond_true_left, Bool.cond_false_right, Bool.cond_true_right, Bool.cond_false_left, cond_true, cond_false, Bool.not_true, Bool.not_false, Bool.not_not, Bool.and_true, Bool.true_and, Bool.and_false, Bool.false_and, Bool.or_true, Bool.true_or, Bool.or_false, Bool.false_or, beq_self_eq_true, bne_self_eq_false, Bool.true_eq_false, Bool.false_eq_true, reduceCtorEq, Bool.and_self, Bool.or_self, Int.reduceBEq, Int.reduceBNe, Int.reduceNeg, decide_true, decide_false, Int.reduceLT, Int.reduceLE, Int.reduceGT] at h; done) | (refine fun (h : @Eq Bool _ _) => ?_)
  all_goals first | trivial | rfl | omega | (simp only [p0, p1, Int.toNat_natCast, Bool.cond_true_left, Bool.cond_false_right, Bool.cond_true_right, Bool.cond_false_left, cond_true, cond_false, Bool.not_true, Bool.not_false, Bool.not_not, Bool.and_true, Bool.true_and, Bool.and_false, Bool.false_and, Bool.or_true, Bool.true_or, Bool.or_false, Bool.false_or, beq_self_eq_true, bne_self_eq_false, Bool.true_eq_false, Bool.false_eq_true, reduceCtorEq, Bool.and_self, Bool.or_self, Int.reduceBEq, Int.reduceBNe, Int.reduceNeg, decide_true, decide_false, Int.reduceLT, Int.reduceLE, Int.reduceGT]; done) | (show @Eq Bool _ _; simp only [p0, p1, Int.toNat_natCast, Bool.cond_true_left, Bool.cond_false_right, Bool.cond_true_right, Bool.cond_false_left, cond_true, cond_false, Bool.not_true, Bool.not_false, Bool.not_not, Bool.and_true, Bool.true_and, Bool.and_false, Bool.false_and, Bool.or_true, Bool.true_or, Bool.or_false, Bool.false_or, beq_self_eq_true, bne_self_eq_false, Bool.true_eq_false, Bool.false_eq_true, reduceCtorEq, Bool.and_self, Bool.or_self, Int.reduceBEq, Int.reduceBNe, Int.reduceNeg, decide_true, decide_false, Int.reduceLT, Int.reduceLE, Int.reduceGT]; done) | skip
set_option maxRecDepth 20000 in
set_option maxHeartbeats 2000000 in
theorem pulsedL (v : Svy) (x a : Int) (hn : v.n ≤ 50) (p1 : svE v = 0) (p2 : (v.lv == -2000000000) = true) : SF Try.prog 17 (V.atS [.agg (svyC v), .int .u64 x, .int .u8 a] (.bool true)) := by
  have p0 : decide ((50 : Int) < (v.n : Int)) = false := decide_eq_false (by omega)
  refine sf_gen types_ok mixed (l := [(18, V.atS [] (.bool true)), (41, V.atS [.agg (svyC v)] (I 0))]) ⟨sf18, (by have := d41 v; rw [p1] at this; exact this), trivial⟩ (es := []) trivial (its := []) trivial (fr := []) trivial [] [] false [] [] 3 Try.func17 rfl (by kernel_rfl) fun args h => ?_
  have h : args = _ := h
  subst h
  refine ⟨rfl, ?_⟩
  show evalCode _ _ _ fun o => match o with
    | .normal st | .ret st => withP _ (_ ∧ PLe _ (.bool true))
    | _ => False
  repeat' first | (exact PLe.refl _) | (exact BLe.refl _) | (exact PLeL.nil) | (exact BLeL.nil) | (refine ⟨?_, ?_⟩) | (refine PLeL.cons ?_ ?_) | (refine BLeL.cons ?_ ?_) | (refine ple_int ?_) | (refine ple_bool ?_) | (refine ple_tt ?_) | (refine ple_ff ?_) | (refine PLe.aggL ?_) | (refine PLe.tupL ?_) | (refine BLe.cellsL ?_) | (refine fun h => absurd h (by decide)) | (refine fun h => ?_; exfalso; simp only [p0, p2, Int.toNat_natCast, Bool.cond_true_left, Bool.cond_false_right, Bool.cond_true_right, Bool.cond_false_left, cond_true, cond_false, Bool.not_true, Bool.not_false, Bool.not_not, Bool.and_true, Bool.true_and, Bool.and_false, Bool.false_and, Bool.or_true, Bool.true_or, Bool.or_false, Bool.false_or, beq_self_eq_true, bne_self_eq_false, Bool.true_eq_false, Bool.false_eq_true, reduceCtorEq, Bool.and_self, Bool.or_self, Int.reduceBEq, Int.reduceBNe, Int.reduceNeg, decide_true, decide_false, Int.reduceLT, Int.reduceLE, Int.reduceGT] at h; done) | (refine fun (h : @Eq Bool _ _) => ?_)
  all_goals first | trivial | rfl | omega | (simp only [p0, p2, Int.toNat_natCast, Bool.cond_true_left, Bool.cond_false_right, Bool.cond_true_right, Bool.cond_false_left, cond_true, cond_false, Bool.not_true, Bool.not_false, Bool.not_not, Bool.and_true, Bool.true_and, Bool.and_false, Bool.false_and, Bool.or_true, Bool.true_or, Bool.or_false, Bool.false_or, beq_self_eq_true, bne_self_eq_false, Bool.true_eq_false, Bool.false_eq_true, reduceCtorEq, Bool.and_self, Bool.or_self, Int.reduceBEq, Int.reduceBNe, Int.reduceNeg, decide_true, decide_false, Int.reduceLT, Int.reduceLE, Int.reduceGT]; done) | (show @Eq Bool _ _; simp only [p0, p2, Int.toNat_natCast, Bool.cond_true_left, Bool.cond_false_right, Bool.cond_true_right, Bool.cond_false_left, cond_true, cond_false, Bool.not_true, Bool.not_false, Bool.not_not, Bool.and_true, Bool.true_and, Bool.and_false, Bool.false_and, Bool.or_true, Bool.true_or, Bool.or_false, Bool.false_or, beq_self_eq_true, bne_self_eq_false, Bool.true_eq_false, Bool.false_eq_true, reduceCtorEq, Bool.and_self, Bool.or_self, Int.reduceBEq, Int.reduceBNe, Int.reduceNeg, decide_true, decide_false, Int.reduceLT, Int.reduceLE, Int.reduceGT]; done) | skip
set_option maxRecDepth 20000 in
set_option maxHeartbeats 2000000 in
theorem pulsedC (k n : Nat) (lv : Int) (s : Nat → Obs) (x a : Int) (q : Nat) (hq : (IntKind.i64.wrap a).tmod (k : Int) = (q : Int)) (hqk : q < k) (hok : okV (sv4 k n lv s)) (hn : n ≤ 50) (p2 : (lv == -2000000000) = false) (hc : clashB (sv4 k n lv s) = true) : SF Try.prog 17 (V.atS [.agg (svyC (sv4 k n lv s)), .int .u64 x, .int .u8 a] (.bool true)) := by
  have p0 : decide ((50 : Int) < (n : Int)) = false := decide_eq_false (by omega)
  have hw := hok.wl
  have hw : 1 ≤ (k : Int) ∧ (k : Int) ≤ 10 := hw
  have p1 : svE (sv4 k n lv s) = 0 := svE_okV hok
  have hL : (lv : Int) ≠ -2000000000 := by simpa using p2
  have hk0 : ((k : Int) == ((sv4 k n lv s)).wl) = true := beq_self_eq_true _
  have nf : ∀ p, fitsM (sv4 k n lv s) p = false := fun p => by
    cases h : fitsM (sv4 k n lv s) p with
    | false => rfl
    | true => exact absurd (hc.symm.trans (fits_noclash hok h)) (by decide)
  have pd := nf (digit x)
  have hE : pulE (sv4 k n lv s) (q : Nat) k (groupsM (sv4 k n lv s)) = 9 := by
    unfold pulE
    have e1 : decide (okWell ((sv4 k n lv s)).wl (q : Nat)) = true := by
      refine decide_eq_true ?_
      show 0 ≤ (q : Int) ∧ (q : Int) ≤ w ((k : Int) - 1)
      rw [wj (n := (k : Int) - 1) (by omega)]
      omega
    have e2 : (((sv4 k n lv s)).lv == -2000000000) = false := p2
    rw [e1, hk0, e2, nf]; rfl
  refine sf_gen types_ok mixed (l := [(18, V.atS [] (.bool true)), (41, V.atS [.agg (svyC (sv4 k n lv s))] (I 0)), (43, V.atS [.agg (svyC (sv4 k n lv s))] (.agg (svyC (sv4 k n lv s)))), (42, V.atS [.agg (svyC (sv4 k n lv s))] (.tup [.slice none k (fun i => intL (groupsM (sv4 k n lv s) i)), I 0])), (64, V.atS [I (k : Nat), .int .u64 x] (.slice none k fun i => intL (digit x i))), (54, svL2S (sv4 k n lv s) k (digit x) (.bool false)), (56, svL3S (sv4 k n lv s) (q : Nat) k (groupsM (sv4 k n lv s)) (.tup [.agg (svyC zeroV), I 9])), (50, V.atS [.agg (svyC (sv4 k n lv s))] (.tup [.slice none 0 (relsG (sv4 k n lv s)), I 9]))]) ⟨sf18, (by have := d41 (sv4 k n lv s); rw [p1] at this; exact this), d43 (sv4 k n lv s) (by show n ≤ 1000; omega), (by have := d42 (sv4 k n lv s) (by show n ≤ 1000; omega); unfold groupsN at this; rw [p1] at this; exact this), d64 k (by omega) x, sf_svL2 (by have := d54 (sv4 k n lv s) (by show n ≤ 1000; omega) k (digit x) (by omega); unfold fitB at this; rw [p1, hk0, pd] at this; exact this), sf_svL3 (by have := d56 (sv4 k n lv s) hok (q : Nat) k (groupsM (sv4 k n lv s)) (by omega); unfold pulR at this; rw [hE] at this; exact this), (by have := d50 (sv4 k n lv s) (by show n ≤ 1000; omega); unfold relN2 relE2 relN relE at this; rw [p1, hc] at this; exact this), trivial⟩ (es := []) trivial (its := []) trivial (fr := []) trivial [] [] false [] [] 3 Try.func17 rfl (by kernel_rfl) fun args h => ?_
  have h : args = _ := h
  subst h
  refine ⟨rfl, ?_⟩
  show evalCode _ _ _ fun o => match o with
    | .normal st | .ret st => withP _ (_ ∧ PLe _ (.bool true))
    | _ => False
  repeat' first | (exact PLe.refl _) | (exact BLe.refl _) | (exact PLeL.nil) | (exact BLeL.nil) | (refine ⟨?_, ?_⟩) | (refine PLeL.cons ?_ ?_) | (refine BLeL.cons ?_ ?_) | (refine ple_int ?_) | (refine ple_bool ?_) | (refine ple_tt ?_) | (refine ple_ff ?_) | (refine PLe.aggL ?_) | (refine PLe.tupL ?_) | (refine BLe.cellsL ?_) | (refine fun h => absurd h (by decide)) | (refine fun h => ?_; exfalso; simp only [p0, p2, Int.toNat_natCast, Bool.cond_true_left, Bool.cond_false_right, Bool.cond_true_right, Bool.cond_false_left, cond_true, cond_false, Bool.not_true, Bool.not_false, Bool.not_not, Bool.and_true, Bool.true_and, Bool.and_false, Bool.false_and, Bool.or_true, Bool.true_or, Bool.or_false, Bool.false_or, beq_self_eq_true, bne_self_eq_false, Bool.true_eq_false, Bool.false_eq_true, reduceCtorEq, Bool.and_self, Bool.or_self, Int.reduceBEq, Int.reduceBNe, Int.reduceNeg, decide_true, decide_false, Int.reduceLT, Int.reduceLE, Int.reduceGT] at h; done) | (refine fun (h : @Eq Bool _ _) => ?_)
  all_goals first | trivial | rfl | omega | (show (0 + k) * 8 ≤ 140737488355328; omega) | (exact Nat.zero_add k) | (intro i hi; exact absurd hi (by omega)) | (intro i hi; exact ⟨rfl, rfl⟩) | (intro i hi; rfl) | (exact hq) | (show (k : Int) ≠ 0; omega) | (simp only [p0, p2, Int.toNat_natCast, Bool.cond_true_left, Bool.cond_false_right, Bool.cond_true_right, Bool.cond_false_left, cond_true, cond_false, Bool.not_true, Bool.not_false, Bool.not_not, Bool.and_true, Bool.true_and, Bool.and_false, Bool.false_and, Bool.or_true, Bool.true_or, Bool.or_false, Bool.false_or, beq_self_eq_true, bne_self_eq_false, Bool.true_eq_false, Bool.false_eq_true, reduceCtorEq, Bool.and_self, Bool.or_self, Int.reduceBEq, Int.reduceBNe, Int.reduceNeg, decide_true, decide_false, Int.reduceLT, Int.reduceLE, Int.reduceGT]; done) | (show @Eq Bool _ _; simp only [p0, p2, Int.toNat_natCast, Bool.cond_true_left, Bool.cond_false_right, Bool.cond_true_right, Bool.cond_false_left, cond_true, cond_false, Bool.not_true, Bool.not_false, Bool.not_not, Bool.and_true, Bool.true_and, Bool.and_false, Bool.false_and, Bool.or_true, Bool.true_or, Bool.or_false, Bool.false_or, beq_self_eq_true, bne_self_eq_false, Bool.true_eq_false, Bool.false_eq_true, reduceCtorEq, Bool.and_self, Bool.or_self, Int.reduceBEq, Int.reduceBNe, Int.reduceNeg, decide_true, decide_false, Int.reduceLT, Int.reduceLE, Int.reduceGT]; done) | skip
theorem allN_congr {f g : Nat → Bool} : ∀ {n : Nat}, (∀ i, i < n → f i = g i) → allN f n = allN g n := fun {n} h => by
  cases hg : allN g n with
  | true => exact allN_t fun i hi => (h i hi).trans (allN_all hg i hi)
  | false =>
    cases hf : allN f n with
    | false => rfl
    | true => rw [allN_t fun i hi => (h i hi).symm.trans (allN_all hf i hi)] at hg; cases hg
theorem fitO_congr {lv a b lo hi : Int} {p p' : Nat → Int} (h1 : p a.toNat = p' a.toNat) (h2 : p b.toNat = p' b.toNat) : fitO lv p a b lo hi = fitO lv p' a b lo hi := by
  unfold fitO; rw [h1, h2]
theorem fitB_of {v : Svy} (h : okV v) {k : Nat} {g : Nat → List PV} {p : Nat → Int} (hg : ∀ i, i < k → g i = intL (p i)) : fitB v k (fun i => intOf (g i)) = fitB v k p := by
  unfold fitB
  cases hk : ((k : Int) == v.wl) with
  | false => simp
  | true =>
    have hk : (k : Int) = v.wl := by simpa using hk
    have e : fitsM v (fun i => intOf (g i)) = fitsM v p := by
      unfold fitsM
      refine allN_congr fun i hi => ?_
      obtain ⟨ha, hb, _⟩ := h.s i hi
      unfold fitAt
      rw [fitO_congr (p' := p) (by show intOf (g _) = _; rw [hg _ (by omega)]; rfl) (by show intOf (g _) = _; rw [hg _ (by omega)]; rfl)]
    rw [e]
def fitsGS : V.Spec
  | [.agg [.int .i64 wl, .int .i64 lv, .slice none n f], .slice none m g] => (some (isL obsL n f ∧ isL intL m g ∧ n ≤ 1000 ∧ m ≤ 1000), .bool (fitB (svyOf wl lv n f) m fun i => intOf (g i)))
  | _ => bad
theorem sf_fitsGS : SF Try.prog 54 fitsGS := by
  refine sf_each ⟨_, _, Try.func54, by kernel_rfl, rfl⟩ fun args h => ?_
  unfold fitsGS at h ⊢
  split at h
  · rename_i wl lv n f m g
    obtain ⟨h1, h2, h3, h4⟩ : isL obsL n f ∧ isL intL m g ∧ n ≤ 1000 ∧ m ≤ 1000 := h
    obtain ⟨hn, s, rfl⟩ := isL.get h1
    obtain ⟨hm, p, rfl⟩ := isL.get h2
    exact d54 ⟨wl, lv, n, s⟩ h3 m p h4
  · exact h.elim
def fitsGW : V.Spec
  | [.agg [.int .i64 wl, .int .i64 lv, .slice none n f], .slice none m g] => (some (isL obsL n f ∧ n ≤ 1000 ∧ m ≤ 1000 ∧ ∀ i, i < m → g i = intL (intOf (g i))), .bool (fitB (svyOf wl lv n f) m fun i => intOf (g i)))
  | _ => bad
theorem sf_fitsGW : SF Try.prog 54 fitsGW := by
  refine sf_args sf_fitsGS fun args h => ?_
  unfold fitsGW at h ⊢
  split at h
  · rename_i wl lv n f m g
    obtain ⟨h1, h2, h3, h4⟩ : isL obsL n f ∧ n ≤ 1000 ∧ m ≤ 1000 ∧ ∀ i, i < m → g i = intL (intOf (g i)) := h
    refine ⟨[.agg [.int .i64 wl, .int .i64 lv, .slice none n f], .slice none m fun i => intL (intOf (g i))], rfl, fun i hi => ?_, ⟨h1, .mk _ (by omega) rfl, h2, h3⟩, rfl⟩
    match i, hi with
    | 0, _ => exact .refl _
    | 1, _ => exact .slice _ _ _ _ h4
  · exact h.elim
def rel2S (v : Svy) (k : Nat) (v' : Svy) : V.Spec
  | [.agg [.int .i64 wl, .int .i64 lv, .slice none n f]] => (some (svyC v = [.int .i64 wl, .int .i64 lv, .slice none n f] ∨ svyC v' = [.int .i64 wl, .int .i64 lv, .slice none n f]), .tup [.slice none k (relsG (svyOf wl lv n f)), I 0])
  | _ => bad
theorem sf_rel2 {v : Svy} {k : Nat} {v' : Svy} (h1 : SF Try.prog 50 (V.atS [.agg (svyC v)] (.tup [.slice none k (relsG v), I 0]))) (h2 : SF Try.prog 50 (V.atS [.agg (svyC v')] (.tup [.slice none k (relsG v'), I 0]))) : SF Try.prog 50 (rel2S v k v') := by
  refine sf_each ⟨_, _, Try.func50, by kernel_rfl, rfl⟩ fun args h => ?_
  unfold rel2S at h ⊢
  split at h
  · rename_i wl lv n f
    rcases (show svyC v = [.int .i64 wl, .int .i64 lv, .slice none n f] ∨ svyC v' = [.int .i64 wl, .int .i64 lv, .slice none n f] from h) with e | e
    · unfold svyC at e
      injection e with e1 e; injection e with e2 e; injection e with e3 e
      injection e1 with _ e1; injection e2 with _ e2; injection e3 with _ e3 e4
      subst e1 e2 e3 e4
      exact h1
    · unfold svyC at e
      injection e with e1 e; injection e with e2 e; injection e with e3 e
      injection e1 with _ e1; injection e2 with _ e2; injection e3 with _ e3 e4
      subst e1 e2 e3 e4
      exact h2
  · exact h.elim
end Go.Proofs.Ytnjhbmcambofgaa
