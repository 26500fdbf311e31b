/- Layer 4: the law on what a pulse tells: a division by digits. -/
import Derived.Test.YtnjhbmcambofgaaA17s
namespace Go.Proofs.Ytnjhbmcambofgaa
open Go.V
set_option linter.unusedSimpArgs false
set_option linter.unusedVariables false

set_option maxRecDepth 20000 in
set_option maxHeartbeats 2000000 in
theorem pulsedD (k n : Nat) (lv : Int) (s : Nat → Obs) (x a : Int) (q : Nat) (hq : (IntKind.i64.wrap a).tmod (k : Int) = (q : Int)) (hqk : q < k) (hok : okV (sv4 k n lv s)) (hn : n ≤ 50) (p2 : (lv == -2000000000) = false) (hd : fitsM (sv4 k n lv s) (digit x) = true) : SF Try.prog 17 (V.atS [.agg (svyC (sv4 k n lv s)), .int .u64 x, .int .u8 a] (.bool true)) := by
  have p0 : decide ((50 : Int) < (n : Int)) = false := decide_eq_false (by omega)
  have hw := hok.wl
  have hw : 1 ≤ (k : Int) ∧ (k : Int) ≤ 10 := hw
  have p1 : svE (sv4 k n lv s) = 0 := svE_okV hok
  have hL : (lv : Int) ≠ -2000000000 := by simpa using p2
  have hk0 : ((k : Int) == ((sv4 k n lv s)).wl) = true := beq_self_eq_true _
  have hf : fitsM (sv4 k n lv s) (digit x) = true := hd
  have hk : (k : Int) = ((sv4 k n lv s)).wl := rfl
  have hn6 : ((sv4 k n lv s)).n + k ≤ 61 := by show n + k ≤ 61; omega
  have hL' : ¬ ((sv4 k n lv s)).lv = -2000000000 := hL
  have hE : pulE (sv4 k n lv s) (q : Nat) k (digit x) = 0 := next_e hok hL' hk hqk hn6 hf
  have nxo : okV (pulV (sv4 k n lv s) (q : Int) (digit x) k) := next_ok hok hL' hk hqk hn6
  have nx1 : svE (pulV (sv4 k n lv s) (q : Int) (digit x) k) = 0 := svE_okV nxo
  have nx2 : ((pulV (sv4 k n lv s) (q : Int) (digit x) k)).n ≤ 1000 := by have := nxo.n; omega
  have nxf : fitsM (pulV (sv4 k n lv s) (q : Int) (digit x) k) (digit x) = true := next_fits hok hL' hk hqk hn6 hf
  have hcn : clashB (pulV (sv4 k n lv s) (q : Int) (digit x) k) = false := fits_noclash nxo nxf
  have hc : clashB (sv4 k n lv s) = false := fits_noclash hok hf
  have hk0n : ((k : Int) == ((pulV (sv4 k n lv s) (q : Int) (digit x) k)).wl) = true := beq_self_eq_true _
  have hqi : (IntKind.i64.wrap a).tmod (k : Int) < (k : Int) := by rw [hq]; omega
  have hqi0 : 0 ≤ (IntKind.i64.wrap a).tmod (k : Int) := by rw [hq]; omega
  have hqt : ((IntKind.i64.wrap a).tmod (k : Int)).toNat = q := by rw [hq]; rfl
  have xk : ((k : Int) != (k : Int)) = false := bne_self_eq_false _
  have hLv : isL obsL n fun i => obsL (s i) := .mk s (by omega) rfl
  have hLn : isL obsL ((pulV (sv4 k n lv s) (q : Int) (digit x) k)).n fun i => obsL (((pulV (sv4 k n lv s) (q : Int) (digit x) k)).s i) := .mk _ (by omega) rfl
  have xf1 : ∀ (m : Nat) (g : Nat → List PV), m = k → (∀ i, i < k → g i = intL (digit x i)) → fitB (sv4 k n lv s) m (fun i => intOf (g i)) = true := fun m g e h => by
    subst e
    rw [fitB_of hok h]
    unfold fitB
    rw [p1, hk0, hf]; rfl
  have xf2 : ∀ (m : Nat) (g : Nat → List PV), m = k → (∀ i, i < k → g i = intL ((digit x) i)) → fitB (pulV (sv4 k n lv s) (q : Int) (digit x) k) m (fun i => intOf (g i)) = true := fun m g e h => by
    subst e
    rw [fitB_of nxo h]
    unfold fitB
    rw [nx1, hk0n, nxf]; rfl
  have xf3 : ∀ (m : Nat) (g : Nat → List PV), m = k → (∀ i, i < k → g i = intL ((digit x) i)) → (!fitB (pulV (sv4 k n lv s) (q : Int) (digit x) k) m (fun i => intOf (g i))) = false := fun m g e h => by
    rw [xf2 m g e h]; rfl
  refine sf_gen types_ok mixed (l := [(18, V.atS [] (.bool true)), (41, V.atS [.agg (svyC (sv4 k n lv s))] (I 0)), (43, V.atS [.agg (svyC (sv4 k n lv s))] (.agg (svyC (sv4 k n lv s)))), (42, V.atS [.agg (svyC (sv4 k n lv s))] (.tup [.slice none k (fun i => intL (groupsM (sv4 k n lv s) i)), I 0])), (64, V.atS [I (k : Nat), .int .u64 x] (.slice none k fun i => intL (digit x i))), (54, fitsGW), (56, svL3S (sv4 k n lv s) (q : Nat) k (digit x) (.tup [.agg (svyC (pulV (sv4 k n lv s) (q : Int) (digit x) k)), I 0])), (50, rel2S (sv4 k n lv s) k (pulV (sv4 k n lv s) (q : Int) (digit x) k))]) ⟨sf18, (by have := d41 (sv4 k n lv s); rw [p1] at this; exact this), d43 (sv4 k n lv s) (by show n ≤ 1000; omega), (by have := d42 (sv4 k n lv s) (by show n ≤ 1000; omega); unfold groupsN at this; rw [p1] at this; exact this), d64 k (by omega) x, sf_fitsGW, sf_svL3 (by have := d56 (sv4 k n lv s) hok (q : Nat) k (digit x) (by omega); unfold pulR at this; rw [hE] at this; exact this), sf_rel2 (by have := d50 (sv4 k n lv s) (by show n ≤ 1000; omega); unfold relN2 relE2 relN relE at this; rw [p1, hc] at this; exact this) (by have := d50 (pulV (sv4 k n lv s) (q : Int) (digit x) k) nx2; unfold relN2 relE2 relN relE at this; rw [nx1, hcn] at this; exact this), trivial⟩ (es := []) trivial (its := []) trivial (fr := []) trivial [] [] false [] [] 3 Try.func17 rfl (by kernel_rfl) fun args h => ?_
  have h : args = _ := h
  subst h
  refine ⟨rfl, ?_⟩
  show evalCode _ _ _ fun o => match o with
    | .normal st | .ret st => withP _ (_ ∧ PLe _ (.bool true))
    | _ => False
  repeat' first | (refine fun h => absurd (h.symm.trans xk) (by decide)) | (refine fun h => absurd (h.symm.trans (xf1 _ _ ?_ ?_)) (by decide)) | (refine fun h => absurd (h.symm.trans (xf2 _ _ ?_ ?_)) (by decide)) | (refine fun h => absurd (h.symm.trans (xf3 _ _ ?_ ?_)) (by decide)) | (exact PLe.refl _) | (exact BLe.refl _) | (exact PLeL.nil) | (exact BLeL.nil) | (refine ⟨?_, ?_⟩) | (refine PLeL.cons ?_ ?_) | (refine BLeL.cons ?_ ?_) | (refine ple_int ?_) | (refine ple_bool ?_) | (refine ple_tt ?_) | (refine ple_ff ?_) | (refine PLe.aggL ?_) | (refine PLe.tupL ?_) | (refine BLe.cellsL ?_) | (refine halt_rng (cnt 18) k [3, 11, 14, 16, 18] [3] (fun m => [.ptr 3 0, I ((IntKind.i64.wrap a).tmod (k : Int)), .slice none k (relsG (sv4 k n lv s)), .slice none k (relsG (pulV (sv4 k n lv s) (q : Int) (digit x) k)), I (m : Nat)]) (fun m => [.cells (svyC (sv4 k n lv s))]) (fun _ => True) rfl (.mk ?_ ?_) trivial ?_) | (refine fun h => absurd h (by decide)) | (refine fun h => ?_; exfalso; simp only [p0, p2, Int.toNat_natCast, Bool.cond_true_left, Bool.cond_false_right, Bool.cond_true_right, Bool.cond_false_left, cond_true, cond_false, Bool.not_true, Bool.not_false, Bool.not_not, Bool.and_true, Bool.true_and, Bool.and_false, Bool.false_and, Bool.or_true, Bool.true_or, Bool.or_false, Bool.false_or, beq_self_eq_true, bne_self_eq_false, Bool.true_eq_false, Bool.false_eq_true, reduceCtorEq, Bool.and_self, Bool.or_self, Int.reduceBEq, Int.reduceBNe, Int.reduceNeg, decide_true, decide_false, Int.reduceLT, Int.reduceLE, Int.reduceGT] at h; done) | (refine fun (h : @Eq Bool _ _) => ?_)
  all_goals first | trivial | rfl | omega | (show (0 + k) * 8 ≤ 140737488355328; omega) | (exact Nat.zero_add k) | (intro i hi; exact absurd hi (by omega)) | (intro i hi; exact ⟨rfl, rfl⟩) | (intro i hi; rfl) | (exact hq) | (show (k : Int) ≠ 0; omega) | (show n ≤ 1000; omega) | (exact .inl rfl) | (exact .inr rfl) | (exact ⟨hLv, by omega, by omega, fun i hi => rfl⟩) | (exact hLv) | (exact hLn) | (exact nx2) | (simp only [p0, p2, Int.toNat_natCast, Bool.cond_true_left, Bool.cond_false_right, Bool.cond_true_right, Bool.cond_false_left, cond_true, cond_false, Bool.not_true, Bool.not_false, Bool.not_not, Bool.and_true, Bool.true_and, Bool.and_false, Bool.false_and, Bool.or_true, Bool.true_or, Bool.or_false, Bool.false_or, beq_self_eq_true, bne_self_eq_false, Bool.true_eq_false, Bool.false_eq_true, reduceCtorEq, Bool.and_self, Bool.or_self, Int.reduceBEq, Int.reduceBNe, Int.reduceNeg, decide_true, decide_false, Int.reduceLT, Int.reduceLE, Int.reduceGT]; done) | (show @Eq Bool _ _; simp only [p0, p2, Int.toNat_natCast, Bool.cond_true_left, Bool.cond_false_right, Bool.cond_true_right, Bool.cond_false_left, cond_true, cond_false, Bool.not_true, Bool.not_false, Bool.not_not, Bool.and_true, Bool.true_and, Bool.and_false, Bool.false_and, Bool.or_true, Bool.true_or, Bool.or_false, Bool.false_or, beq_self_eq_true, bne_self_eq_false, Bool.true_eq_false, Bool.false_eq_true, reduceCtorEq, Bool.and_self, Bool.or_self, Int.reduceBEq, Int.reduceBNe, Int.reduceNeg, decide_true, decide_false, Int.reduceLT, Int.reduceLE, Int.reduceGT]; done) | skip
  intro m hm _
  refine ⟨fun h1 => ?_, fun h1 => ?_⟩
  · have hlt : m < k := by
      have : (m : Int) < (k : Int) := of_decide_eq_true h1
      omega
    have e1 := succ_w hlt (by omega)
    have r1 : (relV (pulV (sv4 k n lv s) (q : Int) (digit x) k) ((IntKind.i64.wrap a).tmod (k : Int)).toNat m == 1) = false := by
      rw [hqt]
      exact beq_eq_false_iff_ne.2 (next_known hok hL' hk hqk hn6 hf hlt)
    clear h1
    repeat' first | (refine fun h => absurd (h.symm.trans xk) (by decide)) | (refine fun h => absurd (h.symm.trans r1) (by decide)) | (exact PLe.refl _) | (exact BLe.refl _) | (exact PLeL.nil) | (exact BLeL.nil) | (refine ⟨?_, ?_⟩) | (refine PLeL.cons ?_ ?_) | (refine BLeL.cons ?_ ?_) | (refine ple_int ?_) | (refine ple_bool ?_) | (refine ple_tt ?_) | (refine ple_ff ?_) | (refine PLe.aggL ?_) | (refine PLe.tupL ?_) | (refine BLe.cellsL ?_) | (refine halt_rng (cnt 19) k [3, 11, 14, 16, 18, 19] [3] (fun b => [.ptr 3 0, I ((IntKind.i64.wrap a).tmod (k : Int)), .slice none k (relsG (sv4 k n lv s)), .slice none k (relsG (pulV (sv4 k n lv s) (q : Int) (digit x) k)), I (m : Nat), I (b : Nat)]) (fun b => [.cells (svyC (sv4 k n lv s))]) (fun _ => True) rfl (.mk ?_ ?_) trivial ?_) | (refine fun h => absurd h (by decide)) | (refine fun h => ?_; exfalso; simp only [r1, Int.toNat_natCast, Bool.cond_true_left, Bool.cond_false_right, Bool.cond_true_right, Bool.cond_false_left, cond_true, cond_false, Bool.not_true, Bool.not_false, Bool.not_not, Bool.and_true, Bool.true_and, Bool.and_false, Bool.false_and, Bool.or_true, Bool.true_or, Bool.or_false, Bool.false_or, beq_self_eq_true, bne_self_eq_false, Bool.true_eq_false, Bool.false_eq_true, reduceCtorEq, Bool.and_self, Bool.or_self, Int.reduceBEq, Int.reduceBNe, Int.reduceNeg, decide_true, decide_false, Int.reduceLT, Int.reduceLE, Int.reduceGT] at h; done) | (refine fun (h : @Eq Bool _ _) => ?_)
    all_goals first | trivial | rfl | omega | (exact hqi) | (exact hqi0) | (show (m : Int) < ((k : Int).toNat : Int); omega) | (simp only [r1, Int.toNat_natCast, Bool.cond_true_left, Bool.cond_false_right, Bool.cond_true_right, Bool.cond_false_left, cond_true, cond_false, Bool.not_true, Bool.not_false, Bool.not_not, Bool.and_true, Bool.true_and, Bool.and_false, Bool.false_and, Bool.or_true, Bool.true_or, Bool.or_false, Bool.false_or, beq_self_eq_true, bne_self_eq_false, Bool.true_eq_false, Bool.false_eq_true, reduceCtorEq, Bool.and_self, Bool.or_self, Int.reduceBEq, Int.reduceBNe, Int.reduceNeg, decide_true, decide_false, Int.reduceLT, Int.reduceLE, Int.reduceGT]; done) | (show @Eq Bool _ _; simp only [r1, Int.toNat_natCast, Bool.cond_true_left, Bool.cond_false_right, Bool.cond_true_right, Bool.cond_false_left, cond_true, cond_false, Bool.not_true, Bool.not_false, Bool.not_not, Bool.and_true, Bool.true_and, Bool.and_false, Bool.false_and, Bool.or_true, Bool.true_or, Bool.or_false, Bool.false_or, beq_self_eq_true, bne_self_eq_false, Bool.true_eq_false, Bool.false_eq_true, reduceCtorEq, Bool.and_self, Bool.or_self, Int.reduceBEq, Int.reduceBNe, Int.reduceNeg, decide_true, decide_false, Int.reduceLT, Int.reduceLE, Int.reduceGT]; done) | skip
    intro b hb _
    refine ⟨fun h2 => ?_, fun h2 => ?_⟩
    · have hlt2 : b < k := by
        have : (b : Int) < (k : Int) := of_decide_eq_true h2
        omega
      have e2 := succ_w hlt2 (by omega)
      clear h2
      refine (Bool.eq_false_or_eq_true (relV (sv4 k n lv s) m b != 1)).elim (fun r2 => ?_) fun r2 => ?_
      · have r3 : (relV (pulV (sv4 k n lv s) (q : Int) (digit x) k) m b != relV (sv4 k n lv s) m b) = false := by
          rw [next_rel hok hL' hk hqk hn6 hf (by omega) (by omega) (by simpa using r2)]
          simp
        repeat' first | (refine fun h => absurd (h.symm.trans r2) (by decide)) | (refine fun h => absurd (h.symm.trans r3) (by decide)) | (exact PLe.refl _) | (exact BLe.refl _) | (exact PLeL.nil) | (exact BLeL.nil) | (refine ⟨?_, ?_⟩) | (refine PLeL.cons ?_ ?_) | (refine BLeL.cons ?_ ?_) | (refine ple_int ?_) | (refine ple_bool ?_) | (refine ple_tt ?_) | (refine ple_ff ?_) | (refine PLe.aggL ?_) | (refine PLe.tupL ?_) | (refine BLe.cellsL ?_) | (refine next_rng (cn := cnt 19) rfl (fun _ => rfl) hlt2 trivial (.mk ?_ ?_)) | (refine fun h => absurd h (by decide)) | (refine fun (h : @Eq Bool _ _) => ?_)
        all_goals first | trivial | rfl | omega | (exact e2) | (show (m : Int) < ((k : Int).toNat : Int); omega) | (show (b : Int) < ((k : Int).toNat : Int); omega) | skip
      · skip
        repeat' first | (refine fun h => absurd (h.symm.trans r2) (by decide)) | (exact PLe.refl _) | (exact BLe.refl _) | (exact PLeL.nil) | (exact BLeL.nil) | (refine ⟨?_, ?_⟩) | (refine PLeL.cons ?_ ?_) | (refine BLeL.cons ?_ ?_) | (refine ple_int ?_) | (refine ple_bool ?_) | (refine ple_tt ?_) | (refine ple_ff ?_) | (refine PLe.aggL ?_) | (refine PLe.tupL ?_) | (refine BLe.cellsL ?_) | (refine next_rng (cn := cnt 19) rfl (fun _ => rfl) hlt2 trivial (.mk ?_ ?_)) | (refine fun h => absurd h (by decide)) | (refine fun (h : @Eq Bool _ _) => ?_)
        all_goals first | trivial | rfl | omega | (exact e2) | (show (m : Int) < ((k : Int).toNat : Int); omega) | (show (b : Int) < ((k : Int).toNat : Int); omega) | skip
    · have hbk : b = k := by
        have : ¬ ((b : Int) < (k : Int)) := of_decide_eq_false h2
        omega
      subst hbk
      clear h2
      repeat' first | (exact PLe.refl _) | (exact BLe.refl _) | (exact PLeL.nil) | (exact BLeL.nil) | (refine ⟨?_, ?_⟩) | (refine PLeL.cons ?_ ?_) | (refine BLeL.cons ?_ ?_) | (refine ple_int ?_) | (refine ple_bool ?_) | (refine ple_tt ?_) | (refine ple_ff ?_) | (refine PLe.aggL ?_) | (refine PLe.tupL ?_) | (refine BLe.cellsL ?_) | (refine next_rng (cn := cnt 18) rfl (fun _ => rfl) hlt trivial (.mk ?_ ?_)) | (refine fun h => absurd h (by decide)) | (refine fun (h : @Eq Bool _ _) => ?_)
      all_goals first | trivial | rfl | omega | (exact e1) | skip
  · have hmk : m = k := by
      have : ¬ ((m : Int) < (k : Int)) := of_decide_eq_false h1
      omega
    subst hmk
    clear h1
    repeat' first | (exact PLe.refl _) | (exact BLe.refl _) | (exact PLeL.nil) | (exact BLeL.nil) | (refine ⟨?_, ?_⟩) | (refine PLeL.cons ?_ ?_) | (refine BLeL.cons ?_ ?_) | (refine ple_int ?_) | (refine ple_bool ?_) | (refine ple_tt ?_) | (refine ple_ff ?_) | (refine PLe.aggL ?_) | (refine PLe.tupL ?_) | (refine BLe.cellsL ?_) | (refine fun h => absurd h (by decide)) | (refine fun (h : @Eq Bool _ _) => ?_)
    all_goals first | trivial | rfl | omega | skip
end Go.Proofs.Ytnjhbmcambofgaa
