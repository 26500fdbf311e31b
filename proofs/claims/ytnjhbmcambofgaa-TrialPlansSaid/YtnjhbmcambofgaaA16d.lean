/- Layer 4: the law on plans: a division by digits. -/
import Derived.Test.YtnjhbmcambofgaaA16s
namespace Go.Proofs.Ytnjhbmcambofgaa
open Go.V
set_option linter.unusedSimpArgs false
set_option linter.unusedVariables false

set_option maxRecDepth 20000 in
set_option maxHeartbeats 2000000 in
theorem plansD (k n : Nat) (lv : Int) (s : Nat → Obs) (x a : Int) (ha : 0 ≤ a ∧ a ≤ 65535) (hok : okV (sv4 k n lv s)) (hn : n ≤ 10) (p2 : (lv == -2000000000) = false) (hc : clashB (sv4 k n lv s) = false) (hd : fitsM (sv4 k n lv s) (digit x) = true) : SF Try.prog 16 (V.atS [.agg (svyC (sv4 k n lv s)), .int .u64 x, .int .u16 a] (.bool true)) := by
  have p0 : decide ((10 : Int) < (n : Int)) = false := decide_eq_false (by omega)
  have hw := hok.wl
  have hw : 1 ≤ (k : Int) ∧ (k : Int) ≤ 10 := hw
  have p1 : svE (sv4 k n lv s) = 0 := svE_okV hok
  have hL : (lv : Int) ≠ -2000000000 := by simpa using p2
  have hL' : ¬ ((sv4 k n lv s)).lv = -2000000000 := hL
  have hk : (k : Int) = ((sv4 k n lv s)).wl := rfl
  have hk0 : ((k : Int) == ((sv4 k n lv s)).wl) = true := beq_self_eq_true _
  have hre : relE2 (sv4 k n lv s) = 0 := by
    unfold relE2 relE
    rw [p1, hc]; rfl
  have hf : fitsM (sv4 k n lv s) (digit x) = true := hd
  obtain ⟨k1, k2, k3, k4, _⟩ := plan_sem hok hk hc
  have hpk := plan_known hok hL' hk hc hf
  have hoth := other_known hok hL' hk hc
  have xg : decide ((k : Int) < ((planR (sv4 k n lv s)).k : Int)) = false := decide_eq_false (by omega)
  have cg : ∀ i, i < (planR (sv4 k n lv s)).k → (planR (sv4 k n lv s)).g i = intL (intOf ((planR (sv4 k n lv s)).g i)) ∧ 0 ≤ intOf ((planR (sv4 k n lv s)).g i) ∧ intOf ((planR (sv4 k n lv s)).g i) < k := fun i hi => by
    obtain ⟨y, e, h0, h1⟩ := k1 i hi
    rw [e]; exact ⟨rfl, h0, h1⟩
  have cf : ∀ f : Nat → List PV, (∀ i, i < k → f i = intL ((digit x) i)) → fitsM (sv4 k n lv s) (restr k fun i => intOf (f i)) = true := fun f h => by
    rw [restr_of h, fits_restr hok hk]; exact hf
  have cf2 : fitsM (sv4 k n lv s) (restr k fun i => intOf (intL (groupsM (sv4 k n lv s) i))) = true := by
    rw [restr_of (p := groupsM (sv4 k n lv s)) fun i _ => rfl, fits_restr hok hk]; exact groups_fit hok hc
  have xI : ∀ f : Nat → List PV, (∀ i, i < k → f i = intL ((digit x) i)) → knI (sv4 k n lv s) k (restr k fun i => intOf (f i)) (planR (sv4 k n lv s)).k (restr (planR (sv4 k n lv s)).k fun i => intOf ((planR (sv4 k n lv s)).g i)) = knW (sv4 k n lv s) k (restr k (digit x)) (planR (sv4 k n lv s)).k (restr (planR (sv4 k n lv s)).k fun i => intOf ((planR (sv4 k n lv s)).g i)) := fun f h => by
    rw [restr_of h]; exact hpk
  have xW : ∀ f : Nat → List PV, (∀ i, i < k → f i = intL ((digit x) i)) → knW (sv4 k n lv s) k (restr k fun i => intOf (f i)) (planR (sv4 k n lv s)).k (restr (planR (sv4 k n lv s)).k fun i => intOf ((planR (sv4 k n lv s)).g i)) = knW (sv4 k n lv s) k (restr k (digit x)) (planR (sv4 k n lv s)).k (restr (planR (sv4 k n lv s)).k fun i => intOf ((planR (sv4 k n lv s)).g i)) := fun f h => by
    rw [restr_of h]
  generalize knW (sv4 k n lv s) k (restr k (digit x)) (planR (sv4 k n lv s)).k (restr (planR (sv4 k n lv s)).k fun i => intOf ((planR (sv4 k n lv s)).g i)) = W1 at xI xW
  clear hpk
  refine sf_gen types_ok mixed (l := [(18, V.atS [] (.bool true)), (41, V.atS [.agg (svyC (sv4 k n lv s))] (I 0)), (43, V.atS [.agg (svyC (sv4 k n lv s))] (.agg (svyC (sv4 k n lv s)))), (42, V.atS [.agg (svyC (sv4 k n lv s))] (.tup [.slice none k (fun i => intL (groupsM (sv4 k n lv s) i)), I 0])), (51, V.atS [.agg (svyC (sv4 k n lv s))] (.tup [.slice none (planR (sv4 k n lv s)).k (planR (sv4 k n lv s)).g, I 0])), (64, V.atS [I (k : Nat), .int .u64 x] (.slice none k fun i => intL (digit x i))), (54, svL2S (sv4 k n lv s) k (digit x) (.bool true)), (65, knownG (sv4 k n lv s) k)]) ⟨sf18, (by have := d41 (sv4 k n lv s); rw [p1] at this; exact this), d43 (sv4 k n lv s) (by show n ≤ 1000; omega), (by have := d42 (sv4 k n lv s) (by show n ≤ 1000; omega); unfold groupsN at this; rw [p1] at this; exact this), (by have := d51 (sv4 k n lv s) (by show n ≤ 1000; omega); rw [hre] at this; exact this), d64 k (by omega) x, sf_svL2 (by have := d54 (sv4 k n lv s) (by show n ≤ 1000; omega) k (digit x) (by omega); unfold fitB at this; rw [p1, hk0, hd] at this; exact this), sf_known hok hL' hk, trivial⟩ (es := []) trivial (its := []) trivial (fr := []) trivial [] [] false [] [] 3 Try.func16 rfl (by kernel_rfl) fun args h => ?_
  have h : args = _ := h
  subst h
  refine ⟨rfl, ?_⟩
  show evalCode _ _ _ fun o => match o with
    | .normal st | .ret st => withP _ (_ ∧ PLe _ (.bool true))
    | _ => False
  refine (Bool.eq_false_or_eq_true W1).elim (fun hW => ?_) fun hW => ?_
  · subst hW
    have xW1 := fun (f : Nat → List PV) (h : ∀ i, i < k → f i = intL ((digit x) i)) => (xW f h)
    have xI1 := fun (f : Nat → List PV) (h : ∀ i, i < k → f i = intL ((digit x) i)) => (congrArg Bool.not (xI f h) : (!_) = false)
    repeat' first | (refine fun h => absurd (h.symm.trans xg) (by decide)) | (refine fun h => absurd (h.symm.trans (xW1 _ ?_)) (by decide)) | (refine fun h => absurd (h.symm.trans (xI1 _ ?_)) (by decide)) | (exact PLe.refl _) | (exact BLe.refl _) | (exact PLeL.nil) | (exact BLeL.nil) | (refine ⟨?_, ?_⟩) | (refine PLeL.cons ?_ ?_) | (refine BLeL.cons ?_ ?_) | (refine ple_int ?_) | (refine ple_bool ?_) | (refine ple_tt ?_) | (refine ple_ff ?_) | (refine PLe.aggL ?_) | (refine PLe.tupL ?_) | (refine BLe.cellsL ?_) | (refine halt_rng (cnt 16) k [2, 3, 7, 8, 10, 15, 16] [3, 7, 15] (fun i => [.int .u16 a, .ptr 3 0, .ptr 7 0, .slice none (planR (sv4 k n lv s)).k (planR (sv4 k n lv s)).g, .slice none k (fun i => intL (groupsM (sv4 k n lv s) i)), .slice (some 15) (olist (btA a) i).length (fun j => intL ((olist (btA a) i).getD j 0)), I (i : Nat)]) (fun i => [.cells (svyC (sv4 k n lv s)), .cells (svyC (sv4 k n lv s)), .grow (olist (btA a) i).length 3 1]) (fun _ => True) rfl (.mk ?_ ?_) trivial ?_) | (refine fun h => absurd h (by decide)) | (refine fun h => ?_; exfalso; simp only [p0, p2, Int.toNat_natCast, Bool.cond_true_left, Bool.cond_false_right, Bool.cond_true_right, Bool.cond_false_left, cond_true, cond_false, Bool.not_true, Bool.not_false, Bool.not_not, Bool.and_true, Bool.true_and, Bool.and_false, Bool.false_and, Bool.or_true, Bool.true_or, Bool.or_false, Bool.false_or, beq_self_eq_true, bne_self_eq_false, Bool.true_eq_false, Bool.false_eq_true, reduceCtorEq, Bool.and_self, Bool.or_self, Int.reduceBEq, Int.reduceBNe, Int.reduceNeg, decide_true, decide_false, Int.reduceLT, Int.reduceLE, Int.reduceGT] at h; done) | (refine fun (h : @Eq Bool _ _) => ?_)
    all_goals first | trivial | rfl | omega | (show (0 + k) * 8 ≤ 140737488355328; omega) | (exact Nat.zero_add k) | (intro i hi; exact absurd hi (by omega)) | (intro i hi; exact ⟨rfl, rfl⟩) | (intro i hi; rfl) | (show n ≤ 1000; omega) | (exact ple_slice rfl fun i hi => absurd hi (Nat.not_lt_zero i)) | (exact cg) | (exact cf _ (fun i hi => rfl)) | (exact cf2) | (simp only [p0, p2, Int.toNat_natCast, Bool.cond_true_left, Bool.cond_false_right, Bool.cond_true_right, Bool.cond_false_left, cond_true, cond_false, Bool.not_true, Bool.not_false, Bool.not_not, Bool.and_true, Bool.true_and, Bool.and_false, Bool.false_and, Bool.or_true, Bool.true_or, Bool.or_false, Bool.false_or, beq_self_eq_true, bne_self_eq_false, Bool.true_eq_false, Bool.false_eq_true, reduceCtorEq, Bool.and_self, Bool.or_self, Int.reduceBEq, Int.reduceBNe, Int.reduceNeg, decide_true, decide_false, Int.reduceLT, Int.reduceLE, Int.reduceGT]; done) | (show @Eq Bool _ _; simp only [p0, p2, Int.toNat_natCast, Bool.cond_true_left, Bool.cond_false_right, Bool.cond_true_right, Bool.cond_false_left, cond_true, cond_false, Bool.not_true, Bool.not_false, Bool.not_not, Bool.and_true, Bool.true_and, Bool.and_false, Bool.false_and, Bool.or_true, Bool.true_or, Bool.or_false, Bool.false_or, beq_self_eq_true, bne_self_eq_false, Bool.true_eq_false, Bool.false_eq_true, reduceCtorEq, Bool.and_self, Bool.or_self, Int.reduceBEq, Int.reduceBNe, Int.reduceNeg, decide_true, decide_false, Int.reduceLT, Int.reduceLE, Int.reduceGT]; done) | skip
    intro i hi _
    refine ⟨fun h1 => ?_, fun h1 => ?_⟩
    · have hlt : i < k := by
        have : (i : Int) < (k : Int) := of_decide_eq_true h1
        omega
      have e1 := succ_w hlt (by omega)
      clear h1
      have hln := (olist_rise (btA a) i).2
      refine (Bool.eq_false_or_eq_true (btA a i)).elim (fun hb => ?_) fun hb => ?_
      · have eg := olist_len hb
        repeat' first | (refine fun h => absurd (h.symm.trans hb) (by decide)) | (exact PLe.refl _) | (exact BLe.refl _) | (exact PLeL.nil) | (exact BLeL.nil) | (refine ⟨?_, ?_⟩) | (refine PLeL.cons ?_ ?_) | (refine BLeL.cons ?_ ?_) | (refine ple_int ?_) | (refine ple_bool ?_) | (refine ple_tt ?_) | (refine ple_ff ?_) | (refine PLe.aggL ?_) | (refine PLe.tupL ?_) | (refine BLe.cellsL ?_) | (refine next_rng (cn := cnt 16) rfl (fun _ => rfl) hlt trivial (.mk ?_ ?_)) | (refine fun h => absurd h (by decide)) | (refine fun (h : @Eq Bool _ _) => ?_)
        all_goals first | trivial | rfl | omega | (exact e1) | (exact u64_nonneg _) | (show (olist (btA a) i).length + 1 < 2147483648; omega) | (show ((olist (btA a) i).length + 1) * 8 ≤ 140737488355328; omega) | (exact int_len) | (intro y hy; exact ⟨rfl, rfl⟩) | (intro y hy; obtain rfl : y = 0 := (by omega); exact ⟨rfl, rfl⟩) | (show PLe (.slice (some 15) ((olist (btA a) i).length + 1) _) _; refine olist_grow hb (fun j hj => ?_) ?_ <;> first | (rw [blt_t hj]; rfl) | (rw [blt_f (Nat.lt_irrefl _), Nat.sub_self]; rfl)) | (exact ble_grow (by rw [eg])) | skip
      · have es := olist_f hb
        repeat' first | (refine fun h => absurd (h.symm.trans hb) (by decide)) | (exact PLe.refl _) | (exact BLe.refl _) | (exact PLeL.nil) | (exact BLeL.nil) | (refine ⟨?_, ?_⟩) | (refine PLeL.cons ?_ ?_) | (refine BLeL.cons ?_ ?_) | (refine ple_int ?_) | (refine ple_bool ?_) | (refine ple_tt ?_) | (refine ple_ff ?_) | (refine PLe.aggL ?_) | (refine PLe.tupL ?_) | (refine BLe.cellsL ?_) | (refine next_rng (cn := cnt 16) rfl (fun _ => rfl) hlt trivial (.mk ?_ ?_)) | (refine fun h => absurd h (by decide)) | (refine fun (h : @Eq Bool _ _) => ?_)
        all_goals first | trivial | rfl | omega | (exact e1) | (exact u64_nonneg _) | (show (olist (btA a) i).length + 1 < 2147483648; omega) | (show ((olist (btA a) i).length + 1) * 8 ≤ 140737488355328; omega) | (exact int_len) | (intro y hy; exact ⟨rfl, rfl⟩) | (intro y hy; obtain rfl : y = 0 := (by omega); exact ⟨rfl, rfl⟩) | (exact ple_slice (by rw [es]) fun j hj => by rw [es]) | (exact ble_grow (by rw [es])) | skip
    · have hik : i = k := by
        have : ¬ ((i : Int) < (k : Int)) := of_decide_eq_false h1
        omega
      subst hik
      clear h1
      have ho := hoth (btA a)
      have hln := (olist_rise (btA a) i).2
      have hmem : ∀ j, j < (olist (btA a) i).length → intL ((olist (btA a) i).getD j 0) = intL (intOf (intL ((olist (btA a) i).getD j 0))) ∧ 0 ≤ intOf (intL ((olist (btA a) i).getD j 0)) ∧ intOf (intL ((olist (btA a) i).getD j 0)) < i := fun j hj => ⟨rfl, rise_mem (olist_rise (btA a) i).1 (getD_mem hj)⟩
      have eP : (restr i fun j => intOf (intL (groupsM (sv4 i n lv s) j))) = restr i (groupsM (sv4 i n lv s)) := restr_of fun j _ => rfl
      rw [← eP] at ho
      refine (Bool.eq_false_or_eq_true (decide (((planR (sv4 i n lv s)).k : Int) ≤ ((olist (btA a) i).length : Int)))).elim (fun z1 => ?_) fun z1 => ?_
      · skip
        repeat' first | (refine fun h => absurd (h.symm.trans z1) (by decide)) | (exact PLe.refl _) | (exact BLe.refl _) | (exact PLeL.nil) | (exact BLeL.nil) | (refine ⟨?_, ?_⟩) | (refine PLeL.cons ?_ ?_) | (refine BLeL.cons ?_ ?_) | (refine ple_int ?_) | (refine ple_bool ?_) | (refine ple_tt ?_) | (refine ple_ff ?_) | (refine PLe.aggL ?_) | (refine PLe.tupL ?_) | (refine BLe.cellsL ?_) | (refine fun h => absurd h (by decide)) | (refine fun (h : @Eq Bool _ _) => ?_)
        all_goals first | trivial | rfl | omega | (exact hmem) | (exact cf2) | (intro y hy; rfl) | (show (olist (btA a) i).length ≤ 1000; omega) | (intro y hy; exact ⟨rfl, rfl⟩) | skip
      · have z2 : knI (sv4 i n lv s) i (restr i fun j => intOf (intL (groupsM (sv4 i n lv s) j))) (olist (btA a) i).length (restr (olist (btA a) i).length fun j => intOf (intL ((olist (btA a) i).getD j 0))) = false := by
          cases hz : knI (sv4 i n lv s) i (restr i fun j => intOf (intL (groupsM (sv4 i n lv s) j))) (olist (btA a) i).length (restr (olist (btA a) i).length fun j => intOf (intL ((olist (btA a) i).getD j 0))) with
          | false => rfl
          | true => exact absurd (ho hz) (by have := of_decide_eq_false z1; omega)
        have z3 : (!knI (sv4 i n lv s) i (restr i fun j => intOf (intL (groupsM (sv4 i n lv s) j))) (olist (btA a) i).length (restr (olist (btA a) i).length fun j => intOf (intL ((olist (btA a) i).getD j 0)))) = true := by rw [z2]; rfl
        repeat' first | (refine fun h => absurd (h.symm.trans z1) (by decide)) | (refine fun h => absurd (h.symm.trans z3) (by decide)) | (exact PLe.refl _) | (exact BLe.refl _) | (exact PLeL.nil) | (exact BLeL.nil) | (refine ⟨?_, ?_⟩) | (refine PLeL.cons ?_ ?_) | (refine BLeL.cons ?_ ?_) | (refine ple_int ?_) | (refine ple_bool ?_) | (refine ple_tt ?_) | (refine ple_ff ?_) | (refine PLe.aggL ?_) | (refine PLe.tupL ?_) | (refine BLe.cellsL ?_) | (refine fun h => absurd h (by decide)) | (refine fun (h : @Eq Bool _ _) => ?_)
        all_goals first | trivial | rfl | omega | (exact hmem) | (exact cf2) | (intro y hy; rfl) | (show (olist (btA a) i).length ≤ 1000; omega) | (intro y hy; exact ⟨rfl, rfl⟩) | (exact z3) | skip
  · subst hW
    have xW1 := fun (f : Nat → List PV) (h : ∀ i, i < k → f i = intL ((digit x) i)) => (xW f h)
    have xI1 := fun (f : Nat → List PV) (h : ∀ i, i < k → f i = intL ((digit x) i)) => (congrArg Bool.not (xI f h) : (!_) = true)
    repeat' first | (refine fun h => absurd (h.symm.trans xg) (by decide)) | (refine fun h => absurd (h.symm.trans (xW1 _ ?_)) (by decide)) | (refine fun h => absurd (h.symm.trans (xI1 _ ?_)) (by decide)) | (exact PLe.refl _) | (exact BLe.refl _) | (exact PLeL.nil) | (exact BLeL.nil) | (refine ⟨?_, ?_⟩) | (refine PLeL.cons ?_ ?_) | (refine BLeL.cons ?_ ?_) | (refine ple_int ?_) | (refine ple_bool ?_) | (refine ple_tt ?_) | (refine ple_ff ?_) | (refine PLe.aggL ?_) | (refine PLe.tupL ?_) | (refine BLe.cellsL ?_) | (refine halt_rng (cnt 16) k [2, 3, 7, 8, 10, 15, 16] [3, 7, 15] (fun i => [.int .u16 a, .ptr 3 0, .ptr 7 0, .slice none (planR (sv4 k n lv s)).k (planR (sv4 k n lv s)).g, .slice none k (fun i => intL (groupsM (sv4 k n lv s) i)), .slice (some 15) (olist (btA a) i).length (fun j => intL ((olist (btA a) i).getD j 0)), I (i : Nat)]) (fun i => [.cells (svyC (sv4 k n lv s)), .cells (svyC (sv4 k n lv s)), .grow (olist (btA a) i).length 3 1]) (fun _ => True) rfl (.mk ?_ ?_) trivial ?_) | (refine fun h => absurd h (by decide)) | (refine fun h => ?_; exfalso; simp only [p0, p2, Int.toNat_natCast, Bool.cond_true_left, Bool.cond_false_right, Bool.cond_true_right, Bool.cond_false_left, cond_true, cond_false, Bool.not_true, Bool.not_false, Bool.not_not, Bool.and_true, Bool.true_and, Bool.and_false, Bool.false_and, Bool.or_true, Bool.true_or, Bool.or_false, Bool.false_or, beq_self_eq_true, bne_self_eq_false, Bool.true_eq_false, Bool.false_eq_true, reduceCtorEq, Bool.and_self, Bool.or_self, Int.reduceBEq, Int.reduceBNe, Int.reduceNeg, decide_true, decide_false, Int.reduceLT, Int.reduceLE, Int.reduceGT] at h; done) | (refine fun (h : @Eq Bool _ _) => ?_)
    all_goals first | trivial | rfl | omega | (show (0 + k) * 8 ≤ 140737488355328; omega) | (exact Nat.zero_add k) | (intro i hi; exact absurd hi (by omega)) | (intro i hi; exact ⟨rfl, rfl⟩) | (intro i hi; rfl) | (show n ≤ 1000; omega) | (exact ple_slice rfl fun i hi => absurd hi (Nat.not_lt_zero i)) | (exact cg) | (exact cf _ (fun i hi => rfl)) | (exact cf2) | (simp only [p0, p2, Int.toNat_natCast, Bool.cond_true_left, Bool.cond_false_right, Bool.cond_true_right, Bool.cond_false_left, cond_true, cond_false, Bool.not_true, Bool.not_false, Bool.not_not, Bool.and_true, Bool.true_and, Bool.and_false, Bool.false_and, Bool.or_true, Bool.true_or, Bool.or_false, Bool.false_or, beq_self_eq_true, bne_self_eq_false, Bool.true_eq_false, Bool.false_eq_true, reduceCtorEq, Bool.and_self, Bool.or_self, Int.reduceBEq, Int.reduceBNe, Int.reduceNeg, decide_true, decide_false, Int.reduceLT, Int.reduceLE, Int.reduceGT]; done) | (show @Eq Bool _ _; simp only [p0, p2, Int.toNat_natCast, Bool.cond_true_left, Bool.cond_false_right, Bool.cond_true_right, Bool.cond_false_left, cond_true, cond_false, Bool.not_true, Bool.not_false, Bool.not_not, Bool.and_true, Bool.true_and, Bool.and_false, Bool.false_and, Bool.or_true, Bool.true_or, Bool.or_false, Bool.false_or, beq_self_eq_true, bne_self_eq_false, Bool.true_eq_false, Bool.false_eq_true, reduceCtorEq, Bool.and_self, Bool.or_self, Int.reduceBEq, Int.reduceBNe, Int.reduceNeg, decide_true, decide_false, Int.reduceLT, Int.reduceLE, Int.reduceGT]; done) | skip
    intro i hi _
    refine ⟨fun h1 => ?_, fun h1 => ?_⟩
    · have hlt : i < k := by
        have : (i : Int) < (k : Int) := of_decide_eq_true h1
        omega
      have e1 := succ_w hlt (by omega)
      clear h1
      have hln := (olist_rise (btA a) i).2
      refine (Bool.eq_false_or_eq_true (btA a i)).elim (fun hb => ?_) fun hb => ?_
      · have eg := olist_len hb
        repeat' first | (refine fun h => absurd (h.symm.trans hb) (by decide)) | (exact PLe.refl _) | (exact BLe.refl _) | (exact PLeL.nil) | (exact BLeL.nil) | (refine ⟨?_, ?_⟩) | (refine PLeL.cons ?_ ?_) | (refine BLeL.cons ?_ ?_) | (refine ple_int ?_) | (refine ple_bool ?_) | (refine ple_tt ?_) | (refine ple_ff ?_) | (refine PLe.aggL ?_) | (refine PLe.tupL ?_) | (refine BLe.cellsL ?_) | (refine next_rng (cn := cnt 16) rfl (fun _ => rfl) hlt trivial (.mk ?_ ?_)) | (refine fun h => absurd h (by decide)) | (refine fun (h : @Eq Bool _ _) => ?_)
        all_goals first | trivial | rfl | omega | (exact e1) | (exact u64_nonneg _) | (show (olist (btA a) i).length + 1 < 2147483648; omega) | (show ((olist (btA a) i).length + 1) * 8 ≤ 140737488355328; omega) | (exact int_len) | (intro y hy; exact ⟨rfl, rfl⟩) | (intro y hy; obtain rfl : y = 0 := (by omega); exact ⟨rfl, rfl⟩) | (show PLe (.slice (some 15) ((olist (btA a) i).length + 1) _) _; refine olist_grow hb (fun j hj => ?_) ?_ <;> first | (rw [blt_t hj]; rfl) | (rw [blt_f (Nat.lt_irrefl _), Nat.sub_self]; rfl)) | (exact ble_grow (by rw [eg])) | skip
      · have es := olist_f hb
        repeat' first | (refine fun h => absurd (h.symm.trans hb) (by decide)) | (exact PLe.refl _) | (exact BLe.refl _) | (exact PLeL.nil) | (exact BLeL.nil) | (refine ⟨?_, ?_⟩) | (refine PLeL.cons ?_ ?_) | (refine BLeL.cons ?_ ?_) | (refine ple_int ?_) | (refine ple_bool ?_) | (refine ple_tt ?_) | (refine ple_ff ?_) | (refine PLe.aggL ?_) | (refine PLe.tupL ?_) | (refine BLe.cellsL ?_) | (refine next_rng (cn := cnt 16) rfl (fun _ => rfl) hlt trivial (.mk ?_ ?_)) | (refine fun h => absurd h (by decide)) | (refine fun (h : @Eq Bool _ _) => ?_)
        all_goals first | trivial | rfl | omega | (exact e1) | (exact u64_nonneg _) | (show (olist (btA a) i).length + 1 < 2147483648; omega) | (show ((olist (btA a) i).length + 1) * 8 ≤ 140737488355328; omega) | (exact int_len) | (intro y hy; exact ⟨rfl, rfl⟩) | (intro y hy; obtain rfl : y = 0 := (by omega); exact ⟨rfl, rfl⟩) | (exact ple_slice (by rw [es]) fun j hj => by rw [es]) | (exact ble_grow (by rw [es])) | skip
    · have hik : i = k := by
        have : ¬ ((i : Int) < (k : Int)) := of_decide_eq_false h1
        omega
      subst hik
      clear h1
      have ho := hoth (btA a)
      have hln := (olist_rise (btA a) i).2
      have hmem : ∀ j, j < (olist (btA a) i).length → intL ((olist (btA a) i).getD j 0) = intL (intOf (intL ((olist (btA a) i).getD j 0))) ∧ 0 ≤ intOf (intL ((olist (btA a) i).getD j 0)) ∧ intOf (intL ((olist (btA a) i).getD j 0)) < i := fun j hj => ⟨rfl, rise_mem (olist_rise (btA a) i).1 (getD_mem hj)⟩
      have eP : (restr i fun j => intOf (intL (groupsM (sv4 i n lv s) j))) = restr i (groupsM (sv4 i n lv s)) := restr_of fun j _ => rfl
      rw [← eP] at ho
      refine (Bool.eq_false_or_eq_true (decide (((planR (sv4 i n lv s)).k : Int) ≤ ((olist (btA a) i).length : Int)))).elim (fun z1 => ?_) fun z1 => ?_
      · skip
        repeat' first | (refine fun h => absurd (h.symm.trans z1) (by decide)) | (exact PLe.refl _) | (exact BLe.refl _) | (exact PLeL.nil) | (exact BLeL.nil) | (refine ⟨?_, ?_⟩) | (refine PLeL.cons ?_ ?_) | (refine BLeL.cons ?_ ?_) | (refine ple_int ?_) | (refine ple_bool ?_) | (refine ple_tt ?_) | (refine ple_ff ?_) | (refine PLe.aggL ?_) | (refine PLe.tupL ?_) | (refine BLe.cellsL ?_) | (refine fun h => absurd h (by decide)) | (refine fun (h : @Eq Bool _ _) => ?_)
        all_goals first | trivial | rfl | omega | (exact hmem) | (exact cf2) | (intro y hy; rfl) | (show (olist (btA a) i).length ≤ 1000; omega) | (intro y hy; exact ⟨rfl, rfl⟩) | skip
      · have z2 : knI (sv4 i n lv s) i (restr i fun j => intOf (intL (groupsM (sv4 i n lv s) j))) (olist (btA a) i).length (restr (olist (btA a) i).length fun j => intOf (intL ((olist (btA a) i).getD j 0))) = false := by
          cases hz : knI (sv4 i n lv s) i (restr i fun j => intOf (intL (groupsM (sv4 i n lv s) j))) (olist (btA a) i).length (restr (olist (btA a) i).length fun j => intOf (intL ((olist (btA a) i).getD j 0))) with
          | false => rfl
          | true => exact absurd (ho hz) (by have := of_decide_eq_false z1; omega)
        have z3 : (!knI (sv4 i n lv s) i (restr i fun j => intOf (intL (groupsM (sv4 i n lv s) j))) (olist (btA a) i).length (restr (olist (btA a) i).length fun j => intOf (intL ((olist (btA a) i).getD j 0)))) = true := by rw [z2]; rfl
        repeat' first | (refine fun h => absurd (h.symm.trans z1) (by decide)) | (refine fun h => absurd (h.symm.trans z3) (by decide)) | (exact PLe.refl _) | (exact BLe.refl _) | (exact PLeL.nil) | (exact BLeL.nil) | (refine ⟨?_, ?_⟩) | (refine PLeL.cons ?_ ?_) | (refine BLeL.cons ?_ ?_) | (refine ple_int ?_) | (refine ple_bool ?_) | (refine ple_tt ?_) | (refine ple_ff ?_) | (refine PLe.aggL ?_) | (refine PLe.tupL ?_) | (refine BLe.cellsL ?_) | (refine fun h => absurd h (by decide)) | (refine fun (h : @Eq Bool _ _) => ?_)
        all_goals first | trivial | rfl | omega | (exact hmem) | (exact cf2) | (intro y hy; rfl) | (show (olist (btA a) i).length ≤ 1000; omega) | (intro y hy; exact ⟨rfl, rfl⟩) | (exact z3) | skip
end Go.Proofs.Ytnjhbmcambofgaa
