/- Layer 4: the law on relations and plans. -/
import Derived.Test.YtnjhbmcambofgaaS64
import Derived.Test.YtnjhbmcambofgaaS46
import Derived.Test.YtnjhbmcambofgaaS32
import Derived.Test.YtnjhbmcambofgaaS52
namespace Go.Proofs.Ytnjhbmcambofgaa
open Go.V
set_option linter.unusedSimpArgs false
set_option linter.unusedVariables false

theorem d50 (v : Svy) (hn : v.n ≤ 1000) : SF Try.prog 50 (V.atS [.agg (svyC v)] (.tup [.slice none (relN2 v) (relsG v), I (relE2 v)])) := sf_at sf50 (show isL obsL v.n _ from isLo v hn) rfl
theorem d51 (v : Svy) (hn : v.n ≤ 1000) : SF Try.prog 51 (V.atS [.agg (svyC v)] (.tup [.slice none (planR v).k (planR v).g, I (relE2 v)])) := sf_at sf51 (show isL obsL v.n _ from isLo v hn) rfl
def intsW9 : V.Spec
  | [.slice none n g, .slice none m h] => (some (n ≤ 1000 ∧ m ≤ 1000 ∧ (∀ i, i < n → g i = intL (intOf (g i))) ∧ ∀ i, i < m → h i = intL (intOf (h i))), .bool (sameI n m g h))
  | _ => bad
theorem sf46w9 : SF Try.prog 46 intsW9 := by
  refine sf_args sf46 fun args h => ?_
  unfold intsW9 at h ⊢
  split at h
  · rename_i n g m h0
    obtain ⟨h1, h2, h3, h4⟩ : n ≤ 1000 ∧ m ≤ 1000 ∧ (∀ i, i < n → g i = intL (intOf (g i))) ∧ ∀ i, i < m → h0 i = intL (intOf (h0 i)) := h
    refine ⟨[.slice none n fun i => intL (intOf (g i)), .slice none m fun i => intL (intOf (h0 i))], rfl, fun i hi => ?_, ⟨.mk _ (by omega) rfl, .mk _ (by omega) rfl⟩, rfl⟩
    match i, hi with
    | 0, _ => exact .slice _ _ _ _ h3
    | 1, _ => exact .slice _ _ _ _ h4
  · exact h.elim
set_option maxRecDepth 20000 in
set_option maxHeartbeats 2000000 in
theorem relsBig (v : Svy) (hn : 70 < v.n) : SF Try.prog 9 (V.atS [.agg (svyC v)] (.bool true)) := by
  have p0 : decide ((70 : Int) < (v.n : Int)) = true := decide_eq_true (by omega)
  refine sf_gen types_ok mixed (l := [(18, V.atS [] (.bool true))]) ⟨sf18, trivial⟩ (es := []) trivial (its := []) trivial (fr := []) trivial [] [] false [] [] 1 Try.func9 rfl (by kernel_rfl) fun args h => ?_
  have h : args = _ := h
  subst h
  refine ⟨rfl, ?_⟩
  show evalCode _ _ _ fun o => match o with
    | .normal st | .ret st => withP _ (_ ∧ PLe _ (.bool true))
    | _ => False
  repeat' first | (exact PLe.refl _) | (exact BLe.refl _) | (exact PLeL.nil) | (exact BLeL.nil) | (refine ⟨?_, ?_⟩) | (refine PLeL.cons ?_ ?_) | (refine BLeL.cons ?_ ?_) | (refine ple_int ?_) | (refine ple_bool ?_) | (refine ple_tt ?_) | (refine ple_ff ?_) | (refine PLe.aggL ?_) | (refine PLe.tupL ?_) | (refine BLe.cellsL ?_) | (refine fun h => absurd h (by decide)) | (refine fun h => ?_; exfalso; simp only [p0, Int.toNat_natCast, Bool.cond_true_left, Bool.cond_false_right, Bool.cond_true_right, Bool.cond_false_left, cond_true, cond_false, Bool.not_true, Bool.not_false, Bool.not_not, Bool.and_true, Bool.true_and, Bool.and_false, Bool.false_and, Bool.or_true, Bool.true_or, Bool.or_false, Bool.false_or, beq_self_eq_true, bne_self_eq_false, Bool.true_eq_false, Bool.false_eq_true, reduceCtorEq, Bool.and_self, Bool.or_self, Int.reduceBEq, Int.reduceBNe, Int.reduceNeg, decide_true, decide_false, Int.reduceLT, Int.reduceLE, Int.reduceGT] at h; done) | (refine fun (h : @Eq Bool _ _) => ?_)
  all_goals first | trivial | rfl | omega | (simp only [p0, Int.toNat_natCast, Bool.cond_true_left, Bool.cond_false_right, Bool.cond_true_right, Bool.cond_false_left, cond_true, cond_false, Bool.not_true, Bool.not_false, Bool.not_not, Bool.and_true, Bool.true_and, Bool.and_false, Bool.false_and, Bool.or_true, Bool.true_or, Bool.or_false, Bool.false_or, beq_self_eq_true, bne_self_eq_false, Bool.true_eq_false, Bool.false_eq_true, reduceCtorEq, Bool.and_self, Bool.or_self, Int.reduceBEq, Int.reduceBNe, Int.reduceNeg, decide_true, decide_false, Int.reduceLT, Int.reduceLE, Int.reduceGT]; done) | (show @Eq Bool _ _; simp only [p0, Int.toNat_natCast, Bool.cond_true_left, Bool.cond_false_right, Bool.cond_true_right, Bool.cond_false_left, cond_true, cond_false, Bool.not_true, Bool.not_false, Bool.not_not, Bool.and_true, Bool.true_and, Bool.and_false, Bool.false_and, Bool.or_true, Bool.true_or, Bool.or_false, Bool.false_or, beq_self_eq_true, bne_self_eq_false, Bool.true_eq_false, Bool.false_eq_true, reduceCtorEq, Bool.and_self, Bool.or_self, Int.reduceBEq, Int.reduceBNe, Int.reduceNeg, decide_true, decide_false, Int.reduceLT, Int.reduceLE, Int.reduceGT]; done) | skip
set_option maxRecDepth 20000 in
set_option maxHeartbeats 2000000 in
theorem relsE (v : Svy) (hn : v.n ≤ 70) (p1 : (svE v != 0) = true) : SF Try.prog 9 (V.atS [.agg (svyC v)] (.bool true)) := by
  have p0 : decide ((70 : Int) < (v.n : Int)) = false := decide_eq_false (by omega)
  have p2 : (svE v == 0) = false := by simpa using p1
  refine sf_gen types_ok mixed (l := [(18, V.atS [] (.bool true)), (41, V.atS [.agg (svyC v)] (I (svE v))), (43, V.atS [.agg (svyC v)] (.agg (svyC v))), (50, V.atS [.agg (svyC v)] (.tup [.slice none 0 (relsG v), I (svE v)])), (51, V.atS [.agg (svyC v)] (.tup [.slice none 0 (fun _ => []), I (svE v)]))]) ⟨sf18, d41 v, d43 v (by omega), (by have := d50 v (by omega); unfold relN2 relE2 at this; rw [p1] at this; exact this), (by have := d51 v (by omega); unfold planR relE2 at this; rw [p1] at this; simp only [cond_true, p1] at this; exact this), trivial⟩ (es := []) trivial (its := []) trivial (fr := []) trivial [] [] false [] [] 1 Try.func9 rfl (by kernel_rfl) fun args h => ?_
  have h : args = _ := h
  subst h
  refine ⟨rfl, ?_⟩
  show evalCode _ _ _ fun o => match o with
    | .normal st | .ret st => withP _ (_ ∧ PLe _ (.bool true))
    | _ => False
  repeat' first | (exact PLe.refl _) | (exact BLe.refl _) | (exact PLeL.nil) | (exact BLeL.nil) | (refine ⟨?_, ?_⟩) | (refine PLeL.cons ?_ ?_) | (refine BLeL.cons ?_ ?_) | (refine ple_int ?_) | (refine ple_bool ?_) | (refine ple_tt ?_) | (refine ple_ff ?_) | (refine PLe.aggL ?_) | (refine PLe.tupL ?_) | (refine BLe.cellsL ?_) | (refine fun h => absurd h (by decide)) | (refine fun h => ?_; exfalso; simp only [p0, p1, p2, Int.toNat_natCast, Bool.cond_true_left, Bool.cond_false_right, Bool.cond_true_right, Bool.cond_false_left, cond_true, cond_false, Bool.not_true, Bool.not_false, Bool.not_not, Bool.and_true, Bool.true_and, Bool.and_false, Bool.false_and, Bool.or_true, Bool.true_or, Bool.or_false, Bool.false_or, beq_self_eq_true, bne_self_eq_false, Bool.true_eq_false, Bool.false_eq_true, reduceCtorEq, Bool.and_self, Bool.or_self, Int.reduceBEq, Int.reduceBNe, Int.reduceNeg, decide_true, decide_false, Int.reduceLT, Int.reduceLE, Int.reduceGT] at h; done) | (refine fun (h : @Eq Bool _ _) => ?_)
  all_goals first | trivial | rfl | omega | (simp only [p0, p1, p2, Int.toNat_natCast, Bool.cond_true_left, Bool.cond_false_right, Bool.cond_true_right, Bool.cond_false_left, cond_true, cond_false, Bool.not_true, Bool.not_false, Bool.not_not, Bool.and_true, Bool.true_and, Bool.and_false, Bool.false_and, Bool.or_true, Bool.true_or, Bool.or_false, Bool.false_or, beq_self_eq_true, bne_self_eq_false, Bool.true_eq_false, Bool.false_eq_true, reduceCtorEq, Bool.and_self, Bool.or_self, Int.reduceBEq, Int.reduceBNe, Int.reduceNeg, decide_true, decide_false, Int.reduceLT, Int.reduceLE, Int.reduceGT]; done) | (show @Eq Bool _ _; simp only [p0, p1, p2, Int.toNat_natCast, Bool.cond_true_left, Bool.cond_false_right, Bool.cond_true_right, Bool.cond_false_left, cond_true, cond_false, Bool.not_true, Bool.not_false, Bool.not_not, Bool.and_true, Bool.true_and, Bool.and_false, Bool.false_and, Bool.or_true, Bool.true_or, Bool.or_false, Bool.false_or, beq_self_eq_true, bne_self_eq_false, Bool.true_eq_false, Bool.false_eq_true, reduceCtorEq, Bool.and_self, Bool.or_self, Int.reduceBEq, Int.reduceBNe, Int.reduceNeg, decide_true, decide_false, Int.reduceLT, Int.reduceLE, Int.reduceGT]; done) | skip
set_option maxRecDepth 20000 in
set_option maxHeartbeats 2000000 in
theorem relsC (v : Svy) (hn : v.n ≤ 70) (hok : okV v) (k : Nat) (hk : (k : Int) = v.wl) (hc : clashB v = true) : SF Try.prog 9 (V.atS [.agg (svyC v)] (.bool true)) := by
  have p0 : decide ((70 : Int) < (v.n : Int)) = false := decide_eq_false (by omega)
  have hw := hok.wl
  have p1 : svE v = 0 := svE_okV hok
  have q0 : decide (0 ≤ clM v) = true := (clash_iff hok).symm.trans hc
  refine sf_gen types_ok mixed (l := [(18, V.atS [] (.bool true)), (41, V.atS [.agg (svyC v)] (I 0)), (43, V.atS [.agg (svyC v)] (.agg (svyC v))), (48, V.atS [.agg (svyC v)] (I (clM v))), (50, V.atS [.agg (svyC v)] (.tup [.slice none 0 (relsG v), I 9])), (51, V.atS [.agg (svyC v)] (.tup [.slice none 0 (fun _ => []), I 9]))]) ⟨sf18, (by have := d41 v; rw [p1] at this; exact this), d43 v (by omega), d48 v hok k hk, (by have := d50 v (by omega); unfold relN2 relE2 relN relE at this; rw [p1, hc] at this; exact this), (by have := d51 v (by omega); unfold planR relE2 relE at this; rw [p1, hc] at this; exact this), trivial⟩ (es := []) trivial (its := []) trivial (fr := []) trivial [] [] false [] [] 1 Try.func9 rfl (by kernel_rfl) fun args h => ?_
  have h : args = _ := h
  subst h
  refine ⟨rfl, ?_⟩
  show evalCode _ _ _ fun o => match o with
    | .normal st | .ret st => withP _ (_ ∧ PLe _ (.bool true))
    | _ => False
  repeat' first | (exact PLe.refl _) | (exact BLe.refl _) | (exact PLeL.nil) | (exact BLeL.nil) | (refine ⟨?_, ?_⟩) | (refine PLeL.cons ?_ ?_) | (refine BLeL.cons ?_ ?_) | (refine ple_int ?_) | (refine ple_bool ?_) | (refine ple_tt ?_) | (refine ple_ff ?_) | (refine PLe.aggL ?_) | (refine PLe.tupL ?_) | (refine BLe.cellsL ?_) | (refine fun h => absurd h (by decide)) | (refine fun h => ?_; exfalso; simp only [p0, q0, Int.toNat_natCast, Bool.cond_true_left, Bool.cond_false_right, Bool.cond_true_right, Bool.cond_false_left, cond_true, cond_false, Bool.not_true, Bool.not_false, Bool.not_not, Bool.and_true, Bool.true_and, Bool.and_false, Bool.false_and, Bool.or_true, Bool.true_or, Bool.or_false, Bool.false_or, beq_self_eq_true, bne_self_eq_false, Bool.true_eq_false, Bool.false_eq_true, reduceCtorEq, Bool.and_self, Bool.or_self, Int.reduceBEq, Int.reduceBNe, Int.reduceNeg, decide_true, decide_false, Int.reduceLT, Int.reduceLE, Int.reduceGT] at h; done) | (refine fun (h : @Eq Bool _ _) => ?_)
  all_goals first | trivial | rfl | omega | (simp only [p0, q0, Int.toNat_natCast, Bool.cond_true_left, Bool.cond_false_right, Bool.cond_true_right, Bool.cond_false_left, cond_true, cond_false, Bool.not_true, Bool.not_false, Bool.not_not, Bool.and_true, Bool.true_and, Bool.and_false, Bool.false_and, Bool.or_true, Bool.true_or, Bool.or_false, Bool.false_or, beq_self_eq_true, bne_self_eq_false, Bool.true_eq_false, Bool.false_eq_true, reduceCtorEq, Bool.and_self, Bool.or_self, Int.reduceBEq, Int.reduceBNe, Int.reduceNeg, decide_true, decide_false, Int.reduceLT, Int.reduceLE, Int.reduceGT]; done) | (show @Eq Bool _ _; simp only [p0, q0, Int.toNat_natCast, Bool.cond_true_left, Bool.cond_false_right, Bool.cond_true_right, Bool.cond_false_left, cond_true, cond_false, Bool.not_true, Bool.not_false, Bool.not_not, Bool.and_true, Bool.true_and, Bool.and_false, Bool.false_and, Bool.or_true, Bool.true_or, Bool.or_false, Bool.false_or, beq_self_eq_true, bne_self_eq_false, Bool.true_eq_false, Bool.false_eq_true, reduceCtorEq, Bool.and_self, Bool.or_self, Int.reduceBEq, Int.reduceBNe, Int.reduceNeg, decide_true, decide_false, Int.reduceLT, Int.reduceLE, Int.reduceGT]; done) | skip
set_option maxRecDepth 20000 in
set_option maxHeartbeats 2000000 in
theorem relsK (v : Svy) (hn : v.n ≤ 70) (hok : okV v) (k : Nat) (hk : (k : Int) = v.wl) (hc : clashB v = false) : SF Try.prog 9 (V.atS [.agg (svyC v)] (.bool true)) := by
  have p0 : decide ((70 : Int) < (v.n : Int)) = false := decide_eq_false (by omega)
  have hw := hok.wl
  have p1 : svE v = 0 := svE_okV hok
  have q0 : decide (0 ≤ clM v) = false := (clash_iff hok).symm.trans hc
  obtain ⟨k1, k2, k3, k4, _⟩ := plan_sem hok hk hc
  have tl := toL_len (planR v)
  have xk : ((k : Int) != v.wl) = false := by rw [hk]; exact bne_self_eq_false _
  have xk2 : ((v.wl.toNat : Int) != v.wl) = false := by rw [show (v.wl.toNat : Int) = v.wl by omega]; exact bne_self_eq_false _
  have cg : ∀ i, i < (planR v).k → (planR v).g i = intL (intOf ((planR v).g i)) := fun i hi => by
    obtain ⟨y, e, _⟩ := k1 i hi
    rw [e]; rfl
  have xs : sameI (planR v).k (toL (planR v)).length (planR v).g (fun j => intL ((toL (planR v)).getD j 0)) = true := by
    unfold sameI
    rw [tl, beq_self_eq_true, Bool.true_and]
    refine allN_t fun i hi => beq_iff_eq.2 ?_
    show intOf ((planR v).g i) = (toL (planR v)).getD i 0
    unfold toL
    rw [List.getD, List.getElem?_map, List.getElem?_range hi]; rfl
  have xs2 : (!sameI (planR v).k (toL (planR v)).length (planR v).g (fun j => intL ((toL (planR v)).getD j 0))) = false := by rw [xs]; rfl
  refine sf_gen types_ok mixed (l := [(18, V.atS [] (.bool true)), (41, V.atS [.agg (svyC v)] (I 0)), (43, V.atS [.agg (svyC v)] (.agg (svyC v))), (48, V.atS [.agg (svyC v)] (I (clM v))), (50, V.atS [.agg (svyC v)] (.tup [.slice none k (relsG v), I 0])), (51, V.atS [.agg (svyC v)] (.tup [.slice none (planR v).k (planR v).g, I 0])), (52, V.atS [.agg (svyC v)] (.slice none (toL (planR v)).length fun j => intL ((toL (planR v)).getD j 0))), (46, intsW9), (53, relAt v k)]) ⟨sf18, (by have := d41 v; rw [p1] at this; exact this), d43 v (by omega), d48 v hok k hk, (by have := d50 v (by omega); unfold relN2 relE2 relN relE at this; rw [p1, hc, ← hk] at this; exact this), (by have := d51 v (by omega); unfold relE2 relE at this; rw [p1, hc] at this; exact this), d52 v hok k hk hc, sf46w9, sf53 hok hk, trivial⟩ (es := []) trivial (its := []) trivial (fr := []) trivial [] [] false [] [] 1 Try.func9 rfl (by kernel_rfl) fun args h => ?_
  have h : args = _ := h
  subst h
  refine ⟨rfl, ?_⟩
  show evalCode _ _ _ fun o => match o with
    | .normal st | .ret st => withP _ (_ ∧ PLe _ (.bool true))
    | _ => False
  repeat' first | (refine fun h => absurd (h.symm.trans xk) (by decide)) | (refine fun h => absurd (h.symm.trans xs2) (by decide)) | (refine fun h => absurd (h.symm.trans xs) (by decide)) | (exact PLe.refl _) | (exact BLe.refl _) | (exact PLeL.nil) | (exact BLeL.nil) | (refine ⟨?_, ?_⟩) | (refine PLeL.cons ?_ ?_) | (refine BLeL.cons ?_ ?_) | (refine ple_int ?_) | (refine ple_bool ?_) | (refine ple_tt ?_) | (refine ple_ff ?_) | (refine PLe.aggL ?_) | (refine PLe.tupL ?_) | (refine BLe.cellsL ?_) | (refine halt_rng (cnt 8) k [1, 4, 8] [1] (fun a => [.ptr 1 0, .slice none k (relsG v), I (a : Nat)]) (fun a => [.cells (svyC v)]) (fun _ => True) rfl (.mk ?_ ?_) trivial ?_) | (refine fun h => absurd h (by decide)) | (refine fun h => ?_; exfalso; simp only [p0, q0, Int.toNat_natCast, Bool.cond_true_left, Bool.cond_false_right, Bool.cond_true_right, Bool.cond_false_left, cond_true, cond_false, Bool.not_true, Bool.not_false, Bool.not_not, Bool.and_true, Bool.true_and, Bool.and_false, Bool.false_and, Bool.or_true, Bool.true_or, Bool.or_false, Bool.false_or, beq_self_eq_true, bne_self_eq_false, Bool.true_eq_false, Bool.false_eq_true, reduceCtorEq, Bool.and_self, Bool.or_self, Int.reduceBEq, Int.reduceBNe, Int.reduceNeg, decide_true, decide_false, Int.reduceLT, Int.reduceLE, Int.reduceGT] at h; done) | (refine fun (h : @Eq Bool _ _) => ?_)
  all_goals first | trivial | rfl | omega | (exact cg) | (intro i hi; rfl) | (show (toL (planR v)).length ≤ 1000; omega) | (simp only [p0, q0, Int.toNat_natCast, Bool.cond_true_left, Bool.cond_false_right, Bool.cond_true_right, Bool.cond_false_left, cond_true, cond_false, Bool.not_true, Bool.not_false, Bool.not_not, Bool.and_true, Bool.true_and, Bool.and_false, Bool.false_and, Bool.or_true, Bool.true_or, Bool.or_false, Bool.false_or, beq_self_eq_true, bne_self_eq_false, Bool.true_eq_false, Bool.false_eq_true, reduceCtorEq, Bool.and_self, Bool.or_self, Int.reduceBEq, Int.reduceBNe, Int.reduceNeg, decide_true, decide_false, Int.reduceLT, Int.reduceLE, Int.reduceGT]; done) | (show @Eq Bool _ _; simp only [p0, q0, Int.toNat_natCast, Bool.cond_true_left, Bool.cond_false_right, Bool.cond_true_right, Bool.cond_false_left, cond_true, cond_false, Bool.not_true, Bool.not_false, Bool.not_not, Bool.and_true, Bool.true_and, Bool.and_false, Bool.false_and, Bool.or_true, Bool.true_or, Bool.or_false, Bool.false_or, beq_self_eq_true, bne_self_eq_false, Bool.true_eq_false, Bool.false_eq_true, reduceCtorEq, Bool.and_self, Bool.or_self, Int.reduceBEq, Int.reduceBNe, Int.reduceNeg, decide_true, decide_false, Int.reduceLT, Int.reduceLE, Int.reduceGT]; done) | skip
  intro a ha _
  refine ⟨fun h1 => ?_, fun h1 => ?_⟩
  · have hlt_a : a < k := by
      have : (a : Int) < v.wl := of_decide_eq_true h1
      omega
    have e_a := succ_w hlt_a (by omega)
    clear h1
    repeat' first | (refine fun h => absurd (h.symm.trans xk2) (by decide)) | (exact PLe.refl _) | (exact BLe.refl _) | (exact PLeL.nil) | (exact BLeL.nil) | (refine ⟨?_, ?_⟩) | (refine PLeL.cons ?_ ?_) | (refine BLeL.cons ?_ ?_) | (refine ple_int ?_) | (refine ple_bool ?_) | (refine ple_tt ?_) | (refine ple_ff ?_) | (refine PLe.aggL ?_) | (refine PLe.tupL ?_) | (refine BLe.cellsL ?_) | (refine halt_rng (cnt 9) k [1, 4, 8, 9] [1] (fun b => [.ptr 1 0, .slice none k (relsG v), I (a : Nat), I (b : Nat)]) (fun b => [.cells (svyC v)]) (fun _ => True) rfl (.mk ?_ ?_) trivial ?_) | (refine fun h => absurd h (by decide)) | (refine fun (h : @Eq Bool _ _) => ?_)
    all_goals first | trivial | rfl | omega | (show (a : Int) < (k : Int); omega) | skip
    intro b hb _
    refine ⟨fun h1 => ?_, fun h1 => ?_⟩
    · have hlt_b : b < k := by
        have : (b : Int) < v.wl := of_decide_eq_true h1
        omega
      have e_b := succ_w hlt_b (by omega)
      clear h1
      have xr : (relV v a b != relV v a b) = false := bne_self_eq_false _
      repeat' first | (refine fun h => absurd (h.symm.trans xr) (by decide)) | (exact PLe.refl _) | (exact BLe.refl _) | (exact PLeL.nil) | (exact BLeL.nil) | (refine ⟨?_, ?_⟩) | (refine PLeL.cons ?_ ?_) | (refine BLeL.cons ?_ ?_) | (refine ple_int ?_) | (refine ple_bool ?_) | (refine ple_tt ?_) | (refine ple_ff ?_) | (refine PLe.aggL ?_) | (refine PLe.tupL ?_) | (refine BLe.cellsL ?_) | (refine next_rng (cn := cnt 9) rfl (fun _ => rfl) hlt_b trivial (.mk ?_ ?_)) | (refine fun h => absurd h (by decide)) | (refine fun (h : @Eq Bool _ _) => ?_)
      all_goals first | trivial | rfl | omega | (exact e_b) | (show (a : Int) < (k : Int); omega) | (show (b : Int) < (v.wl.toNat : Int); omega) | (exact ⟨rfl, by omega, by omega, by omega, by omega⟩) | skip
    · have h_b : b = k := by
        have : ¬ ((b : Int) < v.wl) := of_decide_eq_false h1
        omega
      clear h1
      repeat' first | (exact PLe.refl _) | (exact BLe.refl _) | (exact PLeL.nil) | (exact BLeL.nil) | (refine ⟨?_, ?_⟩) | (refine PLeL.cons ?_ ?_) | (refine BLeL.cons ?_ ?_) | (refine ple_int ?_) | (refine ple_bool ?_) | (refine ple_tt ?_) | (refine ple_ff ?_) | (refine PLe.aggL ?_) | (refine PLe.tupL ?_) | (refine BLe.cellsL ?_) | (refine next_rng (cn := cnt 8) rfl (fun _ => rfl) hlt_a trivial (.mk ?_ ?_)) | (refine fun h => absurd h (by decide)) | (refine fun (h : @Eq Bool _ _) => ?_)
      all_goals first | trivial | rfl | omega | (exact e_a) | skip
  · have h_a : a = k := by
      have : ¬ ((a : Int) < v.wl) := of_decide_eq_false h1
      omega
    clear h1
    repeat' first | (exact PLe.refl _) | (exact BLe.refl _) | (exact PLeL.nil) | (exact BLeL.nil) | (refine ⟨?_, ?_⟩) | (refine PLeL.cons ?_ ?_) | (refine BLeL.cons ?_ ?_) | (refine ple_int ?_) | (refine ple_bool ?_) | (refine ple_tt ?_) | (refine ple_ff ?_) | (refine PLe.aggL ?_) | (refine PLe.tupL ?_) | (refine BLe.cellsL ?_) | (refine fun h => absurd h (by decide)) | (refine fun (h : @Eq Bool _ _) => ?_)
    all_goals first | trivial | rfl | omega | skip
theorem relsA (v : Svy) : SF Try.prog 9 (V.atS [.agg (svyC v)] (.bool true)) := by
  by_cases hn : v.n ≤ 70
  · cases p1 : (svE v != 0) with
    | true => exact relsE v hn p1
    | false =>
      have hok : okV v := svE_ok (by simpa using p1)
      have hw := hok.wl
      have hk : ((v.wl.toNat : Nat) : Int) = v.wl := by omega
      cases hc : clashB v with
      | true => exact relsC v hn hok _ hk hc
      | false => exact relsK v hn hok _ hk hc
  · exact relsBig v (by omega)
end Go.Proofs.Ytnjhbmcambofgaa
