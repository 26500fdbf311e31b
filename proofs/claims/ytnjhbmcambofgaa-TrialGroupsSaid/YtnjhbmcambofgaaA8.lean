/- Layer 4: the law on groups and clashes. -/
import Derived.Test.YtnjhbmcambofgaaS73
import Derived.Test.YtnjhbmcambofgaaS46
import Derived.Test.YtnjhbmcambofgaaS32
import Derived.Test.YtnjhbmcambofgaaS52
namespace Go.Proofs.Ytnjhbmcambofgaa
open Go.V
set_option linter.unusedSimpArgs false
set_option linter.unusedVariables false

theorem d45b (v : Svy) (hn : v.n ≤ 1000) : SF Try.prog 45 (V.atS [.agg (svyC v)] (I (svE v))) := sf_at sf45 (show isL obsL v.n _ from isLo v hn) rfl
theorem d42 (v : Svy) (hn : v.n ≤ 1000) : SF Try.prog 42 (V.atS [.agg (svyC v)] (.tup [.slice none (groupsN v) fun i => intL (groupsM v i), I (svE v)])) := sf_at sf42 (show isL obsL v.n _ from isLo v hn) rfl
def intsW8 : V.Spec
  | [.slice none n g, .slice none m h] => (some (n ≤ 1000 ∧ m ≤ 1000 ∧ (∀ i, i < n → g i = intL (intOf (g i))) ∧ ∀ i, i < m → h i = intL (intOf (h i))), .bool (sameI n m g h))
  | _ => bad
theorem sf46w8 : SF Try.prog 46 intsW8 := by
  refine sf_args sf46 fun args h => ?_
  unfold intsW8 at h ⊢
  split at h
  · rename_i n g m h0
    obtain ⟨h1, h2, h3, h4⟩ : n ≤ 1000 ∧ m ≤ 1000 ∧ (∀ i, i < n → g i = intL (intOf (g i))) ∧ ∀ i, i < m → h0 i = intL (intOf (h0 i)) := h
    refine ⟨[.slice none n fun i => intL (intOf (g i)), .slice none m fun i => intL (intOf (h0 i))], rfl, fun i hi => ?_, ⟨.mk _ (by omega) rfl, .mk _ (by omega) rfl⟩, rfl⟩
    match i, hi with
    | 0, _ => exact .slice _ _ _ _ h3
    | 1, _ => exact .slice _ _ _ _ h4
  · exact h.elim
theorem sameI_refl (n : Nat) (g : Nat → List PV) : sameI n n g g = true := by
  unfold sameI
  rw [beq_self_eq_true, Bool.true_and]
  exact allN_t fun i hi => beq_iff_eq.2 rfl
set_option maxRecDepth 20000 in
set_option maxHeartbeats 2000000 in
theorem groupsBig (v : Svy) (hn : 70 < v.n) : SF Try.prog 8 (V.atS [.agg (svyC v)] (.bool true)) := by
  have p0 : decide ((70 : Int) < (v.n : Int)) = true := decide_eq_true (by omega)
  refine sf_gen types_ok mixed (l := [(18, V.atS [] (.bool true))]) ⟨sf18, trivial⟩ (es := []) trivial (its := []) trivial (fr := []) trivial [] [] false [] [] 1 Try.func8 rfl (by kernel_rfl) fun args h => ?_
  have h : args = _ := h
  subst h
  refine ⟨rfl, ?_⟩
  show evalCode _ _ _ fun o => match o with
    | .normal st | .ret st => withP _ (_ ∧ PLe _ (.bool true))
    | _ => False
  repeat' first | (exact PLe.refl _) | (exact BLe.refl _) | (exact PLeL.nil) | (exact BLeL.nil) | (refine ⟨?_, ?_⟩) | (refine PLeL.cons ?_ ?_) | (refine BLeL.cons ?_ ?_) | (refine ple_int ?_) | (refine ple_bool ?_) | (refine ple_tt ?_) | (refine ple_ff ?_) | (refine PLe.aggL ?_) | (refine PLe.tupL ?_) | (refine BLe.cellsL ?_) | (refine fun h => absurd h (by decide)) | (refine fun h => ?_; exfalso; simp only [p0, Int.toNat_natCast, Bool.cond_true_left, Bool.cond_false_right, Bool.cond_true_right, Bool.cond_false_left, cond_true, cond_false, Bool.not_true, Bool.not_false, Bool.not_not, Bool.and_true, Bool.true_and, Bool.and_false, Bool.false_and, Bool.or_true, Bool.true_or, Bool.or_false, Bool.false_or, beq_self_eq_true, bne_self_eq_false, Bool.true_eq_false, Bool.false_eq_true, reduceCtorEq, Bool.and_self, Bool.or_self, Int.reduceBEq, Int.reduceBNe, Int.reduceNeg, decide_true, decide_false, Int.reduceLT, Int.reduceLE, Int.reduceGT] at h; done) | (refine fun (h : @Eq Bool _ _) => ?_)
  all_goals first | trivial | rfl | omega | (simp only [p0, Int.toNat_natCast, Bool.cond_true_left, Bool.cond_false_right, Bool.cond_true_right, Bool.cond_false_left, cond_true, cond_false, Bool.not_true, Bool.not_false, Bool.not_not, Bool.and_true, Bool.true_and, Bool.and_false, Bool.false_and, Bool.or_true, Bool.true_or, Bool.or_false, Bool.false_or, beq_self_eq_true, bne_self_eq_false, Bool.true_eq_false, Bool.false_eq_true, reduceCtorEq, Bool.and_self, Bool.or_self, Int.reduceBEq, Int.reduceBNe, Int.reduceNeg, decide_true, decide_false, Int.reduceLT, Int.reduceLE, Int.reduceGT]; done) | (show @Eq Bool _ _; simp only [p0, Int.toNat_natCast, Bool.cond_true_left, Bool.cond_false_right, Bool.cond_true_right, Bool.cond_false_left, cond_true, cond_false, Bool.not_true, Bool.not_false, Bool.not_not, Bool.and_true, Bool.true_and, Bool.and_false, Bool.false_and, Bool.or_true, Bool.true_or, Bool.or_false, Bool.false_or, beq_self_eq_true, bne_self_eq_false, Bool.true_eq_false, Bool.false_eq_true, reduceCtorEq, Bool.and_self, Bool.or_self, Int.reduceBEq, Int.reduceBNe, Int.reduceNeg, decide_true, decide_false, Int.reduceLT, Int.reduceLE, Int.reduceGT]; done) | skip
set_option maxRecDepth 20000 in
set_option maxHeartbeats 2000000 in
theorem groupsE (v : Svy) (hn : v.n ≤ 70) (p1 : (svE v != 0) = true) : SF Try.prog 8 (V.atS [.agg (svyC v)] (.bool true)) := by
  have p0 : decide ((70 : Int) < (v.n : Int)) = false := decide_eq_false (by omega)
  have p2 : (svE v == 0) = false := by simpa using p1
  refine sf_gen types_ok mixed (l := [(18, V.atS [] (.bool true)), (41, V.atS [.agg (svyC v)] (I (svE v))), (43, V.atS [.agg (svyC v)] (.agg (svyC v))), (42, V.atS [.agg (svyC v)] (.tup [.slice none 0 fun i => intL (groupsM v i), I (svE v)])), (44, V.atS [.agg (svyC v)] (.tup [I 0, .slice none 0 nilF0, I (svE v)])), (45, V.atS [.agg (svyC v)] (I (svE v)))]) ⟨sf18, d41 v, d43 v (by omega), (by have := d42 v (by omega); unfold groupsN at this; rw [p1] at this; exact this), (d44e v (by omega) p1), d45b v (by omega), trivial⟩ (es := []) trivial (its := []) trivial (fr := []) trivial [] [] false [] [] 1 Try.func8 rfl (by kernel_rfl) fun args h => ?_
  have h : args = _ := h
  subst h
  refine ⟨rfl, ?_⟩
  show evalCode _ _ _ fun o => match o with
    | .normal st | .ret st => withP _ (_ ∧ PLe _ (.bool true))
    | _ => False
  repeat' first | (exact PLe.refl _) | (exact BLe.refl _) | (exact PLeL.nil) | (exact BLeL.nil) | (refine ⟨?_, ?_⟩) | (refine PLeL.cons ?_ ?_) | (refine BLeL.cons ?_ ?_) | (refine ple_int ?_) | (refine ple_bool ?_) | (refine ple_tt ?_) | (refine ple_ff ?_) | (refine PLe.aggL ?_) | (refine PLe.tupL ?_) | (refine BLe.cellsL ?_) | (refine fun h => absurd h (by decide)) | (refine fun h => ?_; exfalso; simp only [p0, p1, p2, Int.toNat_natCast, Bool.cond_true_left, Bool.cond_false_right, Bool.cond_true_right, Bool.cond_false_left, cond_true, cond_false, Bool.not_true, Bool.not_false, Bool.not_not, Bool.and_true, Bool.true_and, Bool.and_false, Bool.false_and, Bool.or_true, Bool.true_or, Bool.or_false, Bool.false_or, beq_self_eq_true, bne_self_eq_false, Bool.true_eq_false, Bool.false_eq_true, reduceCtorEq, Bool.and_self, Bool.or_self, Int.reduceBEq, Int.reduceBNe, Int.reduceNeg, decide_true, decide_false, Int.reduceLT, Int.reduceLE, Int.reduceGT] at h; done) | (refine fun (h : @Eq Bool _ _) => ?_)
  all_goals first | trivial | rfl | omega | (simp only [p0, p1, p2, Int.toNat_natCast, Bool.cond_true_left, Bool.cond_false_right, Bool.cond_true_right, Bool.cond_false_left, cond_true, cond_false, Bool.not_true, Bool.not_false, Bool.not_not, Bool.and_true, Bool.true_and, Bool.and_false, Bool.false_and, Bool.or_true, Bool.true_or, Bool.or_false, Bool.false_or, beq_self_eq_true, bne_self_eq_false, Bool.true_eq_false, Bool.false_eq_true, reduceCtorEq, Bool.and_self, Bool.or_self, Int.reduceBEq, Int.reduceBNe, Int.reduceNeg, decide_true, decide_false, Int.reduceLT, Int.reduceLE, Int.reduceGT]; done) | (show @Eq Bool _ _; simp only [p0, p1, p2, Int.toNat_natCast, Bool.cond_true_left, Bool.cond_false_right, Bool.cond_true_right, Bool.cond_false_left, cond_true, cond_false, Bool.not_true, Bool.not_false, Bool.not_not, Bool.and_true, Bool.true_and, Bool.and_false, Bool.false_and, Bool.or_true, Bool.true_or, Bool.or_false, Bool.false_or, beq_self_eq_true, bne_self_eq_false, Bool.true_eq_false, Bool.false_eq_true, reduceCtorEq, Bool.and_self, Bool.or_self, Int.reduceBEq, Int.reduceBNe, Int.reduceNeg, decide_true, decide_false, Int.reduceLT, Int.reduceLE, Int.reduceGT]; done) | skip
set_option maxRecDepth 20000 in
set_option maxHeartbeats 2000000 in
theorem groupsK (v : Svy) (hn : v.n ≤ 70) (hok : okV v) (k : Nat) (hk : (k : Int) = v.wl) (hc : clM v = -1) : SF Try.prog 8 (V.atS [.agg (svyC v)] (.bool true)) := by
  have p0 : decide ((70 : Int) < (v.n : Int)) = false := decide_eq_false (by omega)
  have hw := hok.wl
  have p1 : svE v = 0 := svE_okV hok
  have hwN : v.wl.toNat = k := by omega
  have x1 : sameI k k (fun i => intL (groupsM v i)) (fun i => intL (groupsM v i)) = true := sameI_refl _ _
  have x2 : (!sameI k k (fun i => intL (groupsM v i)) (fun i => intL (groupsM v i))) = false := by rw [x1]; rfl
  refine sf_gen types_ok mixed (l := [(18, V.atS [] (.bool true)), (41, V.atS [.agg (svyC v)] (I 0)), (43, V.atS [.agg (svyC v)] (.agg (svyC v))), (42, V.atS [.agg (svyC v)] (.tup [.slice none k fun i => intL (groupsM v i), I 0])), (45, V.atS [.agg (svyC v)] (I 0)), (46, intsW8), (47, V.atS [.agg (svyC v)] (.slice none k fun i => intL (groupsM v i))), (44, V.atS [.agg (svyC v)] (.tup [I 0, .slice none 0 nilF0, I 7])), (48, V.atS [.agg (svyC v)] (I (-1)))]) ⟨sf18, (by have := d41 v; rw [p1] at this; exact this), d43 v (by omega), (by have := d42 v (by omega); unfold groupsN at this; rw [p1, hwN] at this; exact this), (by have := d45b v (by omega); rw [p1] at this; exact this), sf46w8, d47 v hok k hk, d44n v hok hc, (by have := d48 v hok k hk; rw [hc] at this; exact this), trivial⟩ (es := []) trivial (its := []) trivial (fr := []) trivial [] [] false [] [] 1 Try.func8 rfl (by kernel_rfl) fun args h => ?_
  have h : args = _ := h
  subst h
  refine ⟨rfl, ?_⟩
  show evalCode _ _ _ fun o => match o with
    | .normal st | .ret st => withP _ (_ ∧ PLe _ (.bool true))
    | _ => False
  repeat' first | (refine fun h => absurd (h.symm.trans x2) (by decide)) | (refine fun h => absurd (h.symm.trans x1) (by decide)) | (exact PLe.refl _) | (exact BLe.refl _) | (exact PLeL.nil) | (exact BLeL.nil) | (refine ⟨?_, ?_⟩) | (refine PLeL.cons ?_ ?_) | (refine BLeL.cons ?_ ?_) | (refine ple_int ?_) | (refine ple_bool ?_) | (refine ple_tt ?_) | (refine ple_ff ?_) | (refine PLe.aggL ?_) | (refine PLe.tupL ?_) | (refine BLe.cellsL ?_) | (refine fun h => absurd h (by decide)) | (refine fun h => ?_; exfalso; simp only [p0, Int.toNat_natCast, Bool.cond_true_left, Bool.cond_false_right, Bool.cond_true_right, Bool.cond_false_left, cond_true, cond_false, Bool.not_true, Bool.not_false, Bool.not_not, Bool.and_true, Bool.true_and, Bool.and_false, Bool.false_and, Bool.or_true, Bool.true_or, Bool.or_false, Bool.false_or, beq_self_eq_true, bne_self_eq_false, Bool.true_eq_false, Bool.false_eq_true, reduceCtorEq, Bool.and_self, Bool.or_self, Int.reduceBEq, Int.reduceBNe, Int.reduceNeg, decide_true, decide_false, Int.reduceLT, Int.reduceLE, Int.reduceGT] at h; done) | (refine fun (h : @Eq Bool _ _) => ?_)
  all_goals first | trivial | rfl | omega | (intro i hi; rfl) | (show k ≤ 1000; omega) | (simp only [p0, Int.toNat_natCast, Bool.cond_true_left, Bool.cond_false_right, Bool.cond_true_right, Bool.cond_false_left, cond_true, cond_false, Bool.not_true, Bool.not_false, Bool.not_not, Bool.and_true, Bool.true_and, Bool.and_false, Bool.false_and, Bool.or_true, Bool.true_or, Bool.or_false, Bool.false_or, beq_self_eq_true, bne_self_eq_false, Bool.true_eq_false, Bool.false_eq_true, reduceCtorEq, Bool.and_self, Bool.or_self, Int.reduceBEq, Int.reduceBNe, Int.reduceNeg, decide_true, decide_false, Int.reduceLT, Int.reduceLE, Int.reduceGT]; done) | (show @Eq Bool _ _; simp only [p0, Int.toNat_natCast, Bool.cond_true_left, Bool.cond_false_right, Bool.cond_true_right, Bool.cond_false_left, cond_true, cond_false, Bool.not_true, Bool.not_false, Bool.not_not, Bool.and_true, Bool.true_and, Bool.and_false, Bool.false_and, Bool.or_true, Bool.true_or, Bool.or_false, Bool.false_or, beq_self_eq_true, bne_self_eq_false, Bool.true_eq_false, Bool.false_eq_true, reduceCtorEq, Bool.and_self, Bool.or_self, Int.reduceBEq, Int.reduceBNe, Int.reduceNeg, decide_true, decide_false, Int.reduceLT, Int.reduceLE, Int.reduceGT]; done) | skip
set_option maxRecDepth 20000 in
set_option maxHeartbeats 2000000 in
theorem groupsC (v : Svy) (hn : v.n ≤ 70) (hok : okV v) (k : Nat) (hk : (k : Int) = v.wl) (i : Nat) (hc : clM v = (i : Int)) (hi : i < v.n) : SF Try.prog 8 (V.atS [.agg (svyC v)] (.bool true)) := by
  have p0 : decide ((70 : Int) < (v.n : Int)) = false := decide_eq_false (by omega)
  have hw := hok.wl
  have p1 : svE v = 0 := svE_okV hok
  have hwN : v.wl.toNat = k := by omega
  have x1 : sameI k k (fun i => intL (groupsM v i)) (fun i => intL (groupsM v i)) = true := sameI_refl _ _
  have x2 : (!sameI k k (fun i => intL (groupsM v i)) (fun i => intL (groupsM v i))) = false := by rw [x1]; rfl
  obtain ⟨fr, to, KK, dd, vv, ws, hf, ht, hg, hK, hl, ha, hb, hst, hws⟩ := clash_way hok hk hc hi
  have hlen : (wy (bq v k fr KK).o KK).length ≤ 1000 := by
    rw [← hws, steps_len hst dd (Nat.le_refl _)]
    have := hst.dW
    omega
  have y1 : sameI (wy (bq v k fr KK).o KK).length (wy (bq v k fr KK).o KK).length (fun j => intL (((wy (bq v k fr KK).o KK).getD j 0 : Nat) : Int)) (fun j => intL (((wy (bq v k fr KK).o KK).getD j 0 : Nat) : Int)) = true := sameI_refl _ _
  have q0 : decide ((i : Int) < 0) = false := decide_eq_false (by omega)
  refine sf_gen types_ok mixed (l := [(18, V.atS [] (.bool true)), (41, V.atS [.agg (svyC v)] (I 0)), (43, V.atS [.agg (svyC v)] (.agg (svyC v))), (42, V.atS [.agg (svyC v)] (.tup [.slice none k fun i => intL (groupsM v i), I 0])), (45, V.atS [.agg (svyC v)] (I 0)), (46, intsW8), (47, V.atS [.agg (svyC v)] (.slice none k fun i => intL (groupsM v i))), (44, V.atS [.agg (svyC v)] (.tup [I (i : Nat), lstP (wy (bq v k fr KK).o KK), I 0])), (48, V.atS [.agg (svyC v)] (I (i : Nat))), (49, V.atS [.agg (svyC v), I (v.s i).a, I (v.s i).b] (lstP (wy (bq v k fr KK).o KK)))]) ⟨sf18, (by have := d41 v; rw [p1] at this; exact this), d43 v (by omega), (by have := d42 v (by omega); unfold groupsN at this; rw [p1, hwN] at this; exact this), (by have := d45b v (by omega); rw [p1] at this; exact this), sf46w8, d47 v hok k hk, d44c v hok k hk i hc hi fr to KK hf ht hg hK hl ha hb, (by have := d48 v hok k hk; rw [hc] at this; exact this), (by have := d49 v hok k hk fr to dd vv ws hst hf ht; rw [hws] at this; rw [ha, hb]; exact this), trivial⟩ (es := []) trivial (its := []) trivial (fr := []) trivial [] [] false [] [] 1 Try.func8 rfl (by kernel_rfl) fun args h => ?_
  have h : args = _ := h
  subst h
  refine ⟨rfl, ?_⟩
  show evalCode _ _ _ fun o => match o with
    | .normal st | .ret st => withP _ (_ ∧ PLe _ (.bool true))
    | _ => False
  repeat' first | (refine fun h => absurd (h.symm.trans x2) (by decide)) | (refine fun h => absurd (h.symm.trans x1) (by decide)) | (refine fun h => absurd (h.symm.trans y1) (by decide)) | (refine fun h => absurd (h.symm.trans q0) (by decide)) | (exact PLe.refl _) | (exact BLe.refl _) | (exact PLeL.nil) | (exact BLeL.nil) | (refine ⟨?_, ?_⟩) | (refine PLeL.cons ?_ ?_) | (refine BLeL.cons ?_ ?_) | (refine ple_int ?_) | (refine ple_bool ?_) | (refine ple_tt ?_) | (refine ple_ff ?_) | (refine PLe.aggL ?_) | (refine PLe.tupL ?_) | (refine BLe.cellsL ?_) | (refine fun h => absurd h (by decide)) | (refine fun h => ?_; exfalso; simp only [p0, q0, Int.toNat_natCast, Bool.cond_true_left, Bool.cond_false_right, Bool.cond_true_right, Bool.cond_false_left, cond_true, cond_false, Bool.not_true, Bool.not_false, Bool.not_not, Bool.and_true, Bool.true_and, Bool.and_false, Bool.false_and, Bool.or_true, Bool.true_or, Bool.or_false, Bool.false_or, beq_self_eq_true, bne_self_eq_false, Bool.true_eq_false, Bool.false_eq_true, reduceCtorEq, Bool.and_self, Bool.or_self, Int.reduceBEq, Int.reduceBNe, Int.reduceNeg, decide_true, decide_false, Int.reduceLT, Int.reduceLE, Int.reduceGT] at h; done) | (refine fun (h : @Eq Bool _ _) => ?_)
  all_goals first | trivial | rfl | omega | (intro i hi; rfl) | (show k ≤ 1000; omega) | (exact hlen) | (show (i : Int) < (v.n : Int); omega) | (exact Int.natCast_nonneg _) | (simp only [p0, q0, Int.toNat_natCast, Bool.cond_true_left, Bool.cond_false_right, Bool.cond_true_right, Bool.cond_false_left, cond_true, cond_false, Bool.not_true, Bool.not_false, Bool.not_not, Bool.and_true, Bool.true_and, Bool.and_false, Bool.false_and, Bool.or_true, Bool.true_or, Bool.or_false, Bool.false_or, beq_self_eq_true, bne_self_eq_false, Bool.true_eq_false, Bool.false_eq_true, reduceCtorEq, Bool.and_self, Bool.or_self, Int.reduceBEq, Int.reduceBNe, Int.reduceNeg, decide_true, decide_false, Int.reduceLT, Int.reduceLE, Int.reduceGT]; done) | (show @Eq Bool _ _; simp only [p0, q0, Int.toNat_natCast, Bool.cond_true_left, Bool.cond_false_right, Bool.cond_true_right, Bool.cond_false_left, cond_true, cond_false, Bool.not_true, Bool.not_false, Bool.not_not, Bool.and_true, Bool.true_and, Bool.and_false, Bool.false_and, Bool.or_true, Bool.true_or, Bool.or_false, Bool.false_or, beq_self_eq_true, bne_self_eq_false, Bool.true_eq_false, Bool.false_eq_true, reduceCtorEq, Bool.and_self, Bool.or_self, Int.reduceBEq, Int.reduceBNe, Int.reduceNeg, decide_true, decide_false, Int.reduceLT, Int.reduceLE, Int.reduceGT]; done) | skip
theorem firstN_cases (f : Nat → Bool) : ∀ n, firstN f n = -1 ∨ ∃ i : Nat, firstN f n = (i : Int) ∧ i < n
  | 0 => .inl rfl
  | n + 1 => by
    unfold firstN
    rcases firstN_cases f n with h | ⟨i, h, hi⟩
    · rw [h]
      cases f n with
      | true => exact .inr ⟨n, rfl, Nat.lt_succ_self n⟩
      | false => exact .inl rfl
    · rw [h]
      have : decide ((0 : Int) ≤ (i : Int)) = true := decide_eq_true (by omega)
      rw [this]
      exact .inr ⟨i, rfl, by omega⟩
theorem groupsA (v : Svy) : SF Try.prog 8 (V.atS [.agg (svyC v)] (.bool true)) := by
  by_cases hn : v.n ≤ 70
  · cases p1 : (svE v != 0) with
    | true => exact groupsE v hn p1
    | false =>
      have hok : okV v := svE_ok (by simpa using p1)
      have hw := hok.wl
      have hk : ((v.wl.toNat : Nat) : Int) = v.wl := by omega
      rcases firstN_cases (clC v) v.n with h | ⟨i, h, hi⟩
      · exact groupsK v hn hok _ hk h
      · exact groupsC v hn hok _ hk i h hi
  · exact groupsBig v (by omega)
end Go.Proofs.Ytnjhbmcambofgaa
