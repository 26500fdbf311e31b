/- Layer 4: the first clash, with its way, of the program. -/
import Derived.Test.YtnjhbmcambofgaaS72
import Derived.Test.YtnjhbmcambofgaaS59
namespace Go.Proofs.Ytnjhbmcambofgaa
open Go.V
set_option linter.unusedSimpArgs false
set_option linter.unusedVariables false

def clJ (v : Svy) : Int := firstN (fun i => clB v.lv (gL v) (v.s i).a (v.s i).b (v.s i).hi) v.n
theorem clJ_eq {v : Svy} (h : okV v) : clJ v = clM v := by
  have hw := h.wl
  unfold clJ clM
  rw [firstN_congr (g := clC v) fun i hi => ?_]
  obtain ⟨ha, hb, _⟩ := h.s i hi
  unfold clB clC
  rw [gL_at v ha.1 (by omega), gL_at v hb.1 (by omega)]
def nilF0 : Nat → List PV := fun _ => []
theorem idx_ok (v : Svy) (hok : okV v) {c : Int} (hc : clM v = c) : SF Try.prog 95 (V.atS [.slice none v.n fun i => obsL (v.s i), .fn (.func 96) [.agg (askC v (groupsM v))] []] (I c)) := by
  have hw := hok.wl
  have hn := hok.n
  refine sf_at sf95a ?_ ?_
  · refine ⟨.mk v.s (by omega) rfl, fun i h => ?_⟩
    obtain ⟨⟨h1, h2⟩, ⟨h3, h4⟩, _⟩ := hok.s i h
    exact ⟨⟨h1, by show (v.s i).a < 10; omega⟩, ⟨h3, by show (v.s i).b < 10; omega⟩⟩
  · show I (clJ v) = I c
    rw [clJ_eq hok, hc]
theorem d97i (v : Svy) (hok : okV v) (W : Nat) (hW : (W : Int) = v.wl) (fr to KK : Nat) (hf : fr < W) (ht : to < W) (hg : goes (lnk v) W fr to KK) (hK : KK < (bq v W fr KK).o.length) (hl : la (bq v W fr KK).o KK = to) (a b : Int) (ha : a = fr) (hb : b = to) :
    SF Try.prog 97 (V.atS [.agg (askC v (groupsM v)), I a, I b] (lstP (wy (bq v W fr KK).o KK))) := by
  subst ha; subst hb
  exact d97 v hok W hW fr to KK hf ht hg hK hl
set_option maxRecDepth 20000 in
set_option maxHeartbeats 2000000 in
theorem d44e (v : Svy) (hn : v.n ≤ 4611686018427387904) (p1 : (svE (svyOf v.wl v.lv v.n fun i => obsL (v.s i)) != 0) = true) : SF Try.prog 44 (V.atS [.agg (svyC v)] (.tup [I 0, .slice none 0 nilF0, I (svE (svyOf v.wl v.lv v.n fun i => obsL (v.s i)))])) := by
  have hL : isL obsL v.n fun i => obsL (v.s i) := .mk v.s hn rfl
  refine sf_gen types_ok mixed (l := [(93, askS2)]) ⟨sf93, trivial⟩ (es := []) trivial (its := []) trivial (fr := []) trivial [] [] false [] [] 1 Try.func44 rfl (by kernel_rfl) fun args h => ?_
  have h : args = _ := h
  subst h
  refine ⟨rfl, ?_⟩
  show evalCode _ _ _ fun o => match o with
    | .normal st | .ret st => withP _ (_ ∧ PLe _ (.tup [I 0, .slice none 0 nilF0, I (svE (svyOf v.wl v.lv v.n fun i => obsL (v.s i)))]))
    | _ => False
  repeat' first | (exact ple_slice rfl fun i hi => by cases hi) | (exact PLe.refl _) | (exact BLe.refl _) | (exact PLeL.nil) | (exact BLeL.nil) | (refine ⟨?_, ?_⟩) | (refine PLeL.cons ?_ ?_) | (refine BLeL.cons ?_ ?_) | (refine ple_int ?_) | (refine ple_bool ?_) | (refine ple_tt ?_) | (refine ple_ff ?_) | (refine PLe.aggL ?_) | (refine PLe.tupL ?_) | (refine BLe.cellsL ?_) | (refine fun h => absurd h (by decide)) | (refine fun h => ?_; exfalso; simp only [p1, Int.toNat_natCast, Bool.cond_true_left, Bool.cond_false_right, Bool.cond_true_right, Bool.cond_false_left, cond_true, cond_false, Bool.not_true, Bool.not_false, Bool.not_not, Bool.and_true, Bool.true_and, Bool.and_false, Bool.false_and, Bool.or_true, Bool.true_or, Bool.or_false, Bool.false_or, beq_self_eq_true, bne_self_eq_false, Bool.true_eq_false, Bool.false_eq_true, reduceCtorEq, Bool.and_self, Bool.or_self, Int.reduceBEq, Int.reduceBNe, Int.reduceNeg, decide_true, decide_false, Int.reduceLT, Int.reduceLE, Int.reduceGT] at h; done) | (refine fun (h : @Eq Bool _ _) => ?_)
  all_goals first | trivial | rfl | omega | (exact hL) | (simp only [p1, Int.toNat_natCast, Bool.cond_true_left, Bool.cond_false_right, Bool.cond_true_right, Bool.cond_false_left, cond_true, cond_false, Bool.not_true, Bool.not_false, Bool.not_not, Bool.and_true, Bool.true_and, Bool.and_false, Bool.false_and, Bool.or_true, Bool.true_or, Bool.or_false, Bool.false_or, beq_self_eq_true, bne_self_eq_false, Bool.true_eq_false, Bool.false_eq_true, reduceCtorEq, Bool.and_self, Bool.or_self, Int.reduceBEq, Int.reduceBNe, Int.reduceNeg, decide_true, decide_false, Int.reduceLT, Int.reduceLE, Int.reduceGT]; done) | (show @Eq Bool _ _; simp only [p1, Int.toNat_natCast, Bool.cond_true_left, Bool.cond_false_right, Bool.cond_true_right, Bool.cond_false_left, cond_true, cond_false, Bool.not_true, Bool.not_false, Bool.not_not, Bool.and_true, Bool.true_and, Bool.and_false, Bool.false_and, Bool.or_true, Bool.true_or, Bool.or_false, Bool.false_or, beq_self_eq_true, bne_self_eq_false, Bool.true_eq_false, Bool.false_eq_true, reduceCtorEq, Bool.and_self, Bool.or_self, Int.reduceBEq, Int.reduceBNe, Int.reduceNeg, decide_true, decide_false, Int.reduceLT, Int.reduceLE, Int.reduceGT]; done) | skip
set_option maxRecDepth 20000 in
set_option maxHeartbeats 2000000 in
theorem d44n (v : Svy) (hok : okV v) (hc : clM v = -1) : SF Try.prog 44 (V.atS [.agg (svyC v)] (.tup [I 0, .slice none 0 nilF0, I 7])) := by
  have hw := hok.wl
  have hn := hok.n
  have hL : isL obsL v.n fun i => obsL (v.s i) := .mk v.s (by omega) rfl
  refine sf_gen types_ok mixed (l := [(93, V.atS [.agg (svyC v)] (.tup [.agg (askC v (groupsM v)), I 0])), (95, V.atS [.slice none v.n fun i => obsL (v.s i), .fn (.func 96) [.agg (askC v (groupsM v))] []] (I (-1)))]) ⟨ask_ok v hok, idx_ok v hok hc, trivial⟩ (es := []) trivial (its := []) trivial (fr := []) trivial [] [] false [] [] 1 Try.func44 rfl (by kernel_rfl) fun args h => ?_
  have h : args = _ := h
  subst h
  refine ⟨rfl, ?_⟩
  show evalCode _ _ _ fun o => match o with
    | .normal st | .ret st => withP _ (_ ∧ PLe _ (.tup [I 0, .slice none 0 nilF0, I 7]))
    | _ => False
  repeat' first | (exact ple_slice rfl fun i hi => by cases hi) | (exact PLe.refl _) | (exact BLe.refl _) | (exact PLeL.nil) | (exact BLeL.nil) | (refine ⟨?_, ?_⟩) | (refine PLeL.cons ?_ ?_) | (refine BLeL.cons ?_ ?_) | (refine ple_int ?_) | (refine ple_bool ?_) | (refine ple_tt ?_) | (refine ple_ff ?_) | (refine PLe.aggL ?_) | (refine PLe.tupL ?_) | (refine BLe.cellsL ?_) | (refine fun h => absurd h (by decide)) | (refine fun (h : @Eq Bool _ _) => ?_)
  all_goals first | trivial | rfl | omega | skip
set_option maxRecDepth 20000 in
set_option maxHeartbeats 2000000 in
theorem d44c (v : Svy) (hok : okV v) (W : Nat) (hW : (W : Int) = v.wl) (i : Nat) (hc : clM v = (i : Int)) (hi : i < v.n) (fr to KK : Nat) (hf : fr < W) (ht : to < W) (hg : goes (lnk v) W fr to KK) (hK : KK < (bq v W fr KK).o.length) (hl : la (bq v W fr KK).o KK = to) (ha : (v.s i).a = fr) (hb : (v.s i).b = to) : SF Try.prog 44 (V.atS [.agg (svyC v)] (.tup [I (i : Nat), lstP (wy (bq v W fr KK).o KK), I 0])) := by
  have hw := hok.wl
  have hn := hok.n
  have hL : isL obsL v.n fun i => obsL (v.s i) := .mk v.s (by omega) rfl
  have fE : decide ((i : Int) < 0) = false := decide_eq_false (by omega)
  refine sf_gen types_ok mixed (l := [(93, V.atS [.agg (svyC v)] (.tup [.agg (askC v (groupsM v)), I 0])), (95, V.atS [.slice none v.n fun i => obsL (v.s i), .fn (.func 96) [.agg (askC v (groupsM v))] []] (I (i : Nat))), (97, V.atS [.agg (askC v (groupsM v)), I (v.s i).a, I (v.s i).b] (lstP (wy (bq v W fr KK).o KK)))]) ⟨ask_ok v hok, idx_ok v hok hc, d97i v hok W hW fr to KK hf ht hg hK hl _ _ ha hb, trivial⟩ (es := []) trivial (its := []) trivial (fr := []) trivial [] [] false [] [] 1 Try.func44 rfl (by kernel_rfl) fun args h => ?_
  have h : args = _ := h
  subst h
  refine ⟨rfl, ?_⟩
  show evalCode _ _ _ fun o => match o with
    | .normal st | .ret st => withP _ (_ ∧ PLe _ (.tup [I (i : Nat), lstP (wy (bq v W fr KK).o KK), I 0]))
    | _ => False
  repeat' first | (refine fun h => absurd (h.symm.trans fE) (by decide)) | (exact PLe.refl _) | (exact BLe.refl _) | (exact PLeL.nil) | (exact BLeL.nil) | (refine ⟨?_, ?_⟩) | (refine PLeL.cons ?_ ?_) | (refine BLeL.cons ?_ ?_) | (refine ple_int ?_) | (refine ple_bool ?_) | (refine ple_tt ?_) | (refine ple_ff ?_) | (refine PLe.aggL ?_) | (refine PLe.tupL ?_) | (refine BLe.cellsL ?_) | (refine fun h => absurd h (by decide)) | (refine fun (h : @Eq Bool _ _) => ?_)
  all_goals first | trivial | rfl | omega | (show (i : Int) < (v.n : Int); omega) | (exact Int.natCast_nonneg _) | skip
theorem firstN_is {f : Nat → Bool} {i : Nat} : ∀ {n : Nat}, firstN f n = (i : Int) → f i = true
  | 0, h => by simp only [firstN] at h; omega
  | n + 1, h => by
    unfold firstN at h
    cases h0 : decide (0 ≤ firstN f n) with
    | true =>
      rw [h0] at h
      exact firstN_is h
    | false =>
      rw [h0] at h
      simp only [cond_false] at h
      cases h1 : f n with
      | true =>
        rw [h1] at h
        have : n = i := by simp only [cond_true] at h; omega
        subst this; exact h1
      | false =>
        rw [h1] at h
        simp only [cond_false] at h; omega
theorem firstN_ge {f : Nat → Bool} {i : Nat} (hf : f i = true) : ∀ {n : Nat}, i < n → 0 ≤ firstN f n
  | 0, h => absurd h (Nat.not_lt_zero _)
  | n + 1, h => by
    unfold firstN
    cases h0 : decide (0 ≤ firstN f n) with
    | true => simp only [cond_true]; exact of_decide_eq_true h0
    | false =>
      have h0' := of_decide_eq_false h0
      by_cases e : i = n
      · subst e; rw [hf]; simp only [cond_true, cond_false]; omega
      · exact (h0' (firstN_ge hf (by omega))).elim
theorem lnk_of {v : Svy} (hok : okV v) {j : Nat} (hj : j < v.n) (hs : v.lv ≤ (v.s j).lo) : lnk v (v.s j).a.toNat (v.s j).b.toNat = true := by
  obtain ⟨ka, kb, _⟩ := hok.s j hj
  refine decide_eq_true (firstN_ge (i := j) ?_ hj)
  unfold besB
  rw [decide_eq_true hs, show ((v.s j).a.toNat : Int) = (v.s j).a by omega, show ((v.s j).b.toNat : Int) = (v.s j).b by omega, beq_self_eq_true, beq_self_eq_true]
  rfl
/-- A clash has a way, and the document's words say the same one. -/
theorem clash_way {v : Svy} (hok : okV v) {W : Nat} (hW : (W : Int) = v.wl) {i : Nat} (hc : clM v = (i : Int)) (hi : i < v.n) : ∃ fr to KK d vv ws, fr < W ∧ to < W ∧ goes (lnk v) W fr to KK ∧ KK < (bq v W fr KK).o.length ∧ la (bq v W fr KK).o KK = to ∧ (v.s i).a = (fr : Int) ∧ (v.s i).b = (to : Int) ∧ Steps (lnk v) W fr to d vv ws ∧ ws d = wy (bq v W fr KK).o KK := by
  have hw := hok.wl
  obtain ⟨ha, hb, _⟩ := hok.s i hi
  have hcl : clC v i = true := firstN_is hc
  unfold clC at hcl
  rw [Bool.and_eq_true, beq_iff_eq] at hcl
  have hf : (v.s i).a.toNat < W := by omega
  have ht : (v.s i).b.toNat < W := by omega
  have conn : ∀ p : Nat → Bool, (∀ a b, a < W → b < W → lnk v a b = true → p a = p b) → p (v.s i).a.toNat = p (v.s i).b.toNat := by
    intro p hp
    have inv := groups_inv hok (fun x => bif p x then (1 : Int) else 0) fun j hj hs => by
      obtain ⟨ka, kb, _⟩ := hok.s j hj
      have : p (v.s j).a.toNat = p (v.s j).b.toNat := hp _ _ (by omega) (by omega) (lnk_of hok hj hs)
      rw [this]
    have e1 := (inv (v.s i).a.toNat (by omega)).2
    have e2 := (inv (v.s i).b.toNat (by omega)).2
    simp only [hcl.2] at e1
    rw [e1] at e2
    revert e2
    cases p (v.s i).a.toNat <;> cases p (v.s i).b.toNat <;> simp
  have hlW : ∀ k, goes (lnk v) W (v.s i).a.toNat (v.s i).b.toNat k → ∀ j, j < (bfs (lnk v) W (v.s i).a.toNat k).o.length → la (bfs (lnk v) W (v.s i).a.toNat k).o j < W := fun k hk j hj => by
    have hB := bfs_inv hf hk
    by_cases h0 : j = 0
    · subst h0; unfold la; rw [hB.hd]; exact hf
    · exact (hB.par j (by omega) hj).2.2.2.2.1
  obtain ⟨KK, h1, h2, h3⟩ := bfs_reach hf (lnk_symm v) conn hlW
  obtain ⟨d, vv, ws, h4, h5⟩ := bfs_steps (bfs_inv hf h1) hf h2 h3
  exact ⟨_, _, KK, d, vv, ws, hf, ht, h1, h2, h3, by omega, by omega, h4, h5⟩
end Go.Proofs.Ytnjhbmcambofgaa
