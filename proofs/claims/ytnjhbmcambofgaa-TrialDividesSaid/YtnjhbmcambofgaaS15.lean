/- Layer 4: the relation of two wells; all relations. -/
import Derived.Test.YtnjhbmcambofgaaS14
namespace Go.Proofs.Ytnjhbmcambofgaa
open Go.V
set_option linter.unusedSimpArgs false
set_option linter.unusedVariables false

def isB (lv : Int) (g : List Int) (n : Nat) (s : Nat → Obs) (p q : Int) : Bool := decide (0 ≤ firstN (fun i => agB lv g p q (s i).a (s i).b (s i).hi) n)
def relM (lv : Int) (g : List Int) (n : Nat) (s : Nat → Obs) (p q : Int) : Int := bif (g.getD (ix p) 0 == g.getD (ix q) 0) then 2 else bif isB lv g n s p q then 0 else 1
def in10L (n : Nat) (get : Nat → List PV) : Prop := ∀ i, i < n → in10 (obsOf (get i)).a ∧ in10 (obsOf (get i)).b
def relS : V.Spec
  | [.agg [.int .i64 wl, .int .i64 lv, .slice none n get, .int .i64 g0, .int .i64 g1, .int .i64 g2, .int .i64 g3, .int .i64 g4, .int .i64 g5, .int .i64 g6, .int .i64 g7, .int .i64 g8, .int .i64 g9], .int .i64 p, .int .i64 q] => (some ((isL obsL n get ∧ in10L n get) ∧ in10 p ∧ in10 q), .int .u8 (relM lv [g0, g1, g2, g3, g4, g5, g6, g7, g8, g9] n (fun i => obsOf (get i)) p q))
  | _ => bad
set_option maxRecDepth 20000 in
set_option maxHeartbeats 1000000 in
theorem sf105 : SF Try.prog 105 relS := by
  refine sf_of types_ok mixed (l := [(125, togetherS), (104, cfirstRS)]) ⟨sf125, sf104b, trivial⟩ (es := []) trivial 3 Try.func105 rfl (by kernel_rfl) fun args h => ?_
  unfold relS at h
  split at h
  · rename_i wl lv n get g0 g1 g2 g3 g4 g5 g6 g7 g8 g9 p q
    obtain ⟨⟨hL, hi⟩, hp, hq⟩ : (isL obsL n get ∧ in10L n get) ∧ in10 p ∧ in10 q := h
    obtain ⟨hn, s, rfl⟩ := isL.get hL
    refine ⟨rfl, ?_⟩
    show evalCode _ _ _ fun o => match o with
      | .normal st | .ret st => withP _ (_ ∧ PLe _ (.int .u8 (relM lv [g0, g1, g2, g3, g4, g5, g6, g7, g8, g9] n s p q)))
      | _ => False
    refine (Bool.eq_false_or_eq_true (([g0, g1, g2, g3, g4, g5, g6, g7, g8, g9] : List Int).getD (ix p) 0 == ([g0, g1, g2, g3, g4, g5, g6, g7, g8, g9] : List Int).getD (ix q) 0)).elim (fun p1 => ?_) fun p1 => ?_
    · skip
      have e : relM lv [g0, g1, g2, g3, g4, g5, g6, g7, g8, g9] n s p q = 2 := by unfold relM; simp only [p1, cond_true, cond_false]
      rw [e]
      repeat' first | (exact PLe.refl _) | (exact BLe.refl _) | (exact PLeL.nil) | (exact BLeL.nil) | (refine ⟨?_, ?_⟩) | (refine PLeL.cons ?_ ?_) | (refine BLeL.cons ?_ ?_) | (refine ple_int ?_) | (refine ple_bool ?_) | (refine ple_tt ?_) | (refine ple_ff ?_) | (refine PLe.aggL ?_) | (refine PLe.tupL ?_) | (refine BLe.cellsL ?_) | (refine fun h => absurd h (by decide)) | (refine fun h => ?_; exfalso; simp only [p1, Int.toNat_natCast, Bool.cond_true_left, Bool.cond_false_right, Bool.cond_true_right, Bool.cond_false_left, cond_true, cond_false, Bool.not_true, Bool.not_false, Bool.not_not, Bool.and_true, Bool.true_and, Bool.and_false, Bool.false_and, Bool.or_true, Bool.true_or, Bool.or_false, Bool.false_or, beq_self_eq_true, bne_self_eq_false, Bool.true_eq_false, Bool.false_eq_true, reduceCtorEq, Bool.and_self, Bool.or_self, Int.reduceBEq, Int.reduceBNe, Int.reduceNeg, decide_true, decide_false, Int.reduceLT, Int.reduceLE, Int.reduceGT] at h; done) | (refine fun (h : @Eq Bool _ _) => ?_)
      all_goals first | trivial | rfl | omega | (exact ⟨hp, hq⟩) | (exact ⟨⟨hL, hi⟩, hp, hq⟩) | (exact hp.1) | (exact hp.2) | (exact hq.1) | (exact hq.2) | (exact hL) | (exact hi) | (exact hp) | (exact hq) | (simp only [p1, Int.toNat_natCast, Bool.cond_true_left, Bool.cond_false_right, Bool.cond_true_right, Bool.cond_false_left, cond_true, cond_false, Bool.not_true, Bool.not_false, Bool.not_not, Bool.and_true, Bool.true_and, Bool.and_false, Bool.false_and, Bool.or_true, Bool.true_or, Bool.or_false, Bool.false_or, beq_self_eq_true, bne_self_eq_false, Bool.true_eq_false, Bool.false_eq_true, reduceCtorEq, Bool.and_self, Bool.or_self, Int.reduceBEq, Int.reduceBNe, Int.reduceNeg, decide_true, decide_false, Int.reduceLT, Int.reduceLE, Int.reduceGT]; done) | (show @Eq Bool _ _; simp only [p1, Int.toNat_natCast, Bool.cond_true_left, Bool.cond_false_right, Bool.cond_true_right, Bool.cond_false_left, cond_true, cond_false, Bool.not_true, Bool.not_false, Bool.not_not, Bool.and_true, Bool.true_and, Bool.and_false, Bool.false_and, Bool.or_true, Bool.true_or, Bool.or_false, Bool.false_or, beq_self_eq_true, bne_self_eq_false, Bool.true_eq_false, Bool.false_eq_true, reduceCtorEq, Bool.and_self, Bool.or_self, Int.reduceBEq, Int.reduceBNe, Int.reduceNeg, decide_true, decide_false, Int.reduceLT, Int.reduceLE, Int.reduceGT]; done) | skip
    · refine (Bool.eq_false_or_eq_true (isB lv [g0, g1, g2, g3, g4, g5, g6, g7, g8, g9] n s p q)).elim (fun p2 => ?_) fun p2 => ?_
      · skip
        have e : relM lv [g0, g1, g2, g3, g4, g5, g6, g7, g8, g9] n s p q = 0 := by unfold relM; simp only [p1, p2, cond_true, cond_false]
        rw [e]
        have p2' : decide (0 ≤ firstN (fun i => agB lv [g0, g1, g2, g3, g4, g5, g6, g7, g8, g9] p q (obsOf (obsL (s i))).a (obsOf (obsL (s i))).b (obsOf (obsL (s i))).hi) n) = _ := p2
        repeat' first | (exact PLe.refl _) | (exact BLe.refl _) | (exact PLeL.nil) | (exact BLeL.nil) | (refine ⟨?_, ?_⟩) | (refine PLeL.cons ?_ ?_) | (refine BLeL.cons ?_ ?_) | (refine ple_int ?_) | (refine ple_bool ?_) | (refine ple_tt ?_) | (refine ple_ff ?_) | (refine PLe.aggL ?_) | (refine PLe.tupL ?_) | (refine BLe.cellsL ?_) | (refine fun h => absurd h (by decide)) | (refine fun h => ?_; exfalso; simp only [p1, p2', Int.toNat_natCast, Bool.cond_true_left, Bool.cond_false_right, Bool.cond_true_right, Bool.cond_false_left, cond_true, cond_false, Bool.not_true, Bool.not_false, Bool.not_not, Bool.and_true, Bool.true_and, Bool.and_false, Bool.false_and, Bool.or_true, Bool.true_or, Bool.or_false, Bool.false_or, beq_self_eq_true, bne_self_eq_false, Bool.true_eq_false, Bool.false_eq_true, reduceCtorEq, Bool.and_self, Bool.or_self, Int.reduceBEq, Int.reduceBNe, Int.reduceNeg, decide_true, decide_false, Int.reduceLT, Int.reduceLE, Int.reduceGT] at h; done) | (refine fun (h : @Eq Bool _ _) => ?_)
        all_goals first | trivial | rfl | omega | (exact ⟨hp, hq⟩) | (exact ⟨⟨hL, hi⟩, hp, hq⟩) | (exact hp.1) | (exact hp.2) | (exact hq.1) | (exact hq.2) | (exact hL) | (exact hi) | (exact hp) | (exact hq) | (simp only [p1, p2', Int.toNat_natCast, Bool.cond_true_left, Bool.cond_false_right, Bool.cond_true_right, Bool.cond_false_left, cond_true, cond_false, Bool.not_true, Bool.not_false, Bool.not_not, Bool.and_true, Bool.true_and, Bool.and_false, Bool.false_and, Bool.or_true, Bool.true_or, Bool.or_false, Bool.false_or, beq_self_eq_true, bne_self_eq_false, Bool.true_eq_false, Bool.false_eq_true, reduceCtorEq, Bool.and_self, Bool.or_self, Int.reduceBEq, Int.reduceBNe, Int.reduceNeg, decide_true, decide_false, Int.reduceLT, Int.reduceLE, Int.reduceGT]; done) | (show @Eq Bool _ _; simp only [p1, p2', Int.toNat_natCast, Bool.cond_true_left, Bool.cond_false_right, Bool.cond_true_right, Bool.cond_false_left, cond_true, cond_false, Bool.not_true, Bool.not_false, Bool.not_not, Bool.and_true, Bool.true_and, Bool.and_false, Bool.false_and, Bool.or_true, Bool.true_or, Bool.or_false, Bool.false_or, beq_self_eq_true, bne_self_eq_false, Bool.true_eq_false, Bool.false_eq_true, reduceCtorEq, Bool.and_self, Bool.or_self, Int.reduceBEq, Int.reduceBNe, Int.reduceNeg, decide_true, decide_false, Int.reduceLT, Int.reduceLE, Int.reduceGT]; done) | skip
      · skip
        have e : relM lv [g0, g1, g2, g3, g4, g5, g6, g7, g8, g9] n s p q = 1 := by unfold relM; simp only [p1, p2, cond_true, cond_false]
        rw [e]
        have p2' : decide (0 ≤ firstN (fun i => agB lv [g0, g1, g2, g3, g4, g5, g6, g7, g8, g9] p q (obsOf (obsL (s i))).a (obsOf (obsL (s i))).b (obsOf (obsL (s i))).hi) n) = _ := p2
        repeat' first | (exact PLe.refl _) | (exact BLe.refl _) | (exact PLeL.nil) | (exact BLeL.nil) | (refine ⟨?_, ?_⟩) | (refine PLeL.cons ?_ ?_) | (refine BLeL.cons ?_ ?_) | (refine ple_int ?_) | (refine ple_bool ?_) | (refine ple_tt ?_) | (refine ple_ff ?_) | (refine PLe.aggL ?_) | (refine PLe.tupL ?_) | (refine BLe.cellsL ?_) | (refine fun h => absurd h (by decide)) | (refine fun h => ?_; exfalso; simp only [p1, p2', Int.toNat_natCast, Bool.cond_true_left, Bool.cond_false_right, Bool.cond_true_right, Bool.cond_false_left, cond_true, cond_false, Bool.not_true, Bool.not_false, Bool.not_not, Bool.and_true, Bool.true_and, Bool.and_false, Bool.false_and, Bool.or_true, Bool.true_or, Bool.or_false, Bool.false_or, beq_self_eq_true, bne_self_eq_false, Bool.true_eq_false, Bool.false_eq_true, reduceCtorEq, Bool.and_self, Bool.or_self, Int.reduceBEq, Int.reduceBNe, Int.reduceNeg, decide_true, decide_false, Int.reduceLT, Int.reduceLE, Int.reduceGT] at h; done) | (refine fun (h : @Eq Bool _ _) => ?_)
        all_goals first | trivial | rfl | omega | (exact ⟨hp, hq⟩) | (exact ⟨⟨hL, hi⟩, hp, hq⟩) | (exact hp.1) | (exact hp.2) | (exact hq.1) | (exact hq.2) | (exact hL) | (exact hi) | (exact hp) | (exact hq) | (simp only [p1, p2', Int.toNat_natCast, Bool.cond_true_left, Bool.cond_false_right, Bool.cond_true_right, Bool.cond_false_left, cond_true, cond_false, Bool.not_true, Bool.not_false, Bool.not_not, Bool.and_true, Bool.true_and, Bool.and_false, Bool.false_and, Bool.or_true, Bool.true_or, Bool.or_false, Bool.false_or, beq_self_eq_true, bne_self_eq_false, Bool.true_eq_false, Bool.false_eq_true, reduceCtorEq, Bool.and_self, Bool.or_self, Int.reduceBEq, Int.reduceBNe, Int.reduceNeg, decide_true, decide_false, Int.reduceLT, Int.reduceLE, Int.reduceGT]; done) | (show @Eq Bool _ _; simp only [p1, p2', Int.toNat_natCast, Bool.cond_true_left, Bool.cond_false_right, Bool.cond_true_right, Bool.cond_false_left, cond_true, cond_false, Bool.not_true, Bool.not_false, Bool.not_not, Bool.and_true, Bool.true_and, Bool.and_false, Bool.false_and, Bool.or_true, Bool.true_or, Bool.or_false, Bool.false_or, beq_self_eq_true, bne_self_eq_false, Bool.true_eq_false, Bool.false_eq_true, reduceCtorEq, Bool.and_self, Bool.or_self, Int.reduceBEq, Int.reduceBNe, Int.reduceNeg, decide_true, decide_false, Int.reduceLT, Int.reduceLE, Int.reduceGT]; done) | skip
  · exact h.elim
def gL (v : Svy) : List Int := [groupsM v 0, groupsM v 1, groupsM v 2, groupsM v 3, groupsM v 4, groupsM v 5, groupsM v 6, groupsM v 7, groupsM v 8, groupsM v 9]
def clashB (v : Svy) : Bool := decide (0 ≤ firstN (fun i => clB v.lv (gL v) (v.s i).a (v.s i).b (v.s i).hi) v.n)
def relV (v : Svy) (i j : Nat) : Int := relM v.lv (gL v) v.n v.s i j
def rowG (v : Svy) (i j : Nat) : List PV := [.int .u8 (relV v i j)]
def relsG (v : Svy) (i : Nat) : List PV := [.slice none v.wl.toNat (rowG v i)]
def rowsG (v : Svy) (a i : Nat) : List PV := bif Nat.blt i a then relsG v i else [.nils]
theorem ask_ok (v : Svy) (h : okV v) : SF Try.prog 93 (V.atS [.agg (svyC v)] (.tup [.agg (askC v (groupsM v)), I 0])) := by
  refine sf_at sf93 ?_ ?_
  · show isL obsL v.n _
    exact .mk v.s (by have := h.n; omega) rfl
  · show PV.tup [.agg (askC (askV v) (askG v)), I (svE v)] = _
    have e := svE_okV h
    have e0 : (svE v != 0) = false := by rw [e]; rfl
    have e1 : askV v = v := by unfold askV; rw [e0]; rfl
    have e2 : askG v = groupsM v := by unfold askG; rw [e0]; rfl
    rw [e1, e2, e]
def relN (v : Svy) : Nat := bif clashB v then 0 else v.wl.toNat
def relE (v : Svy) : Int := bif clashB v then 9 else 0
theorem rows_next (v : Svy) (a : Nat) : ∀ k, k < v.wl.toNat → (bif Nat.beq k a then [.slice none v.wl.toNat (rowG v a)] else rowsG v a k) = rowsG v (a + 1) k := by
  intro k _
  by_cases h : k = a
  · subst h
    have e : Nat.beq k k = true := by simp
    rw [e]
    unfold rowsG
    rw [show Nat.blt k (k + 1) = true from blt_t (by omega)]
    rfl
  · have e : Nat.beq k a = false := by rw [Bool.eq_false_iff]; intro e; exact h (Nat.eq_of_beq_eq_true e)
    rw [e]
    unfold rowsG
    by_cases h2 : k < a
    · rw [blt_t h2, blt_t (by omega)]; rfl
    · rw [blt_f h2, blt_f (by omega)]; rfl
theorem rows_but (v : Svy) (a : Nat) {x : List PV} : ∀ k, k < v.wl.toNat → k ≠ a → (bif Nat.beq k a then x else rowsG v a k) = rowsG v a k := by
  intro k _ h
  have e : Nat.beq k a = false := by rw [Bool.eq_false_iff]; intro e; exact h (Nat.eq_of_beq_eq_true e)
  rw [e]; rfl
theorem rows_end (v : Svy) : ∀ k, k < v.wl.toNat → rowsG v v.wl.toNat k = relsG v k := by
  intro k h
  unfold rowsG
  rw [blt_t h]; rfl
theorem rows_at (v : Svy) (a : Nat) : rowsG v a a = [.nils] := by
  unfold rowsG
  rw [blt_f (Nat.lt_irrefl a)]; rfl
set_option maxRecDepth 20000 in
set_option maxHeartbeats 2000000 in
theorem rels_ok (v : Svy) (hok : okV v) : SF Try.prog 50 (V.atS [.agg (svyC v)] (.tup [.slice none (relN v) (relsG v), I (relE v)])) := by
  refine sf_gen types_ok mixed (l := [(93, V.atS [.agg (svyC v)] (.tup [.agg (askC v (groupsM v)), I 0])), (104, cfirstCS), (105, relS)]) ⟨ask_ok v hok, sf104a, sf105, trivial⟩ (es := []) trivial (its := []) trivial (fr := []) trivial [(10, [.row 26 7 48 5 1])] [] false [] [] 1 Try.func50 rfl (by kernel_rfl) fun args h => ?_
  have h : args = _ := h
  subst h
  refine ⟨rfl, ?_⟩
  show evalCode _ _ _ fun o => match o with
    | .normal st | .ret st => withP _ (_ ∧ PLe _ (.tup [.slice none (relN v) (relsG v), I (relE v)]))
    | _ => False
  have hn := hok.n
  have hw := hok.wl
  have hL : isL obsL v.n fun i => obsL (v.s i) := .mk v.s (by omega) rfl
  have hi : ∀ i, i < v.n → in10 (obsOf (obsL (v.s i))).a ∧ in10 (obsOf (obsL (v.s i))).b := fun i h => by
    obtain ⟨⟨h1, h2⟩, ⟨h3, h4⟩, _⟩ := hok.s i h
    exact ⟨⟨h1, by show (v.s i).a < 10; omega⟩, ⟨h3, by show (v.s i).b < 10; omega⟩⟩
  have hN : v.wl.toNat ≤ 10 := by omega
  refine (Bool.eq_false_or_eq_true (clashB v)).elim (fun p1 => ?_) fun p1 => ?_
  · have e1 : relN v = 0 := by unfold relN; rw [p1]; rfl
    have e2 : relE v = 9 := by unfold relE; rw [p1]; rfl
    have p1' : decide (0 ≤ firstN (fun i => clB v.lv (gL v) (obsOf (obsL (v.s i))).a (obsOf (obsL (v.s i))).b (obsOf (obsL (v.s i))).hi) v.n) = true := p1
    unfold gL at p1'
    rw [e1, e2]
    repeat' first | (exact ple_slice rfl fun i hi => by cases hi) | (exact PLe.refl _) | (exact BLe.refl _) | (exact PLeL.nil) | (exact BLeL.nil) | (refine ⟨?_, ?_⟩) | (refine PLeL.cons ?_ ?_) | (refine BLeL.cons ?_ ?_) | (refine ple_int ?_) | (refine ple_bool ?_) | (refine ple_tt ?_) | (refine ple_ff ?_) | (refine PLe.aggL ?_) | (refine PLe.tupL ?_) | (refine BLe.cellsL ?_) | (refine fun h => absurd h (by decide)) | (refine fun h => ?_; exfalso; simp only [p1', Int.toNat_natCast, Bool.cond_true_left, Bool.cond_false_right, Bool.cond_true_right, Bool.cond_false_left, cond_true, cond_false, Bool.not_true, Bool.not_false, Bool.not_not, Bool.and_true, Bool.true_and, Bool.and_false, Bool.false_and, Bool.or_true, Bool.true_or, Bool.or_false, Bool.false_or, beq_self_eq_true, bne_self_eq_false, Bool.true_eq_false, Bool.false_eq_true, reduceCtorEq, Bool.and_self, Bool.or_self, Int.reduceBEq, Int.reduceBNe, Int.reduceNeg, decide_true, decide_false, Int.reduceLT, Int.reduceLE, Int.reduceGT] at h; done) | (refine fun (h : @Eq Bool _ _) => ?_)
    all_goals first | trivial | rfl | omega | (exact ⟨hL, hi⟩) | (exact hL) | (exact hi) | (exact ⟨⟨hL, hi⟩, ⟨by omega, by omega⟩, by omega, by omega⟩) | (simp only [p1', Int.toNat_natCast, Bool.cond_true_left, Bool.cond_false_right, Bool.cond_true_right, Bool.cond_false_left, cond_true, cond_false, Bool.not_true, Bool.not_false, Bool.not_not, Bool.and_true, Bool.true_and, Bool.and_false, Bool.false_and, Bool.or_true, Bool.true_or, Bool.or_false, Bool.false_or, beq_self_eq_true, bne_self_eq_false, Bool.true_eq_false, Bool.false_eq_true, reduceCtorEq, Bool.and_self, Bool.or_self, Int.reduceBEq, Int.reduceBNe, Int.reduceNeg, decide_true, decide_false, Int.reduceLT, Int.reduceLE, Int.reduceGT]; done) | (show @Eq Bool _ _; simp only [p1', Int.toNat_natCast, Bool.cond_true_left, Bool.cond_false_right, Bool.cond_true_right, Bool.cond_false_left, cond_true, cond_false, Bool.not_true, Bool.not_false, Bool.not_not, Bool.and_true, Bool.true_and, Bool.and_false, Bool.false_and, Bool.or_true, Bool.true_or, Bool.or_false, Bool.false_or, beq_self_eq_true, bne_self_eq_false, Bool.true_eq_false, Bool.false_eq_true, reduceCtorEq, Bool.and_self, Bool.or_self, Int.reduceBEq, Int.reduceBNe, Int.reduceNeg, decide_true, decide_false, Int.reduceLT, Int.reduceLE, Int.reduceGT]; done) | skip
  · have e1 : relN v = v.wl.toNat := by unfold relN; rw [p1]; rfl
    have e2 : relE v = 0 := by unfold relE; rw [p1]; rfl
    have p1' : decide (0 ≤ firstN (fun i => clB v.lv (gL v) (obsOf (obsL (v.s i))).a (obsOf (obsL (v.s i))).b (obsOf (obsL (v.s i))).hi) v.n) = false := p1
    unfold gL at p1'
    rw [e1, e2]
    repeat' first | (exact ple_slice rfl fun i hi => by cases hi) | (exact PLe.refl _) | (exact BLe.refl _) | (exact PLeL.nil) | (exact BLeL.nil) | (refine ⟨?_, ?_⟩) | (refine PLeL.cons ?_ ?_) | (refine BLeL.cons ?_ ?_) | (refine ple_int ?_) | (refine ple_bool ?_) | (refine ple_tt ?_) | (refine ple_ff ?_) | (refine PLe.aggL ?_) | (refine PLe.tupL ?_) | (refine BLe.cellsL ?_) | (refine halt_rng (cnt 29) v.wl.toNat [4, 6, 28, 29] [4, 26] (fun a => [.ptr 4 0, .own 26 v.wl.toNat, I (v.wl.toNat : Nat), I a]) (fun a => [.cells (askC v (groupsM v)), .arr v.wl.toNat 1 (rowsG v a)]) (fun _ => True) rfl (.mk ?_ ?_) trivial ?_) | (refine fun h => absurd h (by decide)) | (refine fun h => ?_; exfalso; simp only [p1', Int.toNat_natCast, Bool.cond_true_left, Bool.cond_false_right, Bool.cond_true_right, Bool.cond_false_left, cond_true, cond_false, Bool.not_true, Bool.not_false, Bool.not_not, Bool.and_true, Bool.true_and, Bool.and_false, Bool.false_and, Bool.or_true, Bool.true_or, Bool.or_false, Bool.false_or, beq_self_eq_true, bne_self_eq_false, Bool.true_eq_false, Bool.false_eq_true, reduceCtorEq, Bool.and_self, Bool.or_self, Int.reduceBEq, Int.reduceBNe, Int.reduceNeg, decide_true, decide_false, Int.reduceLT, Int.reduceLE, Int.reduceGT] at h; done) | (refine fun (h : @Eq Bool _ _) => ?_)
    all_goals first | trivial | rfl | omega | (exact ⟨hL, hi⟩) | (exact hL) | (exact hi) | (exact ⟨⟨hL, hi⟩, ⟨by omega, by omega⟩, by omega, by omega⟩) | (show ((24 : Nat) : Int) * v.wl ≤ 140737488355328; omega) | (exact ble_arr rfl fun i hi => rfl) | (simp only [p1', Int.toNat_natCast, Bool.cond_true_left, Bool.cond_false_right, Bool.cond_true_right, Bool.cond_false_left, cond_true, cond_false, Bool.not_true, Bool.not_false, Bool.not_not, Bool.and_true, Bool.true_and, Bool.and_false, Bool.false_and, Bool.or_true, Bool.true_or, Bool.or_false, Bool.false_or, beq_self_eq_true, bne_self_eq_false, Bool.true_eq_false, Bool.false_eq_true, reduceCtorEq, Bool.and_self, Bool.or_self, Int.reduceBEq, Int.reduceBNe, Int.reduceNeg, decide_true, decide_false, Int.reduceLT, Int.reduceLE, Int.reduceGT]; done) | (show @Eq Bool _ _; simp only [p1', Int.toNat_natCast, Bool.cond_true_left, Bool.cond_false_right, Bool.cond_true_right, Bool.cond_false_left, cond_true, cond_false, Bool.not_true, Bool.not_false, Bool.not_not, Bool.and_true, Bool.true_and, Bool.and_false, Bool.false_and, Bool.or_true, Bool.true_or, Bool.or_false, Bool.false_or, beq_self_eq_true, bne_self_eq_false, Bool.true_eq_false, Bool.false_eq_true, reduceCtorEq, Bool.and_self, Bool.or_self, Int.reduceBEq, Int.reduceBNe, Int.reduceNeg, decide_true, decide_false, Int.reduceLT, Int.reduceLE, Int.reduceGT]; done) | skip
    intro a ha _
    refine ⟨fun h1 => ?_, fun h1 => ?_⟩
    · have hlt : a < v.wl.toNat := by
        have : (a : Int) < (v.wl.toNat : Int) := of_decide_eq_true h1
        omega
      have e3 := succ_w hlt (by omega)
      clear h1
      repeat' first | (exact BLe.arrx _ _ _ _ _ _ (fun _ _ _ => rfl) (ple_slice rfl fun x hx => by cases hx)) | (exact PLe.refl _) | (exact BLe.refl _) | (exact PLeL.nil) | (exact BLeL.nil) | (refine ⟨?_, ?_⟩) | (refine PLeL.cons ?_ ?_) | (refine BLeL.cons ?_ ?_) | (refine ple_int ?_) | (refine ple_bool ?_) | (refine ple_tt ?_) | (refine ple_ff ?_) | (refine PLe.aggL ?_) | (refine PLe.tupL ?_) | (refine BLe.cellsL ?_) | (refine halt_rng (cnt 34) v.wl.toNat [4, 6, 7, 28, 29, 33, 34] [4, 26, 48] (fun j => [.ptr 4 0, .own 26 v.wl.toNat, I a, I (v.wl.toNat : Nat), I a, I (v.wl.toNat : Nat), I j]) (fun j => [.cells (askC v (groupsM v)), .arrx v.wl.toNat (rowsG v a) a (.slice (some 48) j (rowG v a)), .grow j 5 1]) (fun _ => True) rfl (.mk ?_ ?_) trivial ?_) | (refine fun h => absurd h (by decide)) | (refine fun (h : @Eq Bool _ _) => ?_)
      all_goals first | trivial | rfl | omega | (exact rows_at v a) | skip
      intro j hj _
      refine ⟨fun h2 => ?_, fun h2 => ?_⟩
      · have hlt2 : j < v.wl.toNat := by
          have : (j : Int) < (v.wl.toNat : Int) := of_decide_eq_true h2
          omega
        have e4 := succ_w hlt2 (by omega)
        clear h2
        repeat' first | (refine BLe.arrx _ _ _ _ _ _ (rows_but v a) ?_) | (exact PLe.refl _) | (exact BLe.refl _) | (exact PLeL.nil) | (exact BLeL.nil) | (refine ⟨?_, ?_⟩) | (refine PLeL.cons ?_ ?_) | (refine BLeL.cons ?_ ?_) | (refine ple_int ?_) | (refine ple_bool ?_) | (refine ple_tt ?_) | (refine ple_ff ?_) | (refine PLe.aggL ?_) | (refine PLe.tupL ?_) | (refine BLe.cellsL ?_) | (refine next_rng (cn := cnt 34) rfl (fun _ => rfl) hlt2 trivial (.mk ?_ ?_)) | (refine fun h => absurd h (by decide)) | (refine fun (h : @Eq Bool _ _) => ?_)
        all_goals first | trivial | rfl | omega | (exact ⟨hL, hi⟩) | (exact hL) | (exact hi) | (exact ⟨⟨hL, hi⟩, ⟨by omega, by omega⟩, by omega, by omega⟩) | (exact e4) | (show (j + 1) * 1 ≤ 140737488355328; omega) | (exact fun _ _ => rfl) | (intro x hx; obtain rfl : x = 0 := (by omega); exact ⟨rfl, rfl⟩) | skip
        show PLe (.slice (some 48) (j + 1) _) _
        refine ple_slice rfl fun x hx => ?_
        by_cases hxk : x < j
        · rw [blt_t hxk]; rfl
        · obtain rfl : x = j := by
            have hx : x < j + 1 := hx
            omega
          rw [blt_f hxk, Nat.sub_self]; rfl
      · have hjn : j = v.wl.toNat := by
          have : ¬ ((j : Int) < (v.wl.toNat : Int)) := of_decide_eq_false h2
          omega
        subst hjn
        clear h2
        repeat' first | (exact BLe.arrxa _ _ _ _ _ rfl (rows_next v a)) | (exact PLe.refl _) | (exact BLe.refl _) | (exact PLeL.nil) | (exact BLeL.nil) | (refine ⟨?_, ?_⟩) | (refine PLeL.cons ?_ ?_) | (refine BLeL.cons ?_ ?_) | (refine ple_int ?_) | (refine ple_bool ?_) | (refine ple_tt ?_) | (refine ple_ff ?_) | (refine PLe.aggL ?_) | (refine PLe.tupL ?_) | (refine BLe.cellsL ?_) | (refine next_rng (cn := cnt 29) rfl (fun _ => rfl) hlt trivial (.mk ?_ ?_)) | (refine fun h => absurd h (by decide)) | (refine fun (h : @Eq Bool _ _) => ?_)
        all_goals first | trivial | rfl | omega | (exact e3) | skip
    · have han : a = v.wl.toNat := by
        have : ¬ ((a : Int) < (v.wl.toNat : Int)) := of_decide_eq_false h1
        omega
      subst han
      clear h1
      repeat' first | (exact ple_slice rfl (rows_end v)) | (exact PLe.refl _) | (exact BLe.refl _) | (exact PLeL.nil) | (exact BLeL.nil) | (refine ⟨?_, ?_⟩) | (refine PLeL.cons ?_ ?_) | (refine BLeL.cons ?_ ?_) | (refine ple_int ?_) | (refine ple_bool ?_) | (refine ple_tt ?_) | (refine ple_ff ?_) | (refine PLe.aggL ?_) | (refine PLe.tupL ?_) | (refine BLe.cellsL ?_) | (refine fun h => absurd h (by decide)) | (refine fun (h : @Eq Bool _ _) => ?_)
      all_goals first | trivial | rfl | omega | (exact Nat.le_refl _) | skip
end Go.Proofs.Ytnjhbmcambofgaa
