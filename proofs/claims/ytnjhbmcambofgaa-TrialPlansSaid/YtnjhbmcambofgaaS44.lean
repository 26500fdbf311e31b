/- Layer 4: what a pulse shows. -/
import Derived.Test.YtnjhbmcambofgaaS43
namespace Go.Proofs.Ytnjhbmcambofgaa
open Go.V
set_option linter.unusedSimpArgs false
set_option linter.unusedVariables false

def obs0 : Obs := ⟨0, 0, 0, 0⟩
def zeroV : Svy := ⟨0, 0, 0, fun _ => obs0⟩
def pulA (v : Svy) (q : Int) (p : Nat → Int) (m : Nat) : Int := bif (p m == p q.toNat) then v.lv else v.lv - 1
def pulL (v : Svy) (q : Int) (p : Nat → Int) : Nat → List Obs
  | 0 => []
  | m + 1 => bif ((m : Int) == q) then pulL v q p m else pulL v q p m ++ [⟨q, (m : Int), pulA v q p m, pulA v q p m⟩]
def pulG (v : Svy) (l : List Obs) (i : Nat) : Obs := bif Nat.blt i v.n then v.s i else l.getD (i - v.n) obs0
def pulV (v : Svy) (q : Int) (p : Nat → Int) (m : Nat) : Svy := ⟨v.wl, v.lv, v.n + (pulL v q p m).length, pulG v (pulL v q p m)⟩
def allSame (p : Nat → Int) (q : Int) (k : Nat) : Bool := allN (fun i => p i == p q.toNat) k
theorem pulL_len (v : Svy) (q : Int) (p : Nat → Int) : ∀ m : Nat, (pulL v q p m).length ≤ m ∧ (0 ≤ q → q < (m : Int) → (pulL v q p m).length + 1 = m)
    ∧ ((m : Int) ≤ q → (pulL v q p m).length = m)
  | 0 => ⟨Nat.le_refl _, fun h1 h2 => by omega, fun _ => rfl⟩
  | m + 1 => by
    obtain ⟨h1, h2, h3⟩ := pulL_len v q p m
    have e : pulL v q p (m + 1) = bif ((m : Int) == q) then pulL v q p m else pulL v q p m ++ [⟨q, (m : Int), pulA v q p m, pulA v q p m⟩] := rfl
    rw [e]
    cases hb : ((m : Int) == q) with
    | true =>
      have hq : (m : Int) = q := by simpa using hb
      refine ⟨by show (pulL v q p m).length ≤ _; omega, fun h4 h5 => ?_, fun h4 => ?_⟩
      · show (pulL v q p m).length + 1 = m + 1
        rw [h3 (by omega)]
      · omega
    | false =>
      have hq : ¬ (m : Int) = q := by simpa using hb
      have el : (bif false then pulL v q p m else pulL v q p m ++ [⟨q, (m : Int), pulA v q p m, pulA v q p m⟩]).length = (pulL v q p m).length + 1 := by
        show (pulL v q p m ++ [_]).length = _
        rw [List.length_append]; rfl
      rw [el]
      refine ⟨by omega, fun h4 h5 => ?_, fun h4 => ?_⟩
      · have := h2 h4 (by omega)
        omega
      · have := h3 (by omega)
        omega
theorem pulG_old {v : Svy} {l : List Obs} {x : Obs} {i : Nat} (h : i < v.n + l.length) : pulG v (l ++ [x]) i = pulG v l i := by
  unfold pulG
  by_cases hi : i < v.n
  · rw [blt_t hi]; rfl
  · rw [blt_f hi]
    show (l ++ [x]).getD (i - v.n) obs0 = l.getD (i - v.n) obs0
    rw [List.getD, List.getElem?_append_left (by omega)]
    rfl
theorem pulG_new {v : Svy} {l : List Obs} {x : Obs} : pulG v (l ++ [x]) (v.n + l.length) = x := by
  unfold pulG
  rw [blt_f (by omega)]
  show (l ++ [x]).getD (v.n + l.length - v.n) obs0 = x
  rw [show v.n + l.length - v.n = l.length by omega]
  simp [List.getD]
theorem pulG_nil {v : Svy} {i : Nat} (h : i < v.n) : pulG v [] i = v.s i := by
  unfold pulG
  rw [blt_t h]; rfl
theorem obsG_len {s : Nat → Obs} {n : Nat} : ∀ i, i < n → ((fun i => obsL (s i)) i).length = 4 := fun _ _ => rfl
theorem obs_ok {s : Nat → Obs} {n : Nat} : ∀ i, i < n → ((fun i => obsL (s i)) i).length = 4 ∧ ((fun i => obsL (s i)) i).all sc1 = true ∧ ((fun i => obsL (s i)) i).all noref1 = true := fun _ _ => ⟨rfl, rfl, rfl⟩
theorem grow_eq {v : Svy} {q : Int} {p : Nat → Int} {m : Nat} {f : Nat → List PV} {t : Option Nat} (x : Obs) (hq : ((m : Int) == q) = false) (hx : x = ⟨q, (m : Int), pulA v q p m, pulA v q p m⟩)
    (h1 : ∀ i, i < v.n + (pulL v q p m).length → f i = obsL (pulG v (pulL v q p m) i)) (h2 : f (v.n + (pulL v q p m).length) = obsL x) :
    PLe (.slice t (v.n + (pulL v q p m).length + 1) f) (.slice t (v.n + (pulL v q p (m + 1)).length) fun i => obsL (pulG v (pulL v q p (m + 1)) i)) := by
  have e : pulL v q p (m + 1) = pulL v q p m ++ [x] := by
    show (bif ((m : Int) == q) then pulL v q p m else pulL v q p m ++ [_]) = _
    rw [hq, hx]; rfl
  rw [e]
  refine ple_slice (by rw [List.length_append]; rfl) fun i hi => ?_
  by_cases hl : i < v.n + (pulL v q p m).length
  · rw [h1 i hl, pulG_old hl]
  · obtain rfl : i = v.n + (pulL v q p m).length := by omega
    rw [h2, pulG_new]
theorem grow_len {v : Svy} {q : Int} {p : Nat → Int} {m : Nat} (hq : ((m : Int) == q) = false) : (pulL v q p (m + 1)).length = (pulL v q p m).length + 1 := by
  show (bif ((m : Int) == q) then pulL v q p m else pulL v q p m ++ [_]).length = _
  rw [hq]
  show (pulL v q p m ++ [_]).length = _
  rw [List.length_append]; rfl
theorem skip_eq {v : Svy} {q : Int} {p : Nat → Int} {m : Nat} (hq : ((m : Int) == q) = true) : pulL v q p (m + 1) = pulL v q p m := by
  show (bif ((m : Int) == q) then pulL v q p m else _) = _
  rw [hq]; rfl
theorem d83 (k : Nat) (p : Nat → Int) (q : Int) (hk : k ≤ 1000) (hq : okI k q) : SF Try.prog 83 (V.atS [.slice none k fun i => intL (p i), .fn (.func 113) [] [.cptr [.slice none k fun i => intL (p i)], .cptr [I q]]] (.bool (allSame p q k))) := sf_at sf83c (show isL intL k _ ∧ isL intL k _ ∧ okI k q from ⟨isLi k p hk, isLi k p hk, hq⟩) rfl
set_option maxRecDepth 20000 in
set_option maxHeartbeats 2000000 in
theorem pulseE1 (v : Svy) (hn : v.n ≤ 1000) (q : Int) (k : Nat) (p : Nat → Int) (hk0 : k ≤ 1000) (p0 : (svE v != 0) = true) : SF Try.prog 56 (V.atS [.agg (svyC v), I q, .slice none k fun i => intL (p i)] (.tup [.agg (svyC zeroV), I (svE v)])) := by
  refine sf_gen types_ok mixed (l := [(45, V.atS [.agg (svyC v)] (I (svE v)))]) ⟨d45 v hn, trivial⟩ (es := []) trivial (its := []) trivial (fr := []) trivial [] [] false [] [] 3 Try.func56 rfl (by kernel_rfl) fun args h => ?_
  have h : args = _ := h
  subst h
  refine ⟨rfl, ?_⟩
  show evalCode _ _ _ fun o => match o with
    | .normal st | .ret st => withP _ (_ ∧ PLe _ (.tup [.agg (svyC zeroV), I (svE v)]))
    | _ => False
  repeat' first | (exact PLe.refl _) | (exact BLe.refl _) | (exact PLeL.nil) | (exact BLeL.nil) | (refine ⟨?_, ?_⟩) | (refine PLeL.cons ?_ ?_) | (refine BLeL.cons ?_ ?_) | (refine ple_int ?_) | (refine ple_bool ?_) | (refine ple_tt ?_) | (refine ple_ff ?_) | (refine PLe.aggL ?_) | (refine PLe.tupL ?_) | (refine BLe.cellsL ?_) | (refine fun h => absurd h (by decide)) | (refine fun h => ?_; exfalso; simp only [p0, Int.toNat_natCast, Bool.cond_true_left, Bool.cond_false_right, Bool.cond_true_right, Bool.cond_false_left, cond_true, cond_false, Bool.not_true, Bool.not_false, Bool.not_not, Bool.and_true, Bool.true_and, Bool.and_false, Bool.false_and, Bool.or_true, Bool.true_or, Bool.or_false, Bool.false_or, beq_self_eq_true, bne_self_eq_false, Bool.true_eq_false, Bool.false_eq_true, reduceCtorEq, Bool.and_self, Bool.or_self, Int.reduceBEq, Int.reduceBNe, Int.reduceNeg, decide_true, decide_false, Int.reduceLT, Int.reduceLE, Int.reduceGT] at h; done) | (refine fun (h : @Eq Bool _ _) => ?_)
  all_goals first | trivial | rfl | omega | (exact ple_slice rfl fun i hi => by cases hi) | (simp only [p0, Int.toNat_natCast, Bool.cond_true_left, Bool.cond_false_right, Bool.cond_true_right, Bool.cond_false_left, cond_true, cond_false, Bool.not_true, Bool.not_false, Bool.not_not, Bool.and_true, Bool.true_and, Bool.and_false, Bool.false_and, Bool.or_true, Bool.true_or, Bool.or_false, Bool.false_or, beq_self_eq_true, bne_self_eq_false, Bool.true_eq_false, Bool.false_eq_true, reduceCtorEq, Bool.and_self, Bool.or_self, Int.reduceBEq, Int.reduceBNe, Int.reduceNeg, decide_true, decide_false, Int.reduceLT, Int.reduceLE, Int.reduceGT]; done) | (show @Eq Bool _ _; simp only [p0, Int.toNat_natCast, Bool.cond_true_left, Bool.cond_false_right, Bool.cond_true_right, Bool.cond_false_left, cond_true, cond_false, Bool.not_true, Bool.not_false, Bool.not_not, Bool.and_true, Bool.true_and, Bool.and_false, Bool.false_and, Bool.or_true, Bool.true_or, Bool.or_false, Bool.false_or, beq_self_eq_true, bne_self_eq_false, Bool.true_eq_false, Bool.false_eq_true, reduceCtorEq, Bool.and_self, Bool.or_self, Int.reduceBEq, Int.reduceBNe, Int.reduceNeg, decide_true, decide_false, Int.reduceLT, Int.reduceLE, Int.reduceGT]; done) | skip
set_option maxRecDepth 20000 in
set_option maxHeartbeats 2000000 in
theorem pulseE2 (v : Svy) (hn : v.n ≤ 1000) (q : Int) (k : Nat) (p : Nat → Int) (hk0 : k ≤ 1000) (p1 : svE v = 0) (p2 : decide (okWell v.wl q) = false) : SF Try.prog 56 (V.atS [.agg (svyC v), I q, .slice none k fun i => intL (p i)] (.tup [.agg (svyC zeroV), I 2])) := by
  refine sf_gen types_ok mixed (l := [(45, V.atS [.agg (svyC v)] (I 0)), (112, hasWellS)]) ⟨(by have := d45 v hn; rw [p1] at this; exact this), sf112, trivial⟩ (es := []) trivial (its := []) trivial (fr := []) trivial [] [] false [] [] 3 Try.func56 rfl (by kernel_rfl) fun args h => ?_
  have h : args = _ := h
  subst h
  refine ⟨rfl, ?_⟩
  show evalCode _ _ _ fun o => match o with
    | .normal st | .ret st => withP _ (_ ∧ PLe _ (.tup [.agg (svyC zeroV), I 2]))
    | _ => False
  repeat' first | (exact PLe.refl _) | (exact BLe.refl _) | (exact PLeL.nil) | (exact BLeL.nil) | (refine ⟨?_, ?_⟩) | (refine PLeL.cons ?_ ?_) | (refine BLeL.cons ?_ ?_) | (refine ple_int ?_) | (refine ple_bool ?_) | (refine ple_tt ?_) | (refine ple_ff ?_) | (refine PLe.aggL ?_) | (refine PLe.tupL ?_) | (refine BLe.cellsL ?_) | (refine fun h => absurd h (by decide)) | (refine fun h => ?_; exfalso; simp only [p2, Int.toNat_natCast, Bool.cond_true_left, Bool.cond_false_right, Bool.cond_true_right, Bool.cond_false_left, cond_true, cond_false, Bool.not_true, Bool.not_false, Bool.not_not, Bool.and_true, Bool.true_and, Bool.and_false, Bool.false_and, Bool.or_true, Bool.true_or, Bool.or_false, Bool.false_or, beq_self_eq_true, bne_self_eq_false, Bool.true_eq_false, Bool.false_eq_true, reduceCtorEq, Bool.and_self, Bool.or_self, Int.reduceBEq, Int.reduceBNe, Int.reduceNeg, decide_true, decide_false, Int.reduceLT, Int.reduceLE, Int.reduceGT] at h; done) | (refine fun (h : @Eq Bool _ _) => ?_)
  all_goals first | trivial | rfl | omega | (exact ple_slice rfl fun i hi => by cases hi) | (simp only [p2, Int.toNat_natCast, Bool.cond_true_left, Bool.cond_false_right, Bool.cond_true_right, Bool.cond_false_left, cond_true, cond_false, Bool.not_true, Bool.not_false, Bool.not_not, Bool.and_true, Bool.true_and, Bool.and_false, Bool.false_and, Bool.or_true, Bool.true_or, Bool.or_false, Bool.false_or, beq_self_eq_true, bne_self_eq_false, Bool.true_eq_false, Bool.false_eq_true, reduceCtorEq, Bool.and_self, Bool.or_self, Int.reduceBEq, Int.reduceBNe, Int.reduceNeg, decide_true, decide_false, Int.reduceLT, Int.reduceLE, Int.reduceGT]; done) | (show @Eq Bool _ _; simp only [p2, Int.toNat_natCast, Bool.cond_true_left, Bool.cond_false_right, Bool.cond_true_right, Bool.cond_false_left, cond_true, cond_false, Bool.not_true, Bool.not_false, Bool.not_not, Bool.and_true, Bool.true_and, Bool.and_false, Bool.false_and, Bool.or_true, Bool.true_or, Bool.or_false, Bool.false_or, beq_self_eq_true, bne_self_eq_false, Bool.true_eq_false, Bool.false_eq_true, reduceCtorEq, Bool.and_self, Bool.or_self, Int.reduceBEq, Int.reduceBNe, Int.reduceNeg, decide_true, decide_false, Int.reduceLT, Int.reduceLE, Int.reduceGT]; done) | skip
set_option maxRecDepth 20000 in
set_option maxHeartbeats 2000000 in
theorem pulseE3 (v : Svy) (hn : v.n ≤ 1000) (q : Int) (k : Nat) (p : Nat → Int) (hk0 : k ≤ 1000) (p1 : svE v = 0) (p2 : decide (okWell v.wl q) = true) (p3 : ((k : Int) != v.wl) = true) : SF Try.prog 56 (V.atS [.agg (svyC v), I q, .slice none k fun i => intL (p i)] (.tup [.agg (svyC zeroV), I 2])) := by
  refine sf_gen types_ok mixed (l := [(45, V.atS [.agg (svyC v)] (I 0)), (112, hasWellS)]) ⟨(by have := d45 v hn; rw [p1] at this; exact this), sf112, trivial⟩ (es := []) trivial (its := []) trivial (fr := []) trivial [] [] false [] [] 3 Try.func56 rfl (by kernel_rfl) fun args h => ?_
  have h : args = _ := h
  subst h
  refine ⟨rfl, ?_⟩
  show evalCode _ _ _ fun o => match o with
    | .normal st | .ret st => withP _ (_ ∧ PLe _ (.tup [.agg (svyC zeroV), I 2]))
    | _ => False
  repeat' first | (exact PLe.refl _) | (exact BLe.refl _) | (exact PLeL.nil) | (exact BLeL.nil) | (refine ⟨?_, ?_⟩) | (refine PLeL.cons ?_ ?_) | (refine BLeL.cons ?_ ?_) | (refine ple_int ?_) | (refine ple_bool ?_) | (refine ple_tt ?_) | (refine ple_ff ?_) | (refine PLe.aggL ?_) | (refine PLe.tupL ?_) | (refine BLe.cellsL ?_) | (refine fun h => absurd h (by decide)) | (refine fun h => ?_; exfalso; simp only [p2, p3, Int.toNat_natCast, Bool.cond_true_left, Bool.cond_false_right, Bool.cond_true_right, Bool.cond_false_left, cond_true, cond_false, Bool.not_true, Bool.not_false, Bool.not_not, Bool.and_true, Bool.true_and, Bool.and_false, Bool.false_and, Bool.or_true, Bool.true_or, Bool.or_false, Bool.false_or, beq_self_eq_true, bne_self_eq_false, Bool.true_eq_false, Bool.false_eq_true, reduceCtorEq, Bool.and_self, Bool.or_self, Int.reduceBEq, Int.reduceBNe, Int.reduceNeg, decide_true, decide_false, Int.reduceLT, Int.reduceLE, Int.reduceGT] at h; done) | (refine fun (h : @Eq Bool _ _) => ?_)
  all_goals first | trivial | rfl | omega | (exact ple_slice rfl fun i hi => by cases hi) | (simp only [p2, p3, Int.toNat_natCast, Bool.cond_true_left, Bool.cond_false_right, Bool.cond_true_right, Bool.cond_false_left, cond_true, cond_false, Bool.not_true, Bool.not_false, Bool.not_not, Bool.and_true, Bool.true_and, Bool.and_false, Bool.false_and, Bool.or_true, Bool.true_or, Bool.or_false, Bool.false_or, beq_self_eq_true, bne_self_eq_false, Bool.true_eq_false, Bool.false_eq_true, reduceCtorEq, Bool.and_self, Bool.or_self, Int.reduceBEq, Int.reduceBNe, Int.reduceNeg, decide_true, decide_false, Int.reduceLT, Int.reduceLE, Int.reduceGT]; done) | (show @Eq Bool _ _; simp only [p2, p3, Int.toNat_natCast, Bool.cond_true_left, Bool.cond_false_right, Bool.cond_true_right, Bool.cond_false_left, cond_true, cond_false, Bool.not_true, Bool.not_false, Bool.not_not, Bool.and_true, Bool.true_and, Bool.and_false, Bool.false_and, Bool.or_true, Bool.true_or, Bool.or_false, Bool.false_or, beq_self_eq_true, bne_self_eq_false, Bool.true_eq_false, Bool.false_eq_true, reduceCtorEq, Bool.and_self, Bool.or_self, Int.reduceBEq, Int.reduceBNe, Int.reduceNeg, decide_true, decide_false, Int.reduceLT, Int.reduceLE, Int.reduceGT]; done) | skip
set_option maxRecDepth 20000 in
set_option maxHeartbeats 2000000 in
theorem pulseE4 (v : Svy) (hn : v.n ≤ 1000) (q : Int) (k : Nat) (p : Nat → Int) (hk0 : k ≤ 1000) (p1 : svE v = 0) (p2 : decide (okWell v.wl q) = true) (p3n : ((k : Int) != v.wl) = false) (pl : (v.lv == -2000000000) = true) (pa : allSame p q k = false) : SF Try.prog 56 (V.atS [.agg (svyC v), I q, .slice none k fun i => intL (p i)] (.tup [.agg (svyC zeroV), I 2])) := by
  have hok : okV v := svE_ok p1
  have p3 : ((k : Int) == v.wl) = true := by simpa using p3n
  have hkw : (k : Int) = v.wl := by simpa using p3
  have hw : okWell v.wl q := of_decide_eq_true p2
  have hwl := hok.wl
  have hlv := hok.lv
  have hnn := hok.n
  have hqk : okI k q := by
    have hw2 : 0 ≤ q ∧ q ≤ w (v.wl - 1) := hw
    rw [wj (n := v.wl - 1) (by omega)] at hw2
    exact ⟨hw2.1, by omega⟩
  refine sf_gen types_ok mixed (l := [(45, V.atS [.agg (svyC v)] (I 0)), (112, hasWellS), (83, V.atS [.slice none k fun i => intL (p i), .fn (.func 113) [] [.cptr [.slice none k fun i => intL (p i)], .cptr [I q]]] (.bool (allSame p q k)))]) ⟨(by have := d45 v hn; rw [p1] at this; exact this), sf112, d83 k p q hk0 hqk, trivial⟩ (es := []) trivial (its := []) trivial (fr := []) trivial [] [] false [] [] 3 Try.func56 rfl (by kernel_rfl) fun args h => ?_
  have h : args = _ := h
  subst h
  refine ⟨rfl, ?_⟩
  show evalCode _ _ _ fun o => match o with
    | .normal st | .ret st => withP _ (_ ∧ PLe _ (.tup [.agg (svyC zeroV), I 2]))
    | _ => False
  repeat' first | (exact PLe.refl _) | (exact BLe.refl _) | (exact PLeL.nil) | (exact BLeL.nil) | (refine ⟨?_, ?_⟩) | (refine PLeL.cons ?_ ?_) | (refine BLeL.cons ?_ ?_) | (refine ple_int ?_) | (refine ple_bool ?_) | (refine ple_tt ?_) | (refine ple_ff ?_) | (refine PLe.aggL ?_) | (refine PLe.tupL ?_) | (refine BLe.cellsL ?_) | (refine fun h => absurd h (by decide)) | (refine fun h => ?_; exfalso; simp only [p2, p3n, pl, pa, Int.toNat_natCast, Bool.cond_true_left, Bool.cond_false_right, Bool.cond_true_right, Bool.cond_false_left, cond_true, cond_false, Bool.not_true, Bool.not_false, Bool.not_not, Bool.and_true, Bool.true_and, Bool.and_false, Bool.false_and, Bool.or_true, Bool.true_or, Bool.or_false, Bool.false_or, beq_self_eq_true, bne_self_eq_false, Bool.true_eq_false, Bool.false_eq_true, reduceCtorEq, Bool.and_self, Bool.or_self, Int.reduceBEq, Int.reduceBNe, Int.reduceNeg, decide_true, decide_false, Int.reduceLT, Int.reduceLE, Int.reduceGT] at h; done) | (refine fun (h : @Eq Bool _ _) => ?_)
  all_goals first | trivial | rfl | omega | (exact ple_slice rfl fun i hi => by cases hi) | (simp only [p2, p3n, pl, pa, Int.toNat_natCast, Bool.cond_true_left, Bool.cond_false_right, Bool.cond_true_right, Bool.cond_false_left, cond_true, cond_false, Bool.not_true, Bool.not_false, Bool.not_not, Bool.and_true, Bool.true_and, Bool.and_false, Bool.false_and, Bool.or_true, Bool.true_or, Bool.or_false, Bool.false_or, beq_self_eq_true, bne_self_eq_false, Bool.true_eq_false, Bool.false_eq_true, reduceCtorEq, Bool.and_self, Bool.or_self, Int.reduceBEq, Int.reduceBNe, Int.reduceNeg, decide_true, decide_false, Int.reduceLT, Int.reduceLE, Int.reduceGT]; done) | (show @Eq Bool _ _; simp only [p2, p3n, pl, pa, Int.toNat_natCast, Bool.cond_true_left, Bool.cond_false_right, Bool.cond_true_right, Bool.cond_false_left, cond_true, cond_false, Bool.not_true, Bool.not_false, Bool.not_not, Bool.and_true, Bool.true_and, Bool.and_false, Bool.false_and, Bool.or_true, Bool.true_or, Bool.or_false, Bool.false_or, beq_self_eq_true, bne_self_eq_false, Bool.true_eq_false, Bool.false_eq_true, reduceCtorEq, Bool.and_self, Bool.or_self, Int.reduceBEq, Int.reduceBNe, Int.reduceNeg, decide_true, decide_false, Int.reduceLT, Int.reduceLE, Int.reduceGT]; done) | skip
set_option maxRecDepth 20000 in
set_option maxHeartbeats 2000000 in
theorem pulseE5a (v : Svy) (hn : v.n ≤ 1000) (q : Int) (k : Nat) (p : Nat → Int) (hk0 : k ≤ 1000) (p1 : svE v = 0) (p2 : decide (okWell v.wl q) = true) (p3n : ((k : Int) != v.wl) = false) (pl : (v.lv == -2000000000) = false) (pf : fitsM v p = false) : SF Try.prog 56 (V.atS [.agg (svyC v), I q, .slice none k fun i => intL (p i)] (.tup [.agg (svyC zeroV), I 9])) := by
  have hok : okV v := svE_ok p1
  have p3 : ((k : Int) == v.wl) = true := by simpa using p3n
  have hkw : (k : Int) = v.wl := by simpa using p3
  have hw : okWell v.wl q := of_decide_eq_true p2
  have hwl := hok.wl
  have hlv := hok.lv
  have hnn := hok.n
  have hqk : okI k q := by
    have hw2 : 0 ≤ q ∧ q ≤ w (v.wl - 1) := hw
    rw [wj (n := v.wl - 1) (by omega)] at hw2
    exact ⟨hw2.1, by omega⟩
  refine sf_gen types_ok mixed (l := [(45, V.atS [.agg (svyC v)] (I 0)), (112, hasWellS), (111, V.atS [.agg (svyC v), .slice none k fun i => intL (p i)] (.bool false))]) ⟨(by have := d45 v hn; rw [p1] at this; exact this), sf112, (by have := d111 v hok k p (by simpa using p3); rw [pf] at this; exact this), trivial⟩ (es := []) trivial (its := []) trivial (fr := []) trivial [] [] false [] [] 3 Try.func56 rfl (by kernel_rfl) fun args h => ?_
  have h : args = _ := h
  subst h
  refine ⟨rfl, ?_⟩
  show evalCode _ _ _ fun o => match o with
    | .normal st | .ret st => withP _ (_ ∧ PLe _ (.tup [.agg (svyC zeroV), I 9]))
    | _ => False
  repeat' first | (exact PLe.refl _) | (exact BLe.refl _) | (exact PLeL.nil) | (exact BLeL.nil) | (refine ⟨?_, ?_⟩) | (refine PLeL.cons ?_ ?_) | (refine BLeL.cons ?_ ?_) | (refine ple_int ?_) | (refine ple_bool ?_) | (refine ple_tt ?_) | (refine ple_ff ?_) | (refine PLe.aggL ?_) | (refine PLe.tupL ?_) | (refine BLe.cellsL ?_) | (refine fun h => absurd h (by decide)) | (refine fun h => ?_; exfalso; simp only [p2, p3n, pl, Int.toNat_natCast, Bool.cond_true_left, Bool.cond_false_right, Bool.cond_true_right, Bool.cond_false_left, cond_true, cond_false, Bool.not_true, Bool.not_false, Bool.not_not, Bool.and_true, Bool.true_and, Bool.and_false, Bool.false_and, Bool.or_true, Bool.true_or, Bool.or_false, Bool.false_or, beq_self_eq_true, bne_self_eq_false, Bool.true_eq_false, Bool.false_eq_true, reduceCtorEq, Bool.and_self, Bool.or_self, Int.reduceBEq, Int.reduceBNe, Int.reduceNeg, decide_true, decide_false, Int.reduceLT, Int.reduceLE, Int.reduceGT] at h; done) | (refine fun (h : @Eq Bool _ _) => ?_)
  all_goals first | trivial | rfl | omega | (exact ple_slice rfl fun i hi => by cases hi) | (simp only [p2, p3n, pl, Int.toNat_natCast, Bool.cond_true_left, Bool.cond_false_right, Bool.cond_true_right, Bool.cond_false_left, cond_true, cond_false, Bool.not_true, Bool.not_false, Bool.not_not, Bool.and_true, Bool.true_and, Bool.and_false, Bool.false_and, Bool.or_true, Bool.true_or, Bool.or_false, Bool.false_or, beq_self_eq_true, bne_self_eq_false, Bool.true_eq_false, Bool.false_eq_true, reduceCtorEq, Bool.and_self, Bool.or_self, Int.reduceBEq, Int.reduceBNe, Int.reduceNeg, decide_true, decide_false, Int.reduceLT, Int.reduceLE, Int.reduceGT]; done) | (show @Eq Bool _ _; simp only [p2, p3n, pl, Int.toNat_natCast, Bool.cond_true_left, Bool.cond_false_right, Bool.cond_true_right, Bool.cond_false_left, cond_true, cond_false, Bool.not_true, Bool.not_false, Bool.not_not, Bool.and_true, Bool.true_and, Bool.and_false, Bool.false_and, Bool.or_true, Bool.true_or, Bool.or_false, Bool.false_or, beq_self_eq_true, bne_self_eq_false, Bool.true_eq_false, Bool.false_eq_true, reduceCtorEq, Bool.and_self, Bool.or_self, Int.reduceBEq, Int.reduceBNe, Int.reduceNeg, decide_true, decide_false, Int.reduceLT, Int.reduceLE, Int.reduceGT]; done) | skip
set_option maxRecDepth 20000 in
set_option maxHeartbeats 2000000 in
theorem pulseE6a (v : Svy) (hn : v.n ≤ 1000) (q : Int) (k : Nat) (p : Nat → Int) (hk0 : k ≤ 1000) (p1 : svE v = 0) (p2 : decide (okWell v.wl q) = true) (p3n : ((k : Int) != v.wl) = false) (pl : (v.lv == -2000000000) = false) (pf : fitsM v p = true) (ps : decide (60 < IntKind.i64.wrap (IntKind.i64.wrap ((v.n : Int) + v.wl) - 1)) = true) : SF Try.prog 56 (V.atS [.agg (svyC v), I q, .slice none k fun i => intL (p i)] (.tup [.agg (svyC zeroV), I 3])) := by
  have hok : okV v := svE_ok p1
  have p3 : ((k : Int) == v.wl) = true := by simpa using p3n
  have hkw : (k : Int) = v.wl := by simpa using p3
  have hw : okWell v.wl q := of_decide_eq_true p2
  have hwl := hok.wl
  have hlv := hok.lv
  have hnn := hok.n
  have hqk : okI k q := by
    have hw2 : 0 ≤ q ∧ q ≤ w (v.wl - 1) := hw
    rw [wj (n := v.wl - 1) (by omega)] at hw2
    exact ⟨hw2.1, by omega⟩
  refine sf_gen types_ok mixed (l := [(45, V.atS [.agg (svyC v)] (I 0)), (112, hasWellS), (111, V.atS [.agg (svyC v), .slice none k fun i => intL (p i)] (.bool true))]) ⟨(by have := d45 v hn; rw [p1] at this; exact this), sf112, (by have := d111 v hok k p (by simpa using p3); rw [pf] at this; exact this), trivial⟩ (es := []) trivial (its := []) trivial (fr := []) trivial [] [] false [] [] 3 Try.func56 rfl (by kernel_rfl) fun args h => ?_
  have h : args = _ := h
  subst h
  refine ⟨rfl, ?_⟩
  show evalCode _ _ _ fun o => match o with
    | .normal st | .ret st => withP _ (_ ∧ PLe _ (.tup [.agg (svyC zeroV), I 3]))
    | _ => False
  repeat' first | (exact PLe.refl _) | (exact BLe.refl _) | (exact PLeL.nil) | (exact BLeL.nil) | (refine ⟨?_, ?_⟩) | (refine PLeL.cons ?_ ?_) | (refine BLeL.cons ?_ ?_) | (refine ple_int ?_) | (refine ple_bool ?_) | (refine ple_tt ?_) | (refine ple_ff ?_) | (refine PLe.aggL ?_) | (refine PLe.tupL ?_) | (refine BLe.cellsL ?_) | (refine fun h => absurd h (by decide)) | (refine fun h => ?_; exfalso; simp only [p2, p3n, ps, pl, Int.toNat_natCast, Bool.cond_true_left, Bool.cond_false_right, Bool.cond_true_right, Bool.cond_false_left, cond_true, cond_false, Bool.not_true, Bool.not_false, Bool.not_not, Bool.and_true, Bool.true_and, Bool.and_false, Bool.false_and, Bool.or_true, Bool.true_or, Bool.or_false, Bool.false_or, beq_self_eq_true, bne_self_eq_false, Bool.true_eq_false, Bool.false_eq_true, reduceCtorEq, Bool.and_self, Bool.or_self, Int.reduceBEq, Int.reduceBNe, Int.reduceNeg, decide_true, decide_false, Int.reduceLT, Int.reduceLE, Int.reduceGT] at h; done) | (refine fun (h : @Eq Bool _ _) => ?_)
  all_goals first | trivial | rfl | omega | (exact ple_slice rfl fun i hi => by cases hi) | (simp only [p2, p3n, ps, pl, Int.toNat_natCast, Bool.cond_true_left, Bool.cond_false_right, Bool.cond_true_right, Bool.cond_false_left, cond_true, cond_false, Bool.not_true, Bool.not_false, Bool.not_not, Bool.and_true, Bool.true_and, Bool.and_false, Bool.false_and, Bool.or_true, Bool.true_or, Bool.or_false, Bool.false_or, beq_self_eq_true, bne_self_eq_false, Bool.true_eq_false, Bool.false_eq_true, reduceCtorEq, Bool.and_self, Bool.or_self, Int.reduceBEq, Int.reduceBNe, Int.reduceNeg, decide_true, decide_false, Int.reduceLT, Int.reduceLE, Int.reduceGT]; done) | (show @Eq Bool _ _; simp only [p2, p3n, ps, pl, Int.toNat_natCast, Bool.cond_true_left, Bool.cond_false_right, Bool.cond_true_right, Bool.cond_false_left, cond_true, cond_false, Bool.not_true, Bool.not_false, Bool.not_not, Bool.and_true, Bool.true_and, Bool.and_false, Bool.false_and, Bool.or_true, Bool.true_or, Bool.or_false, Bool.false_or, beq_self_eq_true, bne_self_eq_false, Bool.true_eq_false, Bool.false_eq_true, reduceCtorEq, Bool.and_self, Bool.or_self, Int.reduceBEq, Int.reduceBNe, Int.reduceNeg, decide_true, decide_false, Int.reduceLT, Int.reduceLE, Int.reduceGT]; done) | skip
set_option maxRecDepth 20000 in
set_option maxHeartbeats 6000000 in
theorem pulseKa (v : Svy) (hn : v.n ≤ 1000) (q : Int) (k : Nat) (p : Nat → Int) (hk0 : k ≤ 1000) (p1 : svE v = 0) (p2 : decide (okWell v.wl q) = true) (p3n : ((k : Int) != v.wl) = false) (pl : (v.lv == -2000000000) = false) (pf : fitsM v p = true) (ps : decide (60 < IntKind.i64.wrap (IntKind.i64.wrap ((v.n : Int) + v.wl) - 1)) = false) : SF Try.prog 56 (V.atS [.agg (svyC v), I q, .slice none k fun i => intL (p i)] (.tup [.agg (svyC (pulV v q p k)), I 0])) := by
  have hok : okV v := svE_ok p1
  have p3 : ((k : Int) == v.wl) = true := by simpa using p3n
  have hkw : (k : Int) = v.wl := by simpa using p3
  have hw : okWell v.wl q := of_decide_eq_true p2
  have hwl := hok.wl
  have hlv := hok.lv
  have hnn := hok.n
  have hqk : okI k q := by
    have hw2 : 0 ≤ q ∧ q ≤ w (v.wl - 1) := hw
    rw [wj (n := v.wl - 1) (by omega)] at hw2
    exact ⟨hw2.1, by omega⟩
  refine sf_gen types_ok mixed (l := [(45, V.atS [.agg (svyC v)] (I 0)), (112, hasWellS), (111, V.atS [.agg (svyC v), .slice none k fun i => intL (p i)] (.bool true)), (113, pul113S)]) ⟨(by have := d45 v hn; rw [p1] at this; exact this), sf112, (by have := d111 v hok k p (by simpa using p3); rw [pf] at this; exact this), sf113, trivial⟩ (es := []) trivial (its := []) trivial (fr := [(114, 110, 4, cloneOS)]) ⟨sff114, trivial⟩ [] [] false [] [] 3 Try.func56 rfl (by kernel_rfl) fun args h => ?_
  have h : args = _ := h
  subst h
  refine ⟨rfl, ?_⟩
  show evalCode _ _ _ fun o => match o with
    | .normal st | .ret st => withP _ (_ ∧ PLe _ (.tup [.agg (svyC (pulV v q p k)), I 0]))
    | _ => False
  repeat' first | (exact PLe.refl _) | (exact BLe.refl _) | (exact PLeL.nil) | (exact BLeL.nil) | (refine ⟨?_, ?_⟩) | (refine PLeL.cons ?_ ?_) | (refine BLeL.cons ?_ ?_) | (refine ple_int ?_) | (refine ple_bool ?_) | (refine ple_tt ?_) | (refine ple_ff ?_) | (refine PLe.aggL ?_) | (refine PLe.tupL ?_) | (refine BLe.cellsL ?_) | (refine halt_rng (cnt 62) k [3, 4, 5, 6, 9, 60, 61, 62] [3, 4, 5, 6, 58] (fun m => [.ptr 3 0, .ptr 4 0, .ptr 5 0, .ptr 6 0, .fn (.func 113) [] [.ptr 5 0, .ptr 4 0], .slice none k fun i => intL (p i), I (k : Nat), I (m : Nat)]) (fun m => [.cells [I v.wl, I v.lv, .slice (some 58) (v.n + (pulL v q p (m)).length) fun i => obsL (pulG v (pulL v q p (m)) i)], .cells [I q], .cells [.slice none k fun i => intL (p i)], .cells [I 0, I 0, .nils], .grow (v.n + (pulL v q p m).length) 110 4]) (fun _ => True) rfl (.mk ?_ ?_) trivial ?_) | (refine fun h => absurd h (by decide)) | (refine fun h => ?_; exfalso; simp only [p2, p3n, ps, pl, Int.toNat_natCast, Bool.cond_true_left, Bool.cond_false_right, Bool.cond_true_right, Bool.cond_false_left, cond_true, cond_false, Bool.not_true, Bool.not_false, Bool.not_not, Bool.and_true, Bool.true_and, Bool.and_false, Bool.false_and, Bool.or_true, Bool.true_or, Bool.or_false, Bool.false_or, beq_self_eq_true, bne_self_eq_false, Bool.true_eq_false, Bool.false_eq_true, reduceCtorEq, Bool.and_self, Bool.or_self, Int.reduceBEq, Int.reduceBNe, Int.reduceNeg, decide_true, decide_false, Int.reduceLT, Int.reduceLE, Int.reduceGT] at h; done) | (refine fun (h : @Eq Bool _ _) => ?_)
  all_goals first | trivial | rfl | omega | (exact obs_ok) | (intro i hi; exact ⟨rfl, rfl⟩) | (exact ple_slice rfl fun i hi => (congrArg obsL (pulG_nil hi)).symm) | (simp only [p2, p3n, ps, pl, Int.toNat_natCast, Bool.cond_true_left, Bool.cond_false_right, Bool.cond_true_right, Bool.cond_false_left, cond_true, cond_false, Bool.not_true, Bool.not_false, Bool.not_not, Bool.and_true, Bool.true_and, Bool.and_false, Bool.false_and, Bool.or_true, Bool.true_or, Bool.or_false, Bool.false_or, beq_self_eq_true, bne_self_eq_false, Bool.true_eq_false, Bool.false_eq_true, reduceCtorEq, Bool.and_self, Bool.or_self, Int.reduceBEq, Int.reduceBNe, Int.reduceNeg, decide_true, decide_false, Int.reduceLT, Int.reduceLE, Int.reduceGT]; done) | (show @Eq Bool _ _; simp only [p2, p3n, ps, pl, Int.toNat_natCast, Bool.cond_true_left, Bool.cond_false_right, Bool.cond_true_right, Bool.cond_false_left, cond_true, cond_false, Bool.not_true, Bool.not_false, Bool.not_not, Bool.and_true, Bool.true_and, Bool.and_false, Bool.false_and, Bool.or_true, Bool.true_or, Bool.or_false, Bool.false_or, beq_self_eq_true, bne_self_eq_false, Bool.true_eq_false, Bool.false_eq_true, reduceCtorEq, Bool.and_self, Bool.or_self, Int.reduceBEq, Int.reduceBNe, Int.reduceNeg, decide_true, decide_false, Int.reduceLT, Int.reduceLE, Int.reduceGT]; done) | skip
  intro m hm _
  refine ⟨fun h1 => ?_, fun h1 => ?_⟩
  · have hlt : m < k := by
      have : (m : Int) < (k : Int) := of_decide_eq_true h1
      omega
    have e1 := succ_w hlt (by omega)
    clear h1
    have hlen := (pulL_len v q p m).1
    have ew : IntKind.i64.wrap (v.lv - 1) = v.lv - 1 := wj (by omega)
    have hLp := isLi k p hk0
    refine (Bool.eq_false_or_eq_true (p m == p q.toNat)).elim (fun q1 => ?_) fun q1 => ?_
    · have eA : pulA v q p m = v.lv := by unfold pulA; rw [q1]; rfl
      have qn : (!(p m == p q.toNat)) = false := by rw [q1]; rfl
      refine (Bool.eq_false_or_eq_true ((m : Int) == q)).elim (fun q2 => ?_) fun q2 => ?_
      · have q3 : ((m : Int) != q) = false := by rw [bne, q2]; rfl
        have es := skip_eq (v := v) (p := p) q2
        repeat' first | (refine fun h => absurd (h.symm.trans qn) (by decide)) | (exact PLe.refl _) | (exact BLe.refl _) | (exact PLeL.nil) | (exact BLeL.nil) | (refine ⟨?_, ?_⟩) | (refine PLeL.cons ?_ ?_) | (refine BLeL.cons ?_ ?_) | (refine ple_int ?_) | (refine ple_bool ?_) | (refine ple_tt ?_) | (refine ple_ff ?_) | (refine PLe.aggL ?_) | (refine PLe.tupL ?_) | (refine BLe.cellsL ?_) | (refine next_rng (cn := cnt 62) rfl (fun _ => rfl) hlt trivial (.mk ?_ ?_)) | (refine fun h => absurd h (by decide)) | (refine fun h => ?_; exfalso; simp only [q1, q3, Int.toNat_natCast, Bool.cond_true_left, Bool.cond_false_right, Bool.cond_true_right, Bool.cond_false_left, cond_true, cond_false, Bool.not_true, Bool.not_false, Bool.not_not, Bool.and_true, Bool.true_and, Bool.and_false, Bool.false_and, Bool.or_true, Bool.true_or, Bool.or_false, Bool.false_or, beq_self_eq_true, bne_self_eq_false, Bool.true_eq_false, Bool.false_eq_true, reduceCtorEq, Bool.and_self, Bool.or_self, Int.reduceBEq, Int.reduceBNe, Int.reduceNeg, decide_true, decide_false, Int.reduceLT, Int.reduceLE, Int.reduceGT] at h; done) | (refine fun (h : @Eq Bool _ _) => ?_)
        all_goals first | trivial | rfl | omega | (exact e1) | (exact hLp) | (exact hqk) | (exact hqk.1) | (exact hqk.2) | (exact ⟨hLp, hqk⟩) | (show (0 : Int) ≤ (m : Int); omega) | (show (m : Int) < (k : Int); omega) | (exact obsG_len) | (show (v.n + (pulL v q p m).length + 1) * 32 ≤ 140737488355328; omega) | (intro x hx; obtain rfl : x = 0 := (by omega); exact ⟨rfl, rfl⟩) | (exact ple_slice (by rw [es]) fun i hi => by rw [es]) | (exact ble_grow (by rw [es])) | (rw [es]) | (simp only [q1, q3, Int.toNat_natCast, Bool.cond_true_left, Bool.cond_false_right, Bool.cond_true_right, Bool.cond_false_left, cond_true, cond_false, Bool.not_true, Bool.not_false, Bool.not_not, Bool.and_true, Bool.true_and, Bool.and_false, Bool.false_and, Bool.or_true, Bool.true_or, Bool.or_false, Bool.false_or, beq_self_eq_true, bne_self_eq_false, Bool.true_eq_false, Bool.false_eq_true, reduceCtorEq, Bool.and_self, Bool.or_self, Int.reduceBEq, Int.reduceBNe, Int.reduceNeg, decide_true, decide_false, Int.reduceLT, Int.reduceLE, Int.reduceGT]; done) | (show @Eq Bool _ _; simp only [q1, q3, Int.toNat_natCast, Bool.cond_true_left, Bool.cond_false_right, Bool.cond_true_right, Bool.cond_false_left, cond_true, cond_false, Bool.not_true, Bool.not_false, Bool.not_not, Bool.and_true, Bool.true_and, Bool.and_false, Bool.false_and, Bool.or_true, Bool.true_or, Bool.or_false, Bool.false_or, beq_self_eq_true, bne_self_eq_false, Bool.true_eq_false, Bool.false_eq_true, reduceCtorEq, Bool.and_self, Bool.or_self, Int.reduceBEq, Int.reduceBNe, Int.reduceNeg, decide_true, decide_false, Int.reduceLT, Int.reduceLE, Int.reduceGT]; done) | skip
      · have q3 : ((m : Int) != q) = true := by rw [bne, q2]; rfl
        have eg := grow_len (v := v) (p := p) q2
        repeat' first | (refine fun h => absurd (h.symm.trans qn) (by decide)) | (exact PLe.refl _) | (exact BLe.refl _) | (exact PLeL.nil) | (exact BLeL.nil) | (refine ⟨?_, ?_⟩) | (refine PLeL.cons ?_ ?_) | (refine BLeL.cons ?_ ?_) | (refine ple_int ?_) | (refine ple_bool ?_) | (refine ple_tt ?_) | (refine ple_ff ?_) | (refine PLe.aggL ?_) | (refine PLe.tupL ?_) | (refine BLe.cellsL ?_) | (refine next_rng (cn := cnt 62) rfl (fun _ => rfl) hlt trivial (.mk ?_ ?_)) | (refine fun h => absurd h (by decide)) | (refine fun h => ?_; exfalso; simp only [q1, q3, Int.toNat_natCast, Bool.cond_true_left, Bool.cond_false_right, Bool.cond_true_right, Bool.cond_false_left, cond_true, cond_false, Bool.not_true, Bool.not_false, Bool.not_not, Bool.and_true, Bool.true_and, Bool.and_false, Bool.false_and, Bool.or_true, Bool.true_or, Bool.or_false, Bool.false_or, beq_self_eq_true, bne_self_eq_false, Bool.true_eq_false, Bool.false_eq_true, reduceCtorEq, Bool.and_self, Bool.or_self, Int.reduceBEq, Int.reduceBNe, Int.reduceNeg, decide_true, decide_false, Int.reduceLT, Int.reduceLE, Int.reduceGT] at h; done) | (refine fun (h : @Eq Bool _ _) => ?_)
        all_goals first | trivial | rfl | omega | (exact e1) | (exact hLp) | (exact hqk) | (exact hqk.1) | (exact hqk.2) | (exact ⟨hLp, hqk⟩) | (show (0 : Int) ≤ (m : Int); omega) | (show (m : Int) < (k : Int); omega) | (exact obsG_len) | (show (v.n + (pulL v q p m).length + 1) * 32 ≤ 140737488355328; omega) | (intro x hx; obtain rfl : x = 0 := (by omega); exact ⟨rfl, rfl⟩) | (show PLe (.slice (some 58) (v.n + (pulL v q p m).length + 1) _) _; refine grow_eq ⟨q, (m : Int), v.lv, v.lv⟩ q2 (by rw [eA]) (fun i hi => ?_) ?_ <;> first | (rw [blt_t hi]; rfl) | (rw [blt_f (Nat.lt_irrefl _), Nat.sub_self]; rfl)) | (exact ble_grow (by rw [eg]; omega)) | (rw [eg]; omega) | (simp only [q1, q3, Int.toNat_natCast, Bool.cond_true_left, Bool.cond_false_right, Bool.cond_true_right, Bool.cond_false_left, cond_true, cond_false, Bool.not_true, Bool.not_false, Bool.not_not, Bool.and_true, Bool.true_and, Bool.and_false, Bool.false_and, Bool.or_true, Bool.true_or, Bool.or_false, Bool.false_or, beq_self_eq_true, bne_self_eq_false, Bool.true_eq_false, Bool.false_eq_true, reduceCtorEq, Bool.and_self, Bool.or_self, Int.reduceBEq, Int.reduceBNe, Int.reduceNeg, decide_true, decide_false, Int.reduceLT, Int.reduceLE, Int.reduceGT]; done) | (show @Eq Bool _ _; simp only [q1, q3, Int.toNat_natCast, Bool.cond_true_left, Bool.cond_false_right, Bool.cond_true_right, Bool.cond_false_left, cond_true, cond_false, Bool.not_true, Bool.not_false, Bool.not_not, Bool.and_true, Bool.true_and, Bool.and_false, Bool.false_and, Bool.or_true, Bool.true_or, Bool.or_false, Bool.false_or, beq_self_eq_true, bne_self_eq_false, Bool.true_eq_false, Bool.false_eq_true, reduceCtorEq, Bool.and_self, Bool.or_self, Int.reduceBEq, Int.reduceBNe, Int.reduceNeg, decide_true, decide_false, Int.reduceLT, Int.reduceLE, Int.reduceGT]; done) | skip
    · have eA : pulA v q p m = v.lv - 1 := by unfold pulA; rw [q1]; rfl
      have qn : (!(p m == p q.toNat)) = true := by rw [q1]; rfl
      refine (Bool.eq_false_or_eq_true ((m : Int) == q)).elim (fun q2 => ?_) fun q2 => ?_
      · have q3 : ((m : Int) != q) = false := by rw [bne, q2]; rfl
        have es := skip_eq (v := v) (p := p) q2
        repeat' first | (refine fun h => absurd (h.symm.trans qn) (by decide)) | (exact PLe.refl _) | (exact BLe.refl _) | (exact PLeL.nil) | (exact BLeL.nil) | (refine ⟨?_, ?_⟩) | (refine PLeL.cons ?_ ?_) | (refine BLeL.cons ?_ ?_) | (refine ple_int ?_) | (refine ple_bool ?_) | (refine ple_tt ?_) | (refine ple_ff ?_) | (refine PLe.aggL ?_) | (refine PLe.tupL ?_) | (refine BLe.cellsL ?_) | (refine next_rng (cn := cnt 62) rfl (fun _ => rfl) hlt trivial (.mk ?_ ?_)) | (refine fun h => absurd h (by decide)) | (refine fun h => ?_; exfalso; simp only [q1, q3, Int.toNat_natCast, Bool.cond_true_left, Bool.cond_false_right, Bool.cond_true_right, Bool.cond_false_left, cond_true, cond_false, Bool.not_true, Bool.not_false, Bool.not_not, Bool.and_true, Bool.true_and, Bool.and_false, Bool.false_and, Bool.or_true, Bool.true_or, Bool.or_false, Bool.false_or, beq_self_eq_true, bne_self_eq_false, Bool.true_eq_false, Bool.false_eq_true, reduceCtorEq, Bool.and_self, Bool.or_self, Int.reduceBEq, Int.reduceBNe, Int.reduceNeg, decide_true, decide_false, Int.reduceLT, Int.reduceLE, Int.reduceGT] at h; done) | (refine fun (h : @Eq Bool _ _) => ?_)
        all_goals first | trivial | rfl | omega | (exact e1) | (exact hLp) | (exact hqk) | (exact hqk.1) | (exact hqk.2) | (exact ⟨hLp, hqk⟩) | (show (0 : Int) ≤ (m : Int); omega) | (show (m : Int) < (k : Int); omega) | (exact obsG_len) | (show (v.n + (pulL v q p m).length + 1) * 32 ≤ 140737488355328; omega) | (intro x hx; obtain rfl : x = 0 := (by omega); exact ⟨rfl, rfl⟩) | (exact ple_slice (by rw [es]) fun i hi => by rw [es]) | (exact ble_grow (by rw [es])) | (rw [es]) | (simp only [q1, q3, Int.toNat_natCast, Bool.cond_true_left, Bool.cond_false_right, Bool.cond_true_right, Bool.cond_false_left, cond_true, cond_false, Bool.not_true, Bool.not_false, Bool.not_not, Bool.and_true, Bool.true_and, Bool.and_false, Bool.false_and, Bool.or_true, Bool.true_or, Bool.or_false, Bool.false_or, beq_self_eq_true, bne_self_eq_false, Bool.true_eq_false, Bool.false_eq_true, reduceCtorEq, Bool.and_self, Bool.or_self, Int.reduceBEq, Int.reduceBNe, Int.reduceNeg, decide_true, decide_false, Int.reduceLT, Int.reduceLE, Int.reduceGT]; done) | (show @Eq Bool _ _; simp only [q1, q3, Int.toNat_natCast, Bool.cond_true_left, Bool.cond_false_right, Bool.cond_true_right, Bool.cond_false_left, cond_true, cond_false, Bool.not_true, Bool.not_false, Bool.not_not, Bool.and_true, Bool.true_and, Bool.and_false, Bool.false_and, Bool.or_true, Bool.true_or, Bool.or_false, Bool.false_or, beq_self_eq_true, bne_self_eq_false, Bool.true_eq_false, Bool.false_eq_true, reduceCtorEq, Bool.and_self, Bool.or_self, Int.reduceBEq, Int.reduceBNe, Int.reduceNeg, decide_true, decide_false, Int.reduceLT, Int.reduceLE, Int.reduceGT]; done) | skip
      · have q3 : ((m : Int) != q) = true := by rw [bne, q2]; rfl
        have eg := grow_len (v := v) (p := p) q2
        repeat' first | (refine fun h => absurd (h.symm.trans qn) (by decide)) | (exact PLe.refl _) | (exact BLe.refl _) | (exact PLeL.nil) | (exact BLeL.nil) | (refine ⟨?_, ?_⟩) | (refine PLeL.cons ?_ ?_) | (refine BLeL.cons ?_ ?_) | (refine ple_int ?_) | (refine ple_bool ?_) | (refine ple_tt ?_) | (refine ple_ff ?_) | (refine PLe.aggL ?_) | (refine PLe.tupL ?_) | (refine BLe.cellsL ?_) | (refine next_rng (cn := cnt 62) rfl (fun _ => rfl) hlt trivial (.mk ?_ ?_)) | (refine fun h => absurd h (by decide)) | (refine fun h => ?_; exfalso; simp only [q1, q3, Int.toNat_natCast, Bool.cond_true_left, Bool.cond_false_right, Bool.cond_true_right, Bool.cond_false_left, cond_true, cond_false, Bool.not_true, Bool.not_false, Bool.not_not, Bool.and_true, Bool.true_and, Bool.and_false, Bool.false_and, Bool.or_true, Bool.true_or, Bool.or_false, Bool.false_or, beq_self_eq_true, bne_self_eq_false, Bool.true_eq_false, Bool.false_eq_true, reduceCtorEq, Bool.and_self, Bool.or_self, Int.reduceBEq, Int.reduceBNe, Int.reduceNeg, decide_true, decide_false, Int.reduceLT, Int.reduceLE, Int.reduceGT] at h; done) | (refine fun (h : @Eq Bool _ _) => ?_)
        all_goals first | trivial | rfl | omega | (exact e1) | (exact hLp) | (exact hqk) | (exact hqk.1) | (exact hqk.2) | (exact ⟨hLp, hqk⟩) | (show (0 : Int) ≤ (m : Int); omega) | (show (m : Int) < (k : Int); omega) | (exact obsG_len) | (show (v.n + (pulL v q p m).length + 1) * 32 ≤ 140737488355328; omega) | (intro x hx; obtain rfl : x = 0 := (by omega); exact ⟨rfl, rfl⟩) | (show PLe (.slice (some 58) (v.n + (pulL v q p m).length + 1) _) _; refine grow_eq ⟨q, (m : Int), IntKind.i64.wrap (v.lv - 1), IntKind.i64.wrap (v.lv - 1)⟩ q2 (by rw [eA, ew]) (fun i hi => ?_) ?_ <;> first | (rw [blt_t hi]; rfl) | (rw [blt_f (Nat.lt_irrefl _), Nat.sub_self]; rfl)) | (exact ble_grow (by rw [eg]; omega)) | (rw [eg]; omega) | (simp only [q1, q3, Int.toNat_natCast, Bool.cond_true_left, Bool.cond_false_right, Bool.cond_true_right, Bool.cond_false_left, cond_true, cond_false, Bool.not_true, Bool.not_false, Bool.not_not, Bool.and_true, Bool.true_and, Bool.and_false, Bool.false_and, Bool.or_true, Bool.true_or, Bool.or_false, Bool.false_or, beq_self_eq_true, bne_self_eq_false, Bool.true_eq_false, Bool.false_eq_true, reduceCtorEq, Bool.and_self, Bool.or_self, Int.reduceBEq, Int.reduceBNe, Int.reduceNeg, decide_true, decide_false, Int.reduceLT, Int.reduceLE, Int.reduceGT]; done) | (show @Eq Bool _ _; simp only [q1, q3, Int.toNat_natCast, Bool.cond_true_left, Bool.cond_false_right, Bool.cond_true_right, Bool.cond_false_left, cond_true, cond_false, Bool.not_true, Bool.not_false, Bool.not_not, Bool.and_true, Bool.true_and, Bool.and_false, Bool.false_and, Bool.or_true, Bool.true_or, Bool.or_false, Bool.false_or, beq_self_eq_true, bne_self_eq_false, Bool.true_eq_false, Bool.false_eq_true, reduceCtorEq, Bool.and_self, Bool.or_self, Int.reduceBEq, Int.reduceBNe, Int.reduceNeg, decide_true, decide_false, Int.reduceLT, Int.reduceLE, Int.reduceGT]; done) | skip
  · have hmn : m = k := by
      have : ¬ ((m : Int) < (k : Int)) := of_decide_eq_false h1
      omega
    subst hmn
    clear h1
    repeat' first | (exact PLe.refl _) | (exact BLe.refl _) | (exact PLeL.nil) | (exact BLeL.nil) | (refine ⟨?_, ?_⟩) | (refine PLeL.cons ?_ ?_) | (refine BLeL.cons ?_ ?_) | (refine ple_int ?_) | (refine ple_bool ?_) | (refine ple_tt ?_) | (refine ple_ff ?_) | (refine PLe.aggL ?_) | (refine PLe.tupL ?_) | (refine BLe.cellsL ?_) | (refine fun h => absurd h (by decide)) | (refine fun (h : @Eq Bool _ _) => ?_)
    all_goals first | trivial | rfl | omega | skip
set_option maxRecDepth 20000 in
set_option maxHeartbeats 2000000 in
theorem pulseE5b (v : Svy) (hn : v.n ≤ 1000) (q : Int) (k : Nat) (p : Nat → Int) (hk0 : k ≤ 1000) (p1 : svE v = 0) (p2 : decide (okWell v.wl q) = true) (p3n : ((k : Int) != v.wl) = false) (pl : (v.lv == -2000000000) = true) (pa : allSame p q k = true) (pf : fitsM v p = false) : SF Try.prog 56 (V.atS [.agg (svyC v), I q, .slice none k fun i => intL (p i)] (.tup [.agg (svyC zeroV), I 9])) := by
  have hok : okV v := svE_ok p1
  have p3 : ((k : Int) == v.wl) = true := by simpa using p3n
  have hkw : (k : Int) = v.wl := by simpa using p3
  have hw : okWell v.wl q := of_decide_eq_true p2
  have hwl := hok.wl
  have hlv := hok.lv
  have hnn := hok.n
  have hqk : okI k q := by
    have hw2 : 0 ≤ q ∧ q ≤ w (v.wl - 1) := hw
    rw [wj (n := v.wl - 1) (by omega)] at hw2
    exact ⟨hw2.1, by omega⟩
  refine sf_gen types_ok mixed (l := [(45, V.atS [.agg (svyC v)] (I 0)), (112, hasWellS), (83, V.atS [.slice none k fun i => intL (p i), .fn (.func 113) [] [.cptr [.slice none k fun i => intL (p i)], .cptr [I q]]] (.bool (allSame p q k))), (111, V.atS [.agg (svyC v), .slice none k fun i => intL (p i)] (.bool false))]) ⟨(by have := d45 v hn; rw [p1] at this; exact this), sf112, d83 k p q hk0 hqk, (by have := d111 v hok k p (by simpa using p3); rw [pf] at this; exact this), trivial⟩ (es := []) trivial (its := []) trivial (fr := []) trivial [] [] false [] [] 3 Try.func56 rfl (by kernel_rfl) fun args h => ?_
  have h : args = _ := h
  subst h
  refine ⟨rfl, ?_⟩
  show evalCode _ _ _ fun o => match o with
    | .normal st | .ret st => withP _ (_ ∧ PLe _ (.tup [.agg (svyC zeroV), I 9]))
    | _ => False
  repeat' first | (exact PLe.refl _) | (exact BLe.refl _) | (exact PLeL.nil) | (exact BLeL.nil) | (refine ⟨?_, ?_⟩) | (refine PLeL.cons ?_ ?_) | (refine BLeL.cons ?_ ?_) | (refine ple_int ?_) | (refine ple_bool ?_) | (refine ple_tt ?_) | (refine ple_ff ?_) | (refine PLe.aggL ?_) | (refine PLe.tupL ?_) | (refine BLe.cellsL ?_) | (refine fun h => absurd h (by decide)) | (refine fun h => ?_; exfalso; simp only [p2, p3n, pl, pa, Int.toNat_natCast, Bool.cond_true_left, Bool.cond_false_right, Bool.cond_true_right, Bool.cond_false_left, cond_true, cond_false, Bool.not_true, Bool.not_false, Bool.not_not, Bool.and_true, Bool.true_and, Bool.and_false, Bool.false_and, Bool.or_true, Bool.true_or, Bool.or_false, Bool.false_or, beq_self_eq_true, bne_self_eq_false, Bool.true_eq_false, Bool.false_eq_true, reduceCtorEq, Bool.and_self, Bool.or_self, Int.reduceBEq, Int.reduceBNe, Int.reduceNeg, decide_true, decide_false, Int.reduceLT, Int.reduceLE, Int.reduceGT] at h; done) | (refine fun (h : @Eq Bool _ _) => ?_)
  all_goals first | trivial | rfl | omega | (exact ple_slice rfl fun i hi => by cases hi) | (simp only [p2, p3n, pl, pa, Int.toNat_natCast, Bool.cond_true_left, Bool.cond_false_right, Bool.cond_true_right, Bool.cond_false_left, cond_true, cond_false, Bool.not_true, Bool.not_false, Bool.not_not, Bool.and_true, Bool.true_and, Bool.and_false, Bool.false_and, Bool.or_true, Bool.true_or, Bool.or_false, Bool.false_or, beq_self_eq_true, bne_self_eq_false, Bool.true_eq_false, Bool.false_eq_true, reduceCtorEq, Bool.and_self, Bool.or_self, Int.reduceBEq, Int.reduceBNe, Int.reduceNeg, decide_true, decide_false, Int.reduceLT, Int.reduceLE, Int.reduceGT]; done) | (show @Eq Bool _ _; simp only [p2, p3n, pl, pa, Int.toNat_natCast, Bool.cond_true_left, Bool.cond_false_right, Bool.cond_true_right, Bool.cond_false_left, cond_true, cond_false, Bool.not_true, Bool.not_false, Bool.not_not, Bool.and_true, Bool.true_and, Bool.and_false, Bool.false_and, Bool.or_true, Bool.true_or, Bool.or_false, Bool.false_or, beq_self_eq_true, bne_self_eq_false, Bool.true_eq_false, Bool.false_eq_true, reduceCtorEq, Bool.and_self, Bool.or_self, Int.reduceBEq, Int.reduceBNe, Int.reduceNeg, decide_true, decide_false, Int.reduceLT, Int.reduceLE, Int.reduceGT]; done) | skip
set_option maxRecDepth 20000 in
set_option maxHeartbeats 2000000 in
theorem pulseE6b (v : Svy) (hn : v.n ≤ 1000) (q : Int) (k : Nat) (p : Nat → Int) (hk0 : k ≤ 1000) (p1 : svE v = 0) (p2 : decide (okWell v.wl q) = true) (p3n : ((k : Int) != v.wl) = false) (pl : (v.lv == -2000000000) = true) (pa : allSame p q k = true) (pf : fitsM v p = true) (ps : decide (60 < IntKind.i64.wrap (IntKind.i64.wrap ((v.n : Int) + v.wl) - 1)) = true) : SF Try.prog 56 (V.atS [.agg (svyC v), I q, .slice none k fun i => intL (p i)] (.tup [.agg (svyC zeroV), I 3])) := by
  have hok : okV v := svE_ok p1
  have p3 : ((k : Int) == v.wl) = true := by simpa using p3n
  have hkw : (k : Int) = v.wl := by simpa using p3
  have hw : okWell v.wl q := of_decide_eq_true p2
  have hwl := hok.wl
  have hlv := hok.lv
  have hnn := hok.n
  have hqk : okI k q := by
    have hw2 : 0 ≤ q ∧ q ≤ w (v.wl - 1) := hw
    rw [wj (n := v.wl - 1) (by omega)] at hw2
    exact ⟨hw2.1, by omega⟩
  refine sf_gen types_ok mixed (l := [(45, V.atS [.agg (svyC v)] (I 0)), (112, hasWellS), (83, V.atS [.slice none k fun i => intL (p i), .fn (.func 113) [] [.cptr [.slice none k fun i => intL (p i)], .cptr [I q]]] (.bool (allSame p q k))), (111, V.atS [.agg (svyC v), .slice none k fun i => intL (p i)] (.bool true))]) ⟨(by have := d45 v hn; rw [p1] at this; exact this), sf112, d83 k p q hk0 hqk, (by have := d111 v hok k p (by simpa using p3); rw [pf] at this; exact this), trivial⟩ (es := []) trivial (its := []) trivial (fr := []) trivial [] [] false [] [] 3 Try.func56 rfl (by kernel_rfl) fun args h => ?_
  have h : args = _ := h
  subst h
  refine ⟨rfl, ?_⟩
  show evalCode _ _ _ fun o => match o with
    | .normal st | .ret st => withP _ (_ ∧ PLe _ (.tup [.agg (svyC zeroV), I 3]))
    | _ => False
  repeat' first | (exact PLe.refl _) | (exact BLe.refl _) | (exact PLeL.nil) | (exact BLeL.nil) | (refine ⟨?_, ?_⟩) | (refine PLeL.cons ?_ ?_) | (refine BLeL.cons ?_ ?_) | (refine ple_int ?_) | (refine ple_bool ?_) | (refine ple_tt ?_) | (refine ple_ff ?_) | (refine PLe.aggL ?_) | (refine PLe.tupL ?_) | (refine BLe.cellsL ?_) | (refine fun h => absurd h (by decide)) | (refine fun h => ?_; exfalso; simp only [p2, p3n, ps, pl, pa, Int.toNat_natCast, Bool.cond_true_left, Bool.cond_false_right, Bool.cond_true_right, Bool.cond_false_left, cond_true, cond_false, Bool.not_true, Bool.not_false, Bool.not_not, Bool.and_true, Bool.true_and, Bool.and_false, Bool.false_and, Bool.or_true, Bool.true_or, Bool.or_false, Bool.false_or, beq_self_eq_true, bne_self_eq_false, Bool.true_eq_false, Bool.false_eq_true, reduceCtorEq, Bool.and_self, Bool.or_self, Int.reduceBEq, Int.reduceBNe, Int.reduceNeg, decide_true, decide_false, Int.reduceLT, Int.reduceLE, Int.reduceGT] at h; done) | (refine fun (h : @Eq Bool _ _) => ?_)
  all_goals first | trivial | rfl | omega | (exact ple_slice rfl fun i hi => by cases hi) | (simp only [p2, p3n, ps, pl, pa, Int.toNat_natCast, Bool.cond_true_left, Bool.cond_false_right, Bool.cond_true_right, Bool.cond_false_left, cond_true, cond_false, Bool.not_true, Bool.not_false, Bool.not_not, Bool.and_true, Bool.true_and, Bool.and_false, Bool.false_and, Bool.or_true, Bool.true_or, Bool.or_false, Bool.false_or, beq_self_eq_true, bne_self_eq_false, Bool.true_eq_false, Bool.false_eq_true, reduceCtorEq, Bool.and_self, Bool.or_self, Int.reduceBEq, Int.reduceBNe, Int.reduceNeg, decide_true, decide_false, Int.reduceLT, Int.reduceLE, Int.reduceGT]; done) | (show @Eq Bool _ _; simp only [p2, p3n, ps, pl, pa, Int.toNat_natCast, Bool.cond_true_left, Bool.cond_false_right, Bool.cond_true_right, Bool.cond_false_left, cond_true, cond_false, Bool.not_true, Bool.not_false, Bool.not_not, Bool.and_true, Bool.true_and, Bool.and_false, Bool.false_and, Bool.or_true, Bool.true_or, Bool.or_false, Bool.false_or, beq_self_eq_true, bne_self_eq_false, Bool.true_eq_false, Bool.false_eq_true, reduceCtorEq, Bool.and_self, Bool.or_self, Int.reduceBEq, Int.reduceBNe, Int.reduceNeg, decide_true, decide_false, Int.reduceLT, Int.reduceLE, Int.reduceGT]; done) | skip
set_option maxRecDepth 20000 in
set_option maxHeartbeats 6000000 in
theorem pulseKb (v : Svy) (hn : v.n ≤ 1000) (q : Int) (k : Nat) (p : Nat → Int) (hk0 : k ≤ 1000) (p1 : svE v = 0) (p2 : decide (okWell v.wl q) = true) (p3n : ((k : Int) != v.wl) = false) (pl : (v.lv == -2000000000) = true) (pa : allSame p q k = true) (pf : fitsM v p = true) (ps : decide (60 < IntKind.i64.wrap (IntKind.i64.wrap ((v.n : Int) + v.wl) - 1)) = false) : SF Try.prog 56 (V.atS [.agg (svyC v), I q, .slice none k fun i => intL (p i)] (.tup [.agg (svyC (pulV v q p k)), I 0])) := by
  have hok : okV v := svE_ok p1
  have p3 : ((k : Int) == v.wl) = true := by simpa using p3n
  have hkw : (k : Int) = v.wl := by simpa using p3
  have hw : okWell v.wl q := of_decide_eq_true p2
  have hwl := hok.wl
  have hlv := hok.lv
  have hnn := hok.n
  have hqk : okI k q := by
    have hw2 : 0 ≤ q ∧ q ≤ w (v.wl - 1) := hw
    rw [wj (n := v.wl - 1) (by omega)] at hw2
    exact ⟨hw2.1, by omega⟩
  refine sf_gen types_ok mixed (l := [(45, V.atS [.agg (svyC v)] (I 0)), (112, hasWellS), (83, V.atS [.slice none k fun i => intL (p i), .fn (.func 113) [] [.cptr [.slice none k fun i => intL (p i)], .cptr [I q]]] (.bool (allSame p q k))), (111, V.atS [.agg (svyC v), .slice none k fun i => intL (p i)] (.bool true)), (113, pul113S)]) ⟨(by have := d45 v hn; rw [p1] at this; exact this), sf112, d83 k p q hk0 hqk, (by have := d111 v hok k p (by simpa using p3); rw [pf] at this; exact this), sf113, trivial⟩ (es := []) trivial (its := []) trivial (fr := [(114, 110, 4, cloneOS)]) ⟨sff114, trivial⟩ [] [] false [] [] 3 Try.func56 rfl (by kernel_rfl) fun args h => ?_
  have h : args = _ := h
  subst h
  refine ⟨rfl, ?_⟩
  show evalCode _ _ _ fun o => match o with
    | .normal st | .ret st => withP _ (_ ∧ PLe _ (.tup [.agg (svyC (pulV v q p k)), I 0]))
    | _ => False
  repeat' first | (exact PLe.refl _) | (exact BLe.refl _) | (exact PLeL.nil) | (exact BLeL.nil) | (refine ⟨?_, ?_⟩) | (refine PLeL.cons ?_ ?_) | (refine BLeL.cons ?_ ?_) | (refine ple_int ?_) | (refine ple_bool ?_) | (refine ple_tt ?_) | (refine ple_ff ?_) | (refine PLe.aggL ?_) | (refine PLe.tupL ?_) | (refine BLe.cellsL ?_) | (refine halt_rng (cnt 62) k [3, 4, 5, 6, 9, 60, 61, 62] [3, 4, 5, 6, 58] (fun m => [.ptr 3 0, .ptr 4 0, .ptr 5 0, .ptr 6 0, .fn (.func 113) [] [.ptr 5 0, .ptr 4 0], .slice none k fun i => intL (p i), I (k : Nat), I (m : Nat)]) (fun m => [.cells [I v.wl, I v.lv, .slice (some 58) (v.n + (pulL v q p (m)).length) fun i => obsL (pulG v (pulL v q p (m)) i)], .cells [I q], .cells [.slice none k fun i => intL (p i)], .cells [I 0, I 0, .nils], .grow (v.n + (pulL v q p m).length) 110 4]) (fun _ => True) rfl (.mk ?_ ?_) trivial ?_) | (refine fun h => absurd h (by decide)) | (refine fun h => ?_; exfalso; simp only [p2, p3n, ps, pl, pa, Int.toNat_natCast, Bool.cond_true_left, Bool.cond_false_right, Bool.cond_true_right, Bool.cond_false_left, cond_true, cond_false, Bool.not_true, Bool.not_false, Bool.not_not, Bool.and_true, Bool.true_and, Bool.and_false, Bool.false_and, Bool.or_true, Bool.true_or, Bool.or_false, Bool.false_or, beq_self_eq_true, bne_self_eq_false, Bool.true_eq_false, Bool.false_eq_true, reduceCtorEq, Bool.and_self, Bool.or_self, Int.reduceBEq, Int.reduceBNe, Int.reduceNeg, decide_true, decide_false, Int.reduceLT, Int.reduceLE, Int.reduceGT] at h; done) | (refine fun (h : @Eq Bool _ _) => ?_)
  all_goals first | trivial | rfl | omega | (exact obs_ok) | (intro i hi; exact ⟨rfl, rfl⟩) | (exact ple_slice rfl fun i hi => (congrArg obsL (pulG_nil hi)).symm) | (simp only [p2, p3n, ps, pl, pa, Int.toNat_natCast, Bool.cond_true_left, Bool.cond_false_right, Bool.cond_true_right, Bool.cond_false_left, cond_true, cond_false, Bool.not_true, Bool.not_false, Bool.not_not, Bool.and_true, Bool.true_and, Bool.and_false, Bool.false_and, Bool.or_true, Bool.true_or, Bool.or_false, Bool.false_or, beq_self_eq_true, bne_self_eq_false, Bool.true_eq_false, Bool.false_eq_true, reduceCtorEq, Bool.and_self, Bool.or_self, Int.reduceBEq, Int.reduceBNe, Int.reduceNeg, decide_true, decide_false, Int.reduceLT, Int.reduceLE, Int.reduceGT]; done) | (show @Eq Bool _ _; simp only [p2, p3n, ps, pl, pa, Int.toNat_natCast, Bool.cond_true_left, Bool.cond_false_right, Bool.cond_true_right, Bool.cond_false_left, cond_true, cond_false, Bool.not_true, Bool.not_false, Bool.not_not, Bool.and_true, Bool.true_and, Bool.and_false, Bool.false_and, Bool.or_true, Bool.true_or, Bool.or_false, Bool.false_or, beq_self_eq_true, bne_self_eq_false, Bool.true_eq_false, Bool.false_eq_true, reduceCtorEq, Bool.and_self, Bool.or_self, Int.reduceBEq, Int.reduceBNe, Int.reduceNeg, decide_true, decide_false, Int.reduceLT, Int.reduceLE, Int.reduceGT]; done) | skip
  intro m hm _
  refine ⟨fun h1 => ?_, fun h1 => ?_⟩
  · have hlt : m < k := by
      have : (m : Int) < (k : Int) := of_decide_eq_true h1
      omega
    have e1 := succ_w hlt (by omega)
    clear h1
    have hlen := (pulL_len v q p m).1
    have ew : IntKind.i64.wrap (v.lv - 1) = v.lv - 1 := wj (by omega)
    have hLp := isLi k p hk0
    refine (Bool.eq_false_or_eq_true (p m == p q.toNat)).elim (fun q1 => ?_) fun q1 => ?_
    · have eA : pulA v q p m = v.lv := by unfold pulA; rw [q1]; rfl
      have qn : (!(p m == p q.toNat)) = false := by rw [q1]; rfl
      refine (Bool.eq_false_or_eq_true ((m : Int) == q)).elim (fun q2 => ?_) fun q2 => ?_
      · have q3 : ((m : Int) != q) = false := by rw [bne, q2]; rfl
        have es := skip_eq (v := v) (p := p) q2
        repeat' first | (refine fun h => absurd (h.symm.trans qn) (by decide)) | (exact PLe.refl _) | (exact BLe.refl _) | (exact PLeL.nil) | (exact BLeL.nil) | (refine ⟨?_, ?_⟩) | (refine PLeL.cons ?_ ?_) | (refine BLeL.cons ?_ ?_) | (refine ple_int ?_) | (refine ple_bool ?_) | (refine ple_tt ?_) | (refine ple_ff ?_) | (refine PLe.aggL ?_) | (refine PLe.tupL ?_) | (refine BLe.cellsL ?_) | (refine next_rng (cn := cnt 62) rfl (fun _ => rfl) hlt trivial (.mk ?_ ?_)) | (refine fun h => absurd h (by decide)) | (refine fun h => ?_; exfalso; simp only [q1, q3, Int.toNat_natCast, Bool.cond_true_left, Bool.cond_false_right, Bool.cond_true_right, Bool.cond_false_left, cond_true, cond_false, Bool.not_true, Bool.not_false, Bool.not_not, Bool.and_true, Bool.true_and, Bool.and_false, Bool.false_and, Bool.or_true, Bool.true_or, Bool.or_false, Bool.false_or, beq_self_eq_true, bne_self_eq_false, Bool.true_eq_false, Bool.false_eq_true, reduceCtorEq, Bool.and_self, Bool.or_self, Int.reduceBEq, Int.reduceBNe, Int.reduceNeg, decide_true, decide_false, Int.reduceLT, Int.reduceLE, Int.reduceGT] at h; done) | (refine fun (h : @Eq Bool _ _) => ?_)
        all_goals first | trivial | rfl | omega | (exact e1) | (exact hLp) | (exact hqk) | (exact hqk.1) | (exact hqk.2) | (exact ⟨hLp, hqk⟩) | (show (0 : Int) ≤ (m : Int); omega) | (show (m : Int) < (k : Int); omega) | (exact obsG_len) | (show (v.n + (pulL v q p m).length + 1) * 32 ≤ 140737488355328; omega) | (intro x hx; obtain rfl : x = 0 := (by omega); exact ⟨rfl, rfl⟩) | (exact ple_slice (by rw [es]) fun i hi => by rw [es]) | (exact ble_grow (by rw [es])) | (rw [es]) | (simp only [q1, q3, Int.toNat_natCast, Bool.cond_true_left, Bool.cond_false_right, Bool.cond_true_right, Bool.cond_false_left, cond_true, cond_false, Bool.not_true, Bool.not_false, Bool.not_not, Bool.and_true, Bool.true_and, Bool.and_false, Bool.false_and, Bool.or_true, Bool.true_or, Bool.or_false, Bool.false_or, beq_self_eq_true, bne_self_eq_false, Bool.true_eq_false, Bool.false_eq_true, reduceCtorEq, Bool.and_self, Bool.or_self, Int.reduceBEq, Int.reduceBNe, Int.reduceNeg, decide_true, decide_false, Int.reduceLT, Int.reduceLE, Int.reduceGT]; done) | (show @Eq Bool _ _; simp only [q1, q3, Int.toNat_natCast, Bool.cond_true_left, Bool.cond_false_right, Bool.cond_true_right, Bool.cond_false_left, cond_true, cond_false, Bool.not_true, Bool.not_false, Bool.not_not, Bool.and_true, Bool.true_and, Bool.and_false, Bool.false_and, Bool.or_true, Bool.true_or, Bool.or_false, Bool.false_or, beq_self_eq_true, bne_self_eq_false, Bool.true_eq_false, Bool.false_eq_true, reduceCtorEq, Bool.and_self, Bool.or_self, Int.reduceBEq, Int.reduceBNe, Int.reduceNeg, decide_true, decide_false, Int.reduceLT, Int.reduceLE, Int.reduceGT]; done) | skip
      · have q3 : ((m : Int) != q) = true := by rw [bne, q2]; rfl
        have eg := grow_len (v := v) (p := p) q2
        repeat' first | (refine fun h => absurd (h.symm.trans qn) (by decide)) | (exact PLe.refl _) | (exact BLe.refl _) | (exact PLeL.nil) | (exact BLeL.nil) | (refine ⟨?_, ?_⟩) | (refine PLeL.cons ?_ ?_) | (refine BLeL.cons ?_ ?_) | (refine ple_int ?_) | (refine ple_bool ?_) | (refine ple_tt ?_) | (refine ple_ff ?_) | (refine PLe.aggL ?_) | (refine PLe.tupL ?_) | (refine BLe.cellsL ?_) | (refine next_rng (cn := cnt 62) rfl (fun _ => rfl) hlt trivial (.mk ?_ ?_)) | (refine fun h => absurd h (by decide)) | (refine fun h => ?_; exfalso; simp only [q1, q3, Int.toNat_natCast, Bool.cond_true_left, Bool.cond_false_right, Bool.cond_true_right, Bool.cond_false_left, cond_true, cond_false, Bool.not_true, Bool.not_false, Bool.not_not, Bool.and_true, Bool.true_and, Bool.and_false, Bool.false_and, Bool.or_true, Bool.true_or, Bool.or_false, Bool.false_or, beq_self_eq_true, bne_self_eq_false, Bool.true_eq_false, Bool.false_eq_true, reduceCtorEq, Bool.and_self, Bool.or_self, Int.reduceBEq, Int.reduceBNe, Int.reduceNeg, decide_true, decide_false, Int.reduceLT, Int.reduceLE, Int.reduceGT] at h; done) | (refine fun (h : @Eq Bool _ _) => ?_)
        all_goals first | trivial | rfl | omega | (exact e1) | (exact hLp) | (exact hqk) | (exact hqk.1) | (exact hqk.2) | (exact ⟨hLp, hqk⟩) | (show (0 : Int) ≤ (m : Int); omega) | (show (m : Int) < (k : Int); omega) | (exact obsG_len) | (show (v.n + (pulL v q p m).length + 1) * 32 ≤ 140737488355328; omega) | (intro x hx; obtain rfl : x = 0 := (by omega); exact ⟨rfl, rfl⟩) | (show PLe (.slice (some 58) (v.n + (pulL v q p m).length + 1) _) _; refine grow_eq ⟨q, (m : Int), v.lv, v.lv⟩ q2 (by rw [eA]) (fun i hi => ?_) ?_ <;> first | (rw [blt_t hi]; rfl) | (rw [blt_f (Nat.lt_irrefl _), Nat.sub_self]; rfl)) | (exact ble_grow (by rw [eg]; omega)) | (rw [eg]; omega) | (simp only [q1, q3, Int.toNat_natCast, Bool.cond_true_left, Bool.cond_false_right, Bool.cond_true_right, Bool.cond_false_left, cond_true, cond_false, Bool.not_true, Bool.not_false, Bool.not_not, Bool.and_true, Bool.true_and, Bool.and_false, Bool.false_and, Bool.or_true, Bool.true_or, Bool.or_false, Bool.false_or, beq_self_eq_true, bne_self_eq_false, Bool.true_eq_false, Bool.false_eq_true, reduceCtorEq, Bool.and_self, Bool.or_self, Int.reduceBEq, Int.reduceBNe, Int.reduceNeg, decide_true, decide_false, Int.reduceLT, Int.reduceLE, Int.reduceGT]; done) | (show @Eq Bool _ _; simp only [q1, q3, Int.toNat_natCast, Bool.cond_true_left, Bool.cond_false_right, Bool.cond_true_right, Bool.cond_false_left, cond_true, cond_false, Bool.not_true, Bool.not_false, Bool.not_not, Bool.and_true, Bool.true_and, Bool.and_false, Bool.false_and, Bool.or_true, Bool.true_or, Bool.or_false, Bool.false_or, beq_self_eq_true, bne_self_eq_false, Bool.true_eq_false, Bool.false_eq_true, reduceCtorEq, Bool.and_self, Bool.or_self, Int.reduceBEq, Int.reduceBNe, Int.reduceNeg, decide_true, decide_false, Int.reduceLT, Int.reduceLE, Int.reduceGT]; done) | skip
    · have eA : pulA v q p m = v.lv - 1 := by unfold pulA; rw [q1]; rfl
      have qn : (!(p m == p q.toNat)) = true := by rw [q1]; rfl
      refine (Bool.eq_false_or_eq_true ((m : Int) == q)).elim (fun q2 => ?_) fun q2 => ?_
      · have q3 : ((m : Int) != q) = false := by rw [bne, q2]; rfl
        have es := skip_eq (v := v) (p := p) q2
        repeat' first | (refine fun h => absurd (h.symm.trans qn) (by decide)) | (exact PLe.refl _) | (exact BLe.refl _) | (exact PLeL.nil) | (exact BLeL.nil) | (refine ⟨?_, ?_⟩) | (refine PLeL.cons ?_ ?_) | (refine BLeL.cons ?_ ?_) | (refine ple_int ?_) | (refine ple_bool ?_) | (refine ple_tt ?_) | (refine ple_ff ?_) | (refine PLe.aggL ?_) | (refine PLe.tupL ?_) | (refine BLe.cellsL ?_) | (refine next_rng (cn := cnt 62) rfl (fun _ => rfl) hlt trivial (.mk ?_ ?_)) | (refine fun h => absurd h (by decide)) | (refine fun h => ?_; exfalso; simp only [q1, q3, Int.toNat_natCast, Bool.cond_true_left, Bool.cond_false_right, Bool.cond_true_right, Bool.cond_false_left, cond_true, cond_false, Bool.not_true, Bool.not_false, Bool.not_not, Bool.and_true, Bool.true_and, Bool.and_false, Bool.false_and, Bool.or_true, Bool.true_or, Bool.or_false, Bool.false_or, beq_self_eq_true, bne_self_eq_false, Bool.true_eq_false, Bool.false_eq_true, reduceCtorEq, Bool.and_self, Bool.or_self, Int.reduceBEq, Int.reduceBNe, Int.reduceNeg, decide_true, decide_false, Int.reduceLT, Int.reduceLE, Int.reduceGT] at h; done) | (refine fun (h : @Eq Bool _ _) => ?_)
        all_goals first | trivial | rfl | omega | (exact e1) | (exact hLp) | (exact hqk) | (exact hqk.1) | (exact hqk.2) | (exact ⟨hLp, hqk⟩) | (show (0 : Int) ≤ (m : Int); omega) | (show (m : Int) < (k : Int); omega) | (exact obsG_len) | (show (v.n + (pulL v q p m).length + 1) * 32 ≤ 140737488355328; omega) | (intro x hx; obtain rfl : x = 0 := (by omega); exact ⟨rfl, rfl⟩) | (exact ple_slice (by rw [es]) fun i hi => by rw [es]) | (exact ble_grow (by rw [es])) | (rw [es]) | (simp only [q1, q3, Int.toNat_natCast, Bool.cond_true_left, Bool.cond_false_right, Bool.cond_true_right, Bool.cond_false_left, cond_true, cond_false, Bool.not_true, Bool.not_false, Bool.not_not, Bool.and_true, Bool.true_and, Bool.and_false, Bool.false_and, Bool.or_true, Bool.true_or, Bool.or_false, Bool.false_or, beq_self_eq_true, bne_self_eq_false, Bool.true_eq_false, Bool.false_eq_true, reduceCtorEq, Bool.and_self, Bool.or_self, Int.reduceBEq, Int.reduceBNe, Int.reduceNeg, decide_true, decide_false, Int.reduceLT, Int.reduceLE, Int.reduceGT]; done) | (show @Eq Bool _ _; simp only [q1, q3, Int.toNat_natCast, Bool.cond_true_left, Bool.cond_false_right, Bool.cond_true_right, Bool.cond_false_left, cond_true, cond_false, Bool.not_true, Bool.not_false, Bool.not_not, Bool.and_true, Bool.true_and, Bool.and_false, Bool.false_and, Bool.or_true, Bool.true_or, Bool.or_false, Bool.false_or, beq_self_eq_true, bne_self_eq_false, Bool.true_eq_false, Bool.false_eq_true, reduceCtorEq, Bool.and_self, Bool.or_self, Int.reduceBEq, Int.reduceBNe, Int.reduceNeg, decide_true, decide_false, Int.reduceLT, Int.reduceLE, Int.reduceGT]; done) | skip
      · have q3 : ((m : Int) != q) = true := by rw [bne, q2]; rfl
        have eg := grow_len (v := v) (p := p) q2
        repeat' first | (refine fun h => absurd (h.symm.trans qn) (by decide)) | (exact PLe.refl _) | (exact BLe.refl _) | (exact PLeL.nil) | (exact BLeL.nil) | (refine ⟨?_, ?_⟩) | (refine PLeL.cons ?_ ?_) | (refine BLeL.cons ?_ ?_) | (refine ple_int ?_) | (refine ple_bool ?_) | (refine ple_tt ?_) | (refine ple_ff ?_) | (refine PLe.aggL ?_) | (refine PLe.tupL ?_) | (refine BLe.cellsL ?_) | (refine next_rng (cn := cnt 62) rfl (fun _ => rfl) hlt trivial (.mk ?_ ?_)) | (refine fun h => absurd h (by decide)) | (refine fun h => ?_; exfalso; simp only [q1, q3, Int.toNat_natCast, Bool.cond_true_left, Bool.cond_false_right, Bool.cond_true_right, Bool.cond_false_left, cond_true, cond_false, Bool.not_true, Bool.not_false, Bool.not_not, Bool.and_true, Bool.true_and, Bool.and_false, Bool.false_and, Bool.or_true, Bool.true_or, Bool.or_false, Bool.false_or, beq_self_eq_true, bne_self_eq_false, Bool.true_eq_false, Bool.false_eq_true, reduceCtorEq, Bool.and_self, Bool.or_self, Int.reduceBEq, Int.reduceBNe, Int.reduceNeg, decide_true, decide_false, Int.reduceLT, Int.reduceLE, Int.reduceGT] at h; done) | (refine fun (h : @Eq Bool _ _) => ?_)
        all_goals first | trivial | rfl | omega | (exact e1) | (exact hLp) | (exact hqk) | (exact hqk.1) | (exact hqk.2) | (exact ⟨hLp, hqk⟩) | (show (0 : Int) ≤ (m : Int); omega) | (show (m : Int) < (k : Int); omega) | (exact obsG_len) | (show (v.n + (pulL v q p m).length + 1) * 32 ≤ 140737488355328; omega) | (intro x hx; obtain rfl : x = 0 := (by omega); exact ⟨rfl, rfl⟩) | (show PLe (.slice (some 58) (v.n + (pulL v q p m).length + 1) _) _; refine grow_eq ⟨q, (m : Int), IntKind.i64.wrap (v.lv - 1), IntKind.i64.wrap (v.lv - 1)⟩ q2 (by rw [eA, ew]) (fun i hi => ?_) ?_ <;> first | (rw [blt_t hi]; rfl) | (rw [blt_f (Nat.lt_irrefl _), Nat.sub_self]; rfl)) | (exact ble_grow (by rw [eg]; omega)) | (rw [eg]; omega) | (simp only [q1, q3, Int.toNat_natCast, Bool.cond_true_left, Bool.cond_false_right, Bool.cond_true_right, Bool.cond_false_left, cond_true, cond_false, Bool.not_true, Bool.not_false, Bool.not_not, Bool.and_true, Bool.true_and, Bool.and_false, Bool.false_and, Bool.or_true, Bool.true_or, Bool.or_false, Bool.false_or, beq_self_eq_true, bne_self_eq_false, Bool.true_eq_false, Bool.false_eq_true, reduceCtorEq, Bool.and_self, Bool.or_self, Int.reduceBEq, Int.reduceBNe, Int.reduceNeg, decide_true, decide_false, Int.reduceLT, Int.reduceLE, Int.reduceGT]; done) | (show @Eq Bool _ _; simp only [q1, q3, Int.toNat_natCast, Bool.cond_true_left, Bool.cond_false_right, Bool.cond_true_right, Bool.cond_false_left, cond_true, cond_false, Bool.not_true, Bool.not_false, Bool.not_not, Bool.and_true, Bool.true_and, Bool.and_false, Bool.false_and, Bool.or_true, Bool.true_or, Bool.or_false, Bool.false_or, beq_self_eq_true, bne_self_eq_false, Bool.true_eq_false, Bool.false_eq_true, reduceCtorEq, Bool.and_self, Bool.or_self, Int.reduceBEq, Int.reduceBNe, Int.reduceNeg, decide_true, decide_false, Int.reduceLT, Int.reduceLE, Int.reduceGT]; done) | skip
  · have hmn : m = k := by
      have : ¬ ((m : Int) < (k : Int)) := of_decide_eq_false h1
      omega
    subst hmn
    clear h1
    repeat' first | (exact PLe.refl _) | (exact BLe.refl _) | (exact PLeL.nil) | (exact BLeL.nil) | (refine ⟨?_, ?_⟩) | (refine PLeL.cons ?_ ?_) | (refine BLeL.cons ?_ ?_) | (refine ple_int ?_) | (refine ple_bool ?_) | (refine ple_tt ?_) | (refine ple_ff ?_) | (refine PLe.aggL ?_) | (refine PLe.tupL ?_) | (refine BLe.cellsL ?_) | (refine fun h => absurd h (by decide)) | (refine fun (h : @Eq Bool _ _) => ?_)
    all_goals first | trivial | rfl | omega | skip
end Go.Proofs.Ytnjhbmcambofgaa
