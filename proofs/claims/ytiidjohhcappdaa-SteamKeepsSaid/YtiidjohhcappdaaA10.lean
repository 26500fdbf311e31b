/- Layer 1: the law on what is kept. -/
import Derived.Test.YtiidjohhcappdaaS27
import Derived.Test.YtiidjohhcappdaaS30
import Derived.Test.YtiidjohhcappdaaS9c
import Derived.Test.YtiidjohhcappdaaX2
namespace Go.Proofs.Ytiidjohhcappdaa
open Go.V
set_option linter.unusedSimpArgs false

def ints (m : Nat) (l : Nat → Int) : PV := .slice none m fun i => intL (l i)
def awakeS : V.Spec := V.atS [] (.bool true)
theorem sf17' : SF Try.prog 17 awakeS := sf17
def noS : V.Spec := fun _ => (some False, .junk)
theorem sf_no {f : Nat} (h : HasBody Try.prog f) : SF Try.prog f noS := ⟨fun _ _ _ _ _ _ _ h => h.elim, h⟩
inductive isTV (n : Nat) (get : Nat → List PV) (m : Nat) (lget : Nat → List PV) (x : Stream) : Prop
  | mk (t : Nat → Row) (l : Nat → Int) (hT : okT n t) (hL : Upto (lvP (n : Int) l) m) (h1 : 1 ≤ m) (h20 : m ≤ 20) (hx : okS x) (e : get = fun i => rowL (t i)) (e' : lget = fun i => intL (l i))
  | no (h : False)
noncomputable def trVS : V.Spec
  | [.slice none n get, .slice none m lget, .agg [.int .i64 a, .int .i64 b, .int .i64 c, .int .i64 d]] => (some (isTV n get m lget ⟨a, b, c, d⟩), .tup [.slice none m (fun i => partL (trP (fun i => rowOf (get i)) (fun i => intOf (lget i)) ⟨a, b, c, d⟩ i)), I 0])
  | _ => bad
theorem sf40v : SF Try.prog 40 trVS := by
  refine sf_args sf40s fun args h => ?_
  unfold trVS at h ⊢
  split at h
  · rename_i n get m lget a b c d
    have h : isTV n get m lget ⟨a, b, c, d⟩ := h
    cases h with
    | no h => exact h.elim
    | mk t l hT hL h1 h20 hx e e' =>
    subst e e'
    have hn := hT.2.1
    have hc : chkLE n t m l = 0 := by
      unfold chkLE
      rw [okTb_t hT, allB_t (p := fun i => 0 ≤ l i ∧ l i ≤ (n : Int) - 1) ⟨fun i hi => ⟨(hL.all i hi).1, (hL.all i hi).2.1⟩⟩]
      rfl
    have ht : trB m l = true := trB_t h1 h20 ⟨fun i hi => (hL.all i hi).2.2⟩
    have hE : trE n t m l ⟨a, b, c, d⟩ = 0 := by unfold trE; rw [if_pos hc, ht, if_pos hx]; rfl
    refine ⟨_, rfl, fun i hi => .refl _, .mk t l (by omega) (by omega) rfl rfl, ?_⟩
    show PV.tup [.slice none (trN n t m l ⟨a, b, c, d⟩) (fun i => partL (trP t l ⟨a, b, c, d⟩ i)), I (trE n t m l ⟨a, b, c, d⟩)] = _
    rw [show trN n t m l ⟨a, b, c, d⟩ = m from if_pos hE, hE]
    rfl
  · exact h.elim

/-- The steam of a train's first flashes, and what fell out. -/
def allS (t : Nat → Row) (l : Nat → Int) (x : Stream) : Nat → Stream
  | 0 => zeroS
  | i + 1 => addS (allS t l x i) (stm (trP t l x i))
def scS (t : Nat → Row) (l : Nat → Int) (x : Stream) : Nat → Int
  | 0 => 0
  | i + 1 => scS t l x i + (trP t l x i).scale
theorem keep_all (t : Nat → Row) (l : Nat → Int) (x : Stream) : ∀ i, (allS t l x i).m + (trW t l x i).m = x.m ∧ (allS t l x i).h + (trW t l x i).h = x.h ∧ (allS t l x i).s + (trW t l x i).s + scS t l x i = x.s ∧ (allS t l x i).g + (trW t l x i).g = x.g
  | 0 => by simp only [allS, scS, trW, zeroS]; omega
  | i + 1 => by
    obtain ⟨k1, k2, k3, k4⟩ := keep_all t l x i
    obtain ⟨q1, q2, q3, q4, q5⟩ := parts_sums (t (l i).toNat) (trW t l x i)
    simp only [allS, scS, trW, addS, stm, wat, trP]
    omega
theorem all_nn {n : Nat} {t : Nat → Row} {m : Nat} {l : Nat → Int} {x : Stream} (hT : okT n t) (hL : Upto (fun i => 0 ≤ l i ∧ l i ≤ (n : Int) - 1) m) (hx : okS x) : ∀ i, i ≤ m → 0 ≤ (allS t l x i).m ∧ 0 ≤ (allS t l x i).h ∧ 0 ≤ (allS t l x i).s ∧ 0 ≤ (allS t l x i).g ∧ 0 ≤ scS t l x i
  | 0, _ => by simp only [allS, scS, zeroS]; omega
  | i + 1, hi => by
    have ih := all_nn hT hL hx i (by omega)
    have hLi := hL.all i (by omega)
    obtain ⟨_, h2, h3, _⟩ := okS_parts ((hT.2.2.all (l i).toNat (by omega)).1) (trW_ok hT hL hx i (by omega))
    simp only [okS, stm] at h2
    simp only [allS, scS, addS, stm, trP]
    omega

set_option maxRecDepth 100000 in
set_option maxHeartbeats 8000000 in
theorem kpA (n : Nat) (t : Nat → Row) (m : Nat) (l : Nat → Int) (p : Nat) (s : Nat → Stream) (by_ : Int) (hn : n ≤ 9223372036854775807) (hT : okTb n t = false) : SF Try.prog 10 (V.atS [tab n t, .slice none m (fun i => intL (l i)), .slice none p (fun i => strL (s i)), .int .u32 by_] (.bool true)) := by
  have h24 : SF Try.prog 24 (V.atS [tab n t] (.bool false)) := sf_at sf24L (isTabL.mk t (by omega) rfl) (by show PV.bool (okTb n t) = _; rw [hT])
  refine sf_of types_ok mixed (l := [(17, awakeS), (19, noS), (22, noS), (23, noS), (24, _), (29, noS), (30, noS), (32, noS), (38, noS), (40, noS), (41, noS), (53, noS)]) ⟨sf17', sf_no sf19.2, sf_no sf22.2, sf_no sf23.2, h24, sf_no sf29.2, sf_no sf30.2, sf_no sf32.2, sf_no sf38.2, sf_no sf40s.2, sf_no sf41.2, sf_no sf53.2, trivial⟩ (es := []) trivial 4 Try.func10 rfl (by kernel_rfl) fun args h => ?_
  cases (show args = _ from h)
  refine ⟨rfl, ?_⟩
  repeat' first
    | refine ⟨?_, ?_⟩
    | refine fun h => absurd h (by decide)
    | (refine fun h => ?_; exfalso; simp only [cond_true, cond_false, Bool.not_true, Bool.not_false, Bool.not_not, Bool.and_true, Bool.true_and, Bool.and_false, Bool.false_and, Bool.or_true, Bool.true_or, Bool.or_false, Bool.false_or, beq_self_eq_true, bne_self_eq_false, Bool.true_eq_false, Bool.false_eq_true, reduceCtorEq, Bool.and_self, decide_true, decide_false, ite_true, ite_false, eq_self] at h; done)
    | refine fun _ => ?_
    | refine ple_ok ?_
    | exact (rfl : @Eq (List PV) _ _)
  all_goals first
    | trivial
    | rfl
    | omega
    | exact isTab.mk t (by omega) rfl
    | (show @Eq Bool _ _; simp only [cond_true, cond_false, Bool.not_true, Bool.not_false, Bool.not_not, Bool.and_true, Bool.true_and, Bool.and_false, Bool.false_and, Bool.or_true, Bool.true_or, Bool.or_false, Bool.false_or, beq_self_eq_true, bne_self_eq_false, Bool.true_eq_false, Bool.false_eq_true, reduceCtorEq, Bool.and_self, decide_true, decide_false, ite_true, ite_false, eq_self]; done)
    | skip
set_option maxRecDepth 100000 in
set_option maxHeartbeats 8000000 in
theorem kpB (n : Nat) (t : Nat → Row) (m : Nat) (l : Nat → Int) (p : Nat) (s : Nat → Stream) (by_ : Int) (hn : n ≤ 9223372036854775807) (hm : m ≤ 9223372036854775807) (hT : okTb n t = true) (hL : lvB n m l = false) : SF Try.prog 10 (V.atS [tab n t, .slice none m (fun i => intL (l i)), .slice none p (fun i => strL (s i)), .int .u32 by_] (.bool true)) := by
  have h24 : SF Try.prog 24 (V.atS [tab n t] (.bool true)) := sf_at sf24L (isTabL.mk t (by omega) rfl) (by show PV.bool (okTb n t) = _; rw [hT])
  have hok : okT n t := @of_decide_eq_true _ (Classical.propDecidable _) hT
  have hn20 := hok.2.1
  have h41 : SF Try.prog 41 (V.atS [I n, .slice none m (fun i => intL (l i))] (.bool false)) := sf_at sf41 (isLv.mk l (by omega) (by omega) hm rfl) (by show PV.bool (lvB n m l) = _; rw [hL])
  refine sf_of types_ok mixed (l := [(17, awakeS), (19, noS), (22, noS), (23, noS), (24, _), (29, noS), (30, noS), (32, noS), (38, noS), (40, noS), (41, _), (53, noS)]) ⟨sf17', sf_no sf19.2, sf_no sf22.2, sf_no sf23.2, h24, sf_no sf29.2, sf_no sf30.2, sf_no sf32.2, sf_no sf38.2, sf_no sf40s.2, h41, sf_no sf53.2, trivial⟩ (es := []) trivial 4 Try.func10 rfl (by kernel_rfl) fun args h => ?_
  cases (show args = _ from h)
  refine ⟨rfl, ?_⟩
  repeat' first
    | refine ⟨?_, ?_⟩
    | refine fun h => absurd h (by decide)
    | (refine fun h => ?_; exfalso; simp only [cond_true, cond_false, Bool.not_true, Bool.not_false, Bool.not_not, Bool.and_true, Bool.true_and, Bool.and_false, Bool.false_and, Bool.or_true, Bool.true_or, Bool.or_false, Bool.false_or, beq_self_eq_true, bne_self_eq_false, Bool.true_eq_false, Bool.false_eq_true, reduceCtorEq, Bool.and_self, decide_true, decide_false, ite_true, ite_false, eq_self] at h; done)
    | refine fun _ => ?_
    | refine ple_ok ?_
    | exact (rfl : @Eq (List PV) _ _)
  all_goals first
    | trivial
    | rfl
    | omega
    | exact isTab.mk t (by omega) rfl
    | (show @Eq Bool _ _; simp only [cond_true, cond_false, Bool.not_true, Bool.not_false, Bool.not_not, Bool.and_true, Bool.true_and, Bool.and_false, Bool.false_and, Bool.or_true, Bool.true_or, Bool.or_false, Bool.false_or, beq_self_eq_true, bne_self_eq_false, Bool.true_eq_false, Bool.false_eq_true, reduceCtorEq, Bool.and_self, decide_true, decide_false, ite_true, ite_false, eq_self]; done)
    | skip
set_option maxRecDepth 100000 in
set_option maxHeartbeats 8000000 in
theorem kpC (n : Nat) (t : Nat → Row) (m : Nat) (l : Nat → Int) (p : Nat) (s : Nat → Stream) (by_ : Int) (hn : n ≤ 9223372036854775807) (hm : m ≤ 9223372036854775807) (hT : okTb n t = true) (hL : lvB n m l = true) (hp : p = 0) : SF Try.prog 10 (V.atS [tab n t, .slice none m (fun i => intL (l i)), .slice none p (fun i => strL (s i)), .int .u32 by_] (.bool true)) := by
  have h24 : SF Try.prog 24 (V.atS [tab n t] (.bool true)) := sf_at sf24L (isTabL.mk t (by omega) rfl) (by show PV.bool (okTb n t) = _; rw [hT])
  have hok : okT n t := @of_decide_eq_true _ (Classical.propDecidable _) hT
  have hn20 := hok.2.1
  have h41 : SF Try.prog 41 (V.atS [I n, .slice none m (fun i => intL (l i))] (.bool true)) := sf_at sf41 (isLv.mk l (by omega) (by omega) hm rfl) (by show PV.bool (lvB n m l) = _; rw [hL])
  have g1 : decide ((p : Int) < 1) = true := decide_eq_true (by omega)
  refine sf_of types_ok mixed (l := [(17, awakeS), (19, noS), (22, noS), (23, noS), (24, _), (29, noS), (30, noS), (32, noS), (38, noS), (40, noS), (41, _), (53, noS)]) ⟨sf17', sf_no sf19.2, sf_no sf22.2, sf_no sf23.2, h24, sf_no sf29.2, sf_no sf30.2, sf_no sf32.2, sf_no sf38.2, sf_no sf40s.2, h41, sf_no sf53.2, trivial⟩ (es := []) trivial 4 Try.func10 rfl (by kernel_rfl) fun args h => ?_
  cases (show args = _ from h)
  refine ⟨rfl, ?_⟩
  repeat' first
    | refine ⟨?_, ?_⟩
    | refine fun h => absurd h (by decide)
    | (refine fun h => ?_; exfalso; simp only [g1, cond_true, cond_false, Bool.not_true, Bool.not_false, Bool.not_not, Bool.and_true, Bool.true_and, Bool.and_false, Bool.false_and, Bool.or_true, Bool.true_or, Bool.or_false, Bool.false_or, beq_self_eq_true, bne_self_eq_false, Bool.true_eq_false, Bool.false_eq_true, reduceCtorEq, Bool.and_self, decide_true, decide_false, ite_true, ite_false, eq_self] at h; done)
    | refine fun _ => ?_
    | refine ple_ok ?_
    | exact (rfl : @Eq (List PV) _ _)
  all_goals first
    | trivial
    | rfl
    | omega
    | exact isTab.mk t (by omega) rfl
    | (show @Eq Bool _ _; simp only [g1, cond_true, cond_false, Bool.not_true, Bool.not_false, Bool.not_not, Bool.and_true, Bool.true_and, Bool.and_false, Bool.false_and, Bool.or_true, Bool.true_or, Bool.or_false, Bool.false_or, beq_self_eq_true, bne_self_eq_false, Bool.true_eq_false, Bool.false_eq_true, reduceCtorEq, Bool.and_self, decide_true, decide_false, ite_true, ite_false, eq_self]; done)
    | skip
set_option maxRecDepth 100000 in
set_option maxHeartbeats 8000000 in
theorem kpD (n : Nat) (t : Nat → Row) (m : Nat) (l : Nat → Int) (p : Nat) (s : Nat → Stream) (by_ : Int) (hn : n ≤ 9223372036854775807) (hm : m ≤ 9223372036854775807) (hT : okTb n t = true) (hL : lvB n m l = true) (hp : 40 < p) : SF Try.prog 10 (V.atS [tab n t, .slice none m (fun i => intL (l i)), .slice none p (fun i => strL (s i)), .int .u32 by_] (.bool true)) := by
  have h24 : SF Try.prog 24 (V.atS [tab n t] (.bool true)) := sf_at sf24L (isTabL.mk t (by omega) rfl) (by show PV.bool (okTb n t) = _; rw [hT])
  have hok : okT n t := @of_decide_eq_true _ (Classical.propDecidable _) hT
  have hn20 := hok.2.1
  have h41 : SF Try.prog 41 (V.atS [I n, .slice none m (fun i => intL (l i))] (.bool true)) := sf_at sf41 (isLv.mk l (by omega) (by omega) hm rfl) (by show PV.bool (lvB n m l) = _; rw [hL])
  have g1 : decide ((p : Int) < 1) = false := decide_eq_false (by omega)
  have g2 : decide ((40 : Int) < (p : Int)) = true := decide_eq_true (by omega)
  refine sf_of types_ok mixed (l := [(17, awakeS), (19, noS), (22, noS), (23, noS), (24, _), (29, noS), (30, noS), (32, noS), (38, noS), (40, noS), (41, _), (53, noS)]) ⟨sf17', sf_no sf19.2, sf_no sf22.2, sf_no sf23.2, h24, sf_no sf29.2, sf_no sf30.2, sf_no sf32.2, sf_no sf38.2, sf_no sf40s.2, h41, sf_no sf53.2, trivial⟩ (es := []) trivial 4 Try.func10 rfl (by kernel_rfl) fun args h => ?_
  cases (show args = _ from h)
  refine ⟨rfl, ?_⟩
  repeat' first
    | refine ⟨?_, ?_⟩
    | refine fun h => absurd h (by decide)
    | (refine fun h => ?_; exfalso; simp only [g1, g2, cond_true, cond_false, Bool.not_true, Bool.not_false, Bool.not_not, Bool.and_true, Bool.true_and, Bool.and_false, Bool.false_and, Bool.or_true, Bool.true_or, Bool.or_false, Bool.false_or, beq_self_eq_true, bne_self_eq_false, Bool.true_eq_false, Bool.false_eq_true, reduceCtorEq, Bool.and_self, decide_true, decide_false, ite_true, ite_false, eq_self] at h; done)
    | refine fun _ => ?_
    | refine ple_ok ?_
    | exact (rfl : @Eq (List PV) _ _)
  all_goals first
    | trivial
    | rfl
    | omega
    | exact isTab.mk t (by omega) rfl
    | (show @Eq Bool _ _; simp only [g1, g2, cond_true, cond_false, Bool.not_true, Bool.not_false, Bool.not_not, Bool.and_true, Bool.true_and, Bool.and_false, Bool.false_and, Bool.or_true, Bool.true_or, Bool.or_false, Bool.false_or, beq_self_eq_true, bne_self_eq_false, Bool.true_eq_false, Bool.false_eq_true, reduceCtorEq, Bool.and_self, decide_true, decide_false, ite_true, ite_false, eq_self]; done)
    | skip
set_option maxRecDepth 100000 in
set_option maxHeartbeats 8000000 in
theorem kpE (n : Nat) (t : Nat → Row) (m : Nat) (l : Nat → Int) (p : Nat) (s : Nat → Stream) (by_ : Int) (hn : n ≤ 9223372036854775807) (hm : m ≤ 9223372036854775807) (hT : okTb n t = true) (hL : lvB n m l = true) (hp0 : 0 < p) (hp : p ≤ 40) (hA : (allB p fun i => okS (s i)) = false) : SF Try.prog 10 (V.atS [tab n t, .slice none m (fun i => intL (l i)), .slice none p (fun i => strL (s i)), .int .u32 by_] (.bool true)) := by
  have h24 : SF Try.prog 24 (V.atS [tab n t] (.bool true)) := sf_at sf24L (isTabL.mk t (by omega) rfl) (by show PV.bool (okTb n t) = _; rw [hT])
  have hok : okT n t := @of_decide_eq_true _ (Classical.propDecidable _) hT
  have hn20 := hok.2.1
  have h41 : SF Try.prog 41 (V.atS [I n, .slice none m (fun i => intL (l i))] (.bool true)) := sf_at sf41 (isLv.mk l (by omega) (by omega) hm rfl) (by show PV.bool (lvB n m l) = _; rw [hL])
  have g1 : decide ((p : Int) < 1) = false := decide_eq_false (by omega)
  have g2 : decide ((40 : Int) < (p : Int)) = false := decide_eq_false (by omega)
  have h32 : SF Try.prog 32 (V.atS [.slice none p (fun i => strL (s i))] (.bool false)) := sf_at sf32 (isStrs.mk s (by omega) rfl) (by show PV.bool (allB p fun i => okS (s i)) = _; rw [hA])
  refine sf_of types_ok mixed (l := [(17, awakeS), (19, noS), (22, noS), (23, noS), (24, _), (29, noS), (30, noS), (32, _), (38, noS), (40, noS), (41, _), (53, noS)]) ⟨sf17', sf_no sf19.2, sf_no sf22.2, sf_no sf23.2, h24, sf_no sf29.2, sf_no sf30.2, h32, sf_no sf38.2, sf_no sf40s.2, h41, sf_no sf53.2, trivial⟩ (es := []) trivial 4 Try.func10 rfl (by kernel_rfl) fun args h => ?_
  cases (show args = _ from h)
  refine ⟨rfl, ?_⟩
  repeat' first
    | refine ⟨?_, ?_⟩
    | refine fun h => absurd h (by decide)
    | (refine fun h => ?_; exfalso; simp only [g1, g2, cond_true, cond_false, Bool.not_true, Bool.not_false, Bool.not_not, Bool.and_true, Bool.true_and, Bool.and_false, Bool.false_and, Bool.or_true, Bool.true_or, Bool.or_false, Bool.false_or, beq_self_eq_true, bne_self_eq_false, Bool.true_eq_false, Bool.false_eq_true, reduceCtorEq, Bool.and_self, decide_true, decide_false, ite_true, ite_false, eq_self] at h; done)
    | refine fun _ => ?_
    | refine ple_ok ?_
    | exact (rfl : @Eq (List PV) _ _)
  all_goals first
    | trivial
    | rfl
    | omega
    | exact isTab.mk t (by omega) rfl
    | (show @Eq Bool _ _; simp only [g1, g2, cond_true, cond_false, Bool.not_true, Bool.not_false, Bool.not_not, Bool.and_true, Bool.true_and, Bool.and_false, Bool.false_and, Bool.or_true, Bool.true_or, Bool.or_false, Bool.false_or, beq_self_eq_true, bne_self_eq_false, Bool.true_eq_false, Bool.false_eq_true, reduceCtorEq, Bool.and_self, decide_true, decide_false, ite_true, ite_false, eq_self]; done)
    | skip
set_option maxRecDepth 100000 in
set_option maxHeartbeats 8000000 in
theorem kp00 (n : Nat) (t : Nat → Row) (m : Nat) (l : Nat → Int) (p : Nat) (s : Nat → Stream) (by_ : Int) (hn : n ≤ 9223372036854775807) (hm : m ≤ 9223372036854775807) (hby : 0 ≤ by_ ∧ by_ ≤ 4294967295) (hT : okTb n t = true) (hL : lvB n m l = true) (hp0 : 0 < p) (hp : p ≤ 40) (hA : (allB p fun i => okS (s i)) = true) (hM : mixE p s = 0) (hX : 0 ≤ by_ ∧ by_ ≤ (s 0).h ∧ by_ ≤ 4000 * (s (IntKind.i64.wrap ((p : Int) - 1)).toNat).m - (s (IntKind.i64.wrap ((p : Int) - 1)).toNat).h) : SF Try.prog 10 (V.atS [tab n t, .slice none m (fun i => intL (l i)), .slice none p (fun i => strL (s i)), .int .u32 by_] (.bool true)) := by
  have h24 : SF Try.prog 24 (V.atS [tab n t] (.bool true)) := sf_at sf24L (isTabL.mk t (by omega) rfl) (by show PV.bool (okTb n t) = _; rw [hT])
  have hok : okT n t := @of_decide_eq_true _ (Classical.propDecidable _) hT
  have hn20 := hok.2.1
  have h41 : SF Try.prog 41 (V.atS [I n, .slice none m (fun i => intL (l i))] (.bool true)) := sf_at sf41 (isLv.mk l (by omega) (by omega) hm rfl) (by show PV.bool (lvB n m l) = _; rw [hL])
  have g1 : decide ((p : Int) < 1) = false := decide_eq_false (by omega)
  have g2 : decide ((40 : Int) < (p : Int)) = false := decide_eq_false (by omega)
  have h32 : SF Try.prog 32 (V.atS [.slice none p (fun i => strL (s i))] (.bool true)) := sf_at sf32 (isStrs.mk s (by omega) rfl) (by show PV.bool (allB p fun i => okS (s i)) = _; rw [hA])
  obtain ⟨m1, m20, hu⟩ := lvB_get hL
  have hxs := (allB_get hA).all
  have hx : okS (s 0) := hxs 0 (by omega)
  have huL : Upto (fun i => 0 ≤ l i ∧ l i ≤ (n : Int) - 1) m := ⟨fun i hi => ⟨(hu.all i hi).1, (hu.all i hi).2.1⟩⟩
  have hW := trW_ok (x := s 0) hok huL hx
  have hnn := all_nn (x := s 0) hok huL hx
  have tva : isTV n (fun i => rowL (t i)) m (fun i => intL (l i)) ⟨(s (Int.toNat 0)).m, (s (Int.toNat 0)).h, (s (Int.toNat 0)).s, (s (Int.toNat 0)).g⟩ := .mk t l hok hu m1 m20 hx rfl rfl
  have ehx : okS (s 0) := hx
  simp only [okS] at ehx
  have hst : isStrs p fun i => strL (s i) := .mk s (by omega) rfl
  have elast : IntKind.i64.wrap ((p : Int) - 1) = (p : Int) - 1 := w64 (by omega) (by omega)
  have hy : okS (s (IntKind.i64.wrap ((p : Int) - 1)).toNat) := hxs _ (by rw [elast]; omega)
  have eby : IntKind.i64.wrap by_ = by_ := w64 (by omega) (by omega)
  have hbig := sumS_big hxs
  have hV : mixV p s = (sumS s p) := if_pos hM
  have h29 : SF Try.prog 29 (V.atS [.slice none p (fun i => strL (s i))] (.tup [encS (sumS s p), I 0])) := by
    refine sf_at sf29 hst ?_
    show PV.tup [encS (mixV p s), I (mixE p s)] = _
    rw [hV, hM]
  have h38 : SF Try.prog 38 (V.atS [encS (s 0), encS (s (IntKind.i64.wrap ((p : Int) - 1)).toNat), I (IntKind.i64.wrap by_)] (.tup [encS ⟨(s 0).m, (s 0).h - by_, (s 0).s, (s 0).g⟩, encS ⟨(s (IntKind.i64.wrap ((p : Int) - 1)).toNat).m, (s (IntKind.i64.wrap ((p : Int) - 1)).toNat).h + by_, (s (IntKind.i64.wrap ((p : Int) - 1)).toNat).s, (s (IntKind.i64.wrap ((p : Int) - 1)).toNat).g⟩, I 0])) := by
    refine sf_at sf38 trivial ?_
    show exR (s 0) (s (IntKind.i64.wrap ((p : Int) - 1)).toNat) (IntKind.i64.wrap by_) = _
    rw [eby]
    have hP : exP (s 0) (s (IntKind.i64.wrap ((p : Int) - 1)).toNat) by_ := ⟨hx, hy, hX⟩
    simp only [exR, sel, if_pos hP, if_pos hx, if_pos hy, if_pos hX]
  refine sf_of types_ok mixed (l := [(17, awakeS), (19, tabS), (22, chkS), (23, strS), (24, _), (29, _), (30, strsS), (32, _), (38, _), (40, trVS), (41, _), (53, plusS)]) ⟨sf17', sf19, sf22, sf23, h24, h29, sf30, h32, h38, sf40v, h41, sf53, trivial⟩ (es := []) trivial 4 Try.func10 rfl (by kernel_rfl) fun args h => ?_
  cases (show args = _ from h)
  refine ⟨rfl, ?_⟩
  repeat' first
    | refine ⟨?_, ?_⟩
    | refine fun h => absurd h (by decide)
    | (refine fun h => ?_; exfalso; simp only [g1, g2, cond_true, cond_false, Bool.not_true, Bool.not_false, Bool.not_not, Bool.and_true, Bool.true_and, Bool.and_false, Bool.false_and, Bool.or_true, Bool.true_or, Bool.or_false, Bool.false_or, beq_self_eq_true, bne_self_eq_false, Bool.true_eq_false, Bool.false_eq_true, reduceCtorEq, Bool.and_self, decide_true, decide_false, ite_true, ite_false, eq_self] at h; done)
    | refine fun _ => ?_
    | refine ple_ok ?_
    | exact (rfl : @Eq (List PV) _ _)
  all_goals first
    | trivial
    | rfl
    | omega
    | exact isTab.mk t (by omega) rfl
    | (show m * 8 ≤ 140737488355328; omega)
    | exact tva
    | (show @Eq Bool _ _; simp only [g1, g2, cond_true, cond_false, Bool.not_true, Bool.not_false, Bool.not_not, Bool.and_true, Bool.true_and, Bool.and_false, Bool.false_and, Bool.or_true, Bool.true_or, Bool.or_false, Bool.false_or, beq_self_eq_true, bne_self_eq_false, Bool.true_eq_false, Bool.false_eq_true, reduceCtorEq, Bool.and_self, decide_true, decide_false, ite_true, ite_false, eq_self]; done)
    | skip
  refine .mk ⟨[2, 3, 8, 9, 10, 12, 13, 14, 15], [9, 12, 13], fun st => ∃ i : Nat, i ≤ m ∧ st = mkSt ([2, 3, 8, 9, 10, 12, 13, 14, 15].zip [.slice none p fun i => strL (s i), .int .u32 by_, .ff, .ptr 9 0, .slice none m fun i => partL (trP t l (s 0) i), .ptr 12 0, .ptr 13 0, I (scS t l (s 0) i), I i]) [(9, .cells [I (s 0).m, I (s 0).h, I (s 0).s, I (s 0).g]), (12, .cells [I (trW t l (s 0) i).m, I (trW t l (s 0) i).h, I (trW t l (s 0) i).s, I (trW t l (s 0) i).g]), (13, .cells [I (allS t l (s 0) i).m, I (allS t l (s 0) i).h, I (allS t l (s 0) i).s, I (allS t l (s 0) i).g])],
    fun st => m - (match st.slots 15 with | .int _ k => k.toNat | _ => 0), ?_, ?_⟩
  · exact ⟨_, sle_head (live := [2, 3, 8, 9, 10, 12, 13, 14, 15]) [.slice none p fun i => strL (s i), .int .u32 by_, .ff, .ptr 9 0, .slice none m fun i => partL (trP t l (s 0) i), .ptr 12 0, .ptr 13 0, I (scS t l (s 0) 0), I (0 : Nat)] [.cells [I (s 0).m, I (s 0).h, I (s 0).s, I (s 0).g], .cells [I (trW t l (s 0) 0).m, I (trW t l (s 0) 0).h, I (trW t l (s 0) 0).s, I (trW t l (s 0) 0).g], .cells [I (allS t l (s 0) 0).m, I (allS t l (s 0) 0).h, I (allS t l (s 0) 0).s, I (allS t l (s 0) 0).g]] (.cons (.refl _) (.cons (.refl _) (.cons (.refl _) (.cons (.refl _) (.cons (.slice _ _ _ _ fun i hi => rfl) (.cons (.refl _) (.cons (.refl _) (.cons (.refl _) (.cons (.refl _) .nil))))))))) (.cons (.refl _) (.cons (.refl _) (.cons (.refl _) .nil))), 0, Nat.zero_le _, rfl⟩
  · rintro st ⟨i, hi, rfl⟩
    refine ⟨fun p1 => ?_, fun p1 => ?_⟩
    · have hlt : i < m := by simpa using p1
      clear p1
      have hLi := hu.all i hlt
      obtain ⟨k1, k2, k3, k4⟩ := keep_all t l (s 0) i
      obtain ⟨q1, q2, q3, q4, q5⟩ := parts_sums (t (l i).toNat) (trW t l (s 0) i)
      obtain ⟨w1, w2, w3, w4⟩ := okS_parts ((hok.2.2.all (l i).toNat (by omega)).1) (hW i (by omega))
      have hWi := hW i (by omega)
      have hni := hnn i (by omega)
      change (trP t l (s 0) i).sm + (trP t l (s 0) i).wm = _ at q1
      change (trP t l (s 0) i).sh + (trP t l (s 0) i).wh = _ at q2
      change (trP t l (s 0) i).ss = 0 at q3
      change (trP t l (s 0) i).ws + (trP t l (s 0) i).scale = _ at q4
      change (trP t l (s 0) i).sg + (trP t l (s 0) i).wg = _ at q5
      change okS ⟨(trP t l (s 0) i).wm, (trP t l (s 0) i).wh, (trP t l (s 0) i).ws, (trP t l (s 0) i).wg⟩ at w1
      change okS ⟨(trP t l (s 0) i).sm, (trP t l (s 0) i).sh, (trP t l (s 0) i).ss, (trP t l (s 0) i).sg⟩ at w2
      change 0 ≤ (trP t l (s 0) i).scale at w3
      rw [q3] at w2
      have d1 := decide_eq_true w1
      have d2 := decide_eq_true w2
      simp only [okS] at w1 w2 hWi
      have d3 : decide ((trP t l (s 0) i).scale < 0) = false := decide_eq_false (by omega)
      have a1 : IntKind.i64.wrap ((trP t l (s 0) i).sm + (trP t l (s 0) i).wm) = (trW t l (s 0) i).m := by rw [q1]; exact w64 (by omega) (by omega)
      have a2 : IntKind.i64.wrap ((trP t l (s 0) i).sh + (trP t l (s 0) i).wh) = (trW t l (s 0) i).h := by rw [q2]; exact w64 (by omega) (by omega)
      have a3 : IntKind.i64.wrap (IntKind.i64.wrap (0 + (trP t l (s 0) i).ws) + (trP t l (s 0) i).scale) = (trW t l (s 0) i).s := by rw [Int.zero_add, w64 (n := (trP t l (s 0) i).ws) (by omega) (by omega), q4]; exact w64 (by omega) (by omega)
      have a4 : IntKind.i64.wrap ((trP t l (s 0) i).sg + (trP t l (s 0) i).wg) = (trW t l (s 0) i).g := by rw [q5]; exact w64 (by omega) (by omega)
      have b1 : IntKind.i64.wrap ((allS t l (s 0) i).m + (trP t l (s 0) i).sm) = (allS t l (s 0) (i + 1)).m := w64 (by omega) (by omega)
      have b2 : IntKind.i64.wrap ((allS t l (s 0) i).h + (trP t l (s 0) i).sh) = (allS t l (s 0) (i + 1)).h := w64 (by omega) (by omega)
      have b3 : IntKind.i64.wrap ((allS t l (s 0) i).s + (trP t l (s 0) i).ss) = (allS t l (s 0) (i + 1)).s := w64 (by omega) (by omega)
      have b4 : IntKind.i64.wrap ((allS t l (s 0) i).g + (trP t l (s 0) i).sg) = (allS t l (s 0) (i + 1)).g := w64 (by omega) (by omega)
      have b5 : IntKind.i64.wrap (scS t l (s 0) i + (trP t l (s 0) i).scale) = scS t l (s 0) (i + 1) := w64 (by omega) (by omega)
      repeat' first
        | refine ⟨?_, ?_⟩
        | refine fun h => absurd h (by decide)
        | (refine fun h => ?_; exfalso; simp only [toNat_self, q3, a1, a2, a3, a4, d1, d2, d3, cond_true, cond_false, Bool.not_true, Bool.not_false, Bool.not_not, Bool.and_true, Bool.true_and, Bool.and_false, Bool.false_and, Bool.or_true, Bool.true_or, Bool.or_false, Bool.false_or, beq_self_eq_true, bne_self_eq_false, Bool.true_eq_false, Bool.false_eq_true, reduceCtorEq, Bool.and_self, decide_true, decide_false, ite_true, ite_false, eq_self] at h; done)
        | refine fun _ => ?_
        | refine ple_ok ?_
        | exact (rfl : @Eq (List PV) _ _)
        | refine Halt.mk ⟨_, sle_head (live := [2, 3, 8, 9, 10, 12, 13, 14, 15]) [.slice none p fun i => strL (s i), .int .u32 by_, .ff, .ptr 9 0, .slice none m fun i => partL (trP t l (s 0) i), .ptr 12 0, .ptr 13 0, I (scS t l (s 0) (i + 1)), I (i + 1 : Nat)] [.cells [I (s 0).m, I (s 0).h, I (s 0).s, I (s 0).g], .cells [I (trW t l (s 0) (i + 1)).m, I (trW t l (s 0) (i + 1)).h, I (trW t l (s 0) (i + 1)).s, I (trW t l (s 0) (i + 1)).g], .cells [I (allS t l (s 0) (i + 1)).m, I (allS t l (s 0) (i + 1)).h, I (allS t l (s 0) (i + 1)).s, I (allS t l (s 0) (i + 1)).g]] (.cons (.refl _) (.cons (.refl _) (.cons (.refl _) (.cons (.refl _) (.cons (.refl _) (.cons (.refl _) (.cons (.refl _) (.cons (ple_ok ?_) (.cons (ple_ok ?_) .nil))))))))) (.cons (.refl _) (.cons (.refl _) (.cons (.cellsL (.cons (ple_ok ?_) (.cons (ple_ok ?_) (.cons (ple_ok ?_) (.cons (ple_ok ?_) .nil))))) .nil))), ⟨i + 1, ?_, rfl⟩, ?_⟩
      all_goals first
        | trivial
        | rfl
        | omega
        | exact isTab.mk t (by omega) rfl
        | (show IntKind.i64.wrap ((i : Int) + 1) = ((i + 1 : Nat) : Int); rw [w64 (by omega) (by omega)]; omega)
        | (show m - (i + 1) < m - i; omega)
        | exact b1
        | exact b2
        | exact b3
        | exact b4
        | exact b5
        | (show @Eq Bool _ _; simp only [toNat_self, q3, a1, a2, a3, a4, d1, d2, d3, cond_true, cond_false, Bool.not_true, Bool.not_false, Bool.not_not, Bool.and_true, Bool.true_and, Bool.and_false, Bool.false_and, Bool.or_true, Bool.true_or, Bool.or_false, Bool.false_or, beq_self_eq_true, bne_self_eq_false, Bool.true_eq_false, Bool.false_eq_true, reduceCtorEq, Bool.and_self, decide_true, decide_false, ite_true, ite_false, eq_self]; done)
        | skip
    · have : i = m := by
        have := of_decide_eq_false p1
        omega
      subst this
      obtain ⟨k1, k2, k3, k4⟩ := keep_all t l (s 0) i
      have hWi := hW i (by omega)
      have hni := hnn i (by omega)
      simp only [okS] at hWi
      have c1 : IntKind.i64.wrap ((allS t l (s 0) i).m + (trW t l (s 0) i).m) = (s 0).m := by rw [k1]; exact w64 (by omega) (by omega)
      have c2 : IntKind.i64.wrap ((allS t l (s 0) i).h + (trW t l (s 0) i).h) = (s 0).h := by rw [k2]; exact w64 (by omega) (by omega)
      have c3 : IntKind.i64.wrap (IntKind.i64.wrap ((allS t l (s 0) i).s + (trW t l (s 0) i).s) + scS t l (s 0) i) = (s 0).s := by rw [w64 (n := (allS t l (s 0) i).s + (trW t l (s 0) i).s) (by omega) (by omega), k3]; exact w64 (by omega) (by omega)
      have c4 : IntKind.i64.wrap ((allS t l (s 0) i).g + (trW t l (s 0) i).g) = (s 0).g := by rw [k4]; exact w64 (by omega) (by omega)
      repeat' first
        | refine ⟨?_, ?_⟩
        | refine fun h => absurd h (by decide)
        | (refine fun h => ?_; exfalso; simp only [c1, c2, c3, c4, cond_true, cond_false, Bool.not_true, Bool.not_false, Bool.not_not, Bool.and_true, Bool.true_and, Bool.and_false, Bool.false_and, Bool.or_true, Bool.true_or, Bool.or_false, Bool.false_or, beq_self_eq_true, bne_self_eq_false, Bool.true_eq_false, Bool.false_eq_true, reduceCtorEq, Bool.and_self, decide_true, decide_false, ite_true, ite_false, eq_self] at h; done)
        | refine fun _ => ?_
        | refine ple_ok ?_
        | exact (rfl : @Eq (List PV) _ _)
      all_goals first
        | trivial
        | rfl
        | omega
        | exact isTab.mk t (by omega) rfl
        | (show @Eq Bool _ _; simp only [c1, c2, c3, c4, cond_true, cond_false, Bool.not_true, Bool.not_false, Bool.not_not, Bool.and_true, Bool.true_and, Bool.and_false, Bool.false_and, Bool.or_true, Bool.true_or, Bool.or_false, Bool.false_or, beq_self_eq_true, bne_self_eq_false, Bool.true_eq_false, Bool.false_eq_true, reduceCtorEq, Bool.and_self, decide_true, decide_false, ite_true, ite_false, eq_self]; done)
        | skip
      refine .mk ⟨[2, 3, 8, 9, 18, 19], [9, 18], fun st => ∃ j : Nat, j ≤ p ∧ st = mkSt ([2, 3, 8, 9, 18, 19].zip [.slice none p fun i => strL (s i), .int .u32 by_, .ff, .ptr 9 0, .ptr 18 0, I j]) [(9, .cells [I (s 0).m, I (s 0).h, I (s 0).s, I (s 0).g]), (18, .cells [I (sumS s j).m, I (sumS s j).h, I (sumS s j).s, I (sumS s j).g])],
        fun st => p - (match st.slots 19 with | .int _ k => k.toNat | _ => 0), ?_, ?_⟩
      · exact ⟨_, sle_head (live := [2, 3, 8, 9, 18, 19]) [.slice none p fun i => strL (s i), .int .u32 by_, .ff, .ptr 9 0, .ptr 18 0, I (0 : Nat)] [.cells [I (s 0).m, I (s 0).h, I (s 0).s, I (s 0).g], .cells [I (sumS s 0).m, I (sumS s 0).h, I (sumS s 0).s, I (sumS s 0).g]] (.cons (.refl _) (.cons (.refl _) (.cons (.refl _) (.cons (.refl _) (.cons (.refl _) (.cons (.refl _) .nil)))))) (.cons (.refl _) (.cons (.refl _) .nil)), 0, Nat.zero_le _, rfl⟩
      · rintro st ⟨j, hj, rfl⟩
        have hbj := hbig j hj
        simp only [bigS] at hbj
        refine ⟨fun p2 => ?_, fun p2 => ?_⟩
        · have hlj : j < p := by simpa using p2
          clear p2
          have hxj := hxs j hlj
          simp only [okS] at hxj
          have e1 : IntKind.i64.wrap ((sumS s j).m + (s j).m) = (sumS s (j + 1)).m := w64 (by omega) (by omega)
          have e2 : IntKind.i64.wrap ((sumS s j).h + (s j).h) = (sumS s (j + 1)).h := w64 (by omega) (by omega)
          have e3 : IntKind.i64.wrap ((sumS s j).s + (s j).s) = (sumS s (j + 1)).s := w64 (by omega) (by omega)
          have e4 : IntKind.i64.wrap ((sumS s j).g + (s j).g) = (sumS s (j + 1)).g := w64 (by omega) (by omega)
          repeat' first
            | refine ⟨?_, ?_⟩
            | refine fun h => absurd h (by decide)
            | (refine fun h => ?_; exfalso; simp only [cond_true, cond_false, Bool.not_true, Bool.not_false, Bool.not_not, Bool.and_true, Bool.true_and, Bool.and_false, Bool.false_and, Bool.or_true, Bool.true_or, Bool.or_false, Bool.false_or, beq_self_eq_true, bne_self_eq_false, Bool.true_eq_false, Bool.false_eq_true, reduceCtorEq, Bool.and_self, decide_true, decide_false, ite_true, ite_false, eq_self] at h; done)
            | refine fun _ => ?_
            | refine ple_ok ?_
            | exact (rfl : @Eq (List PV) _ _)
            | refine Halt.mk ⟨_, sle_head (live := [2, 3, 8, 9, 18, 19]) [.slice none p fun i => strL (s i), .int .u32 by_, .ff, .ptr 9 0, .ptr 18 0, I (j + 1 : Nat)] [.cells [I (s 0).m, I (s 0).h, I (s 0).s, I (s 0).g], .cells [I (sumS s (j + 1)).m, I (sumS s (j + 1)).h, I (sumS s (j + 1)).s, I (sumS s (j + 1)).g]] (.cons (.refl _) (.cons (.refl _) (.cons (.refl _) (.cons (.refl _) (.cons (.refl _) (.cons (ple_ok ?_) .nil)))))) (.cons (.refl _) (.cons (.cellsL (.cons (ple_ok ?_) (.cons (ple_ok ?_) (.cons (ple_ok ?_) (.cons (ple_ok ?_) .nil))))) .nil)), ⟨j + 1, ?_, rfl⟩, ?_⟩
          all_goals first
            | trivial
            | rfl
            | omega
            | exact isTab.mk t (by omega) rfl
            | (show IntKind.i64.wrap ((j : Int) + 1) = ((j + 1 : Nat) : Int); rw [w64 (by omega) (by omega)]; omega)
            | (show p - (j + 1) < p - j; omega)
            | exact e1
            | exact e2
            | exact e3
            | exact e4
            | (show @Eq Bool _ _; simp only [cond_true, cond_false, Bool.not_true, Bool.not_false, Bool.not_not, Bool.and_true, Bool.true_and, Bool.and_false, Bool.false_and, Bool.or_true, Bool.true_or, Bool.or_false, Bool.false_or, beq_self_eq_true, bne_self_eq_false, Bool.true_eq_false, Bool.false_eq_true, reduceCtorEq, Bool.and_self, decide_true, decide_false, ite_true, ite_false, eq_self]; done)
            | skip
        · have : j = p := by
            have := of_decide_eq_false p2
            omega
          subst this
          have f0 : (0 : Int) ≤ IntKind.i64.wrap ((j : Int) - 1) := by rw [elast]; omega
          have f1 : IntKind.i64.wrap ((j : Int) - 1) < (j : Int) := by rw [elast]; omega
          have hy' := hy
          simp only [okS] at hy'
          have v2 : IntKind.i64.wrap ((s 0).h - by_ + ((s (IntKind.i64.wrap ((j : Int) - 1)).toNat).h + by_)) = IntKind.i64.wrap ((s 0).h + (s (IntKind.i64.wrap ((j : Int) - 1)).toNat).h) := by congr 1; omega
          have v3 : IntKind.i64.wrap ((s (IntKind.i64.wrap ((j : Int) - 1)).toNat).h + by_) = (s (IntKind.i64.wrap ((j : Int) - 1)).toNat).h + by_ := w64 (by omega) (by omega)
          repeat' first
            | refine ⟨?_, ?_⟩
            | refine fun h => absurd h (by decide)
            | (refine fun h => ?_; exfalso; simp only [eby, v2, v3, cond_true, cond_false, Bool.not_true, Bool.not_false, Bool.not_not, Bool.and_true, Bool.true_and, Bool.and_false, Bool.false_and, Bool.or_true, Bool.true_or, Bool.or_false, Bool.false_or, beq_self_eq_true, bne_self_eq_false, Bool.true_eq_false, Bool.false_eq_true, reduceCtorEq, Bool.and_self, decide_true, decide_false, ite_true, ite_false, eq_self] at h; done)
            | refine fun _ => ?_
            | refine ple_ok ?_
            | exact (rfl : @Eq (List PV) _ _)
          all_goals first
            | trivial
            | rfl
            | omega
            | exact isTab.mk t (by omega) rfl
            | exact hst
            | exact f0
            | exact f1
            | (show @Eq Bool _ _; simp only [eby, v2, v3, cond_true, cond_false, Bool.not_true, Bool.not_false, Bool.not_not, Bool.and_true, Bool.true_and, Bool.and_false, Bool.false_and, Bool.or_true, Bool.true_or, Bool.or_false, Bool.false_or, beq_self_eq_true, bne_self_eq_false, Bool.true_eq_false, Bool.false_eq_true, reduceCtorEq, Bool.and_self, decide_true, decide_false, ite_true, ite_false, eq_self]; done)
            | skip
set_option maxRecDepth 100000 in
set_option maxHeartbeats 8000000 in
theorem kp02 (n : Nat) (t : Nat → Row) (m : Nat) (l : Nat → Int) (p : Nat) (s : Nat → Stream) (by_ : Int) (hn : n ≤ 9223372036854775807) (hm : m ≤ 9223372036854775807) (hby : 0 ≤ by_ ∧ by_ ≤ 4294967295) (hT : okTb n t = true) (hL : lvB n m l = true) (hp0 : 0 < p) (hp : p ≤ 40) (hA : (allB p fun i => okS (s i)) = true) (hM : mixE p s = 0) (hX : ¬ (0 ≤ by_ ∧ by_ ≤ (s 0).h ∧ by_ ≤ 4000 * (s (IntKind.i64.wrap ((p : Int) - 1)).toNat).m - (s (IntKind.i64.wrap ((p : Int) - 1)).toNat).h)) : SF Try.prog 10 (V.atS [tab n t, .slice none m (fun i => intL (l i)), .slice none p (fun i => strL (s i)), .int .u32 by_] (.bool true)) := by
  have h24 : SF Try.prog 24 (V.atS [tab n t] (.bool true)) := sf_at sf24L (isTabL.mk t (by omega) rfl) (by show PV.bool (okTb n t) = _; rw [hT])
  have hok : okT n t := @of_decide_eq_true _ (Classical.propDecidable _) hT
  have hn20 := hok.2.1
  have h41 : SF Try.prog 41 (V.atS [I n, .slice none m (fun i => intL (l i))] (.bool true)) := sf_at sf41 (isLv.mk l (by omega) (by omega) hm rfl) (by show PV.bool (lvB n m l) = _; rw [hL])
  have g1 : decide ((p : Int) < 1) = false := decide_eq_false (by omega)
  have g2 : decide ((40 : Int) < (p : Int)) = false := decide_eq_false (by omega)
  have h32 : SF Try.prog 32 (V.atS [.slice none p (fun i => strL (s i))] (.bool true)) := sf_at sf32 (isStrs.mk s (by omega) rfl) (by show PV.bool (allB p fun i => okS (s i)) = _; rw [hA])
  obtain ⟨m1, m20, hu⟩ := lvB_get hL
  have hxs := (allB_get hA).all
  have hx : okS (s 0) := hxs 0 (by omega)
  have huL : Upto (fun i => 0 ≤ l i ∧ l i ≤ (n : Int) - 1) m := ⟨fun i hi => ⟨(hu.all i hi).1, (hu.all i hi).2.1⟩⟩
  have hW := trW_ok (x := s 0) hok huL hx
  have hnn := all_nn (x := s 0) hok huL hx
  have tva : isTV n (fun i => rowL (t i)) m (fun i => intL (l i)) ⟨(s (Int.toNat 0)).m, (s (Int.toNat 0)).h, (s (Int.toNat 0)).s, (s (Int.toNat 0)).g⟩ := .mk t l hok hu m1 m20 hx rfl rfl
  have ehx : okS (s 0) := hx
  simp only [okS] at ehx
  have hst : isStrs p fun i => strL (s i) := .mk s (by omega) rfl
  have elast : IntKind.i64.wrap ((p : Int) - 1) = (p : Int) - 1 := w64 (by omega) (by omega)
  have hy : okS (s (IntKind.i64.wrap ((p : Int) - 1)).toNat) := hxs _ (by rw [elast]; omega)
  have eby : IntKind.i64.wrap by_ = by_ := w64 (by omega) (by omega)
  have hbig := sumS_big hxs
  have hV : mixV p s = (sumS s p) := if_pos hM
  have h29 : SF Try.prog 29 (V.atS [.slice none p (fun i => strL (s i))] (.tup [encS (sumS s p), I 0])) := by
    refine sf_at sf29 hst ?_
    show PV.tup [encS (mixV p s), I (mixE p s)] = _
    rw [hV, hM]
  have h38 : SF Try.prog 38 (V.atS [encS (s 0), encS (s (IntKind.i64.wrap ((p : Int) - 1)).toNat), I (IntKind.i64.wrap by_)] (.tup [encS zeroS, encS zeroS, I 2])) := by
    refine sf_at sf38 trivial ?_
    show exR (s 0) (s (IntKind.i64.wrap ((p : Int) - 1)).toNat) (IntKind.i64.wrap by_) = _
    rw [eby]
    have hP : ¬ exP (s 0) (s (IntKind.i64.wrap ((p : Int) - 1)).toNat) by_ := fun h => hX h.2.2
    simp only [exR, sel, if_neg hP, if_pos hx, if_pos hy, if_neg hX]
    rfl
  refine sf_of types_ok mixed (l := [(17, awakeS), (19, tabS), (22, chkS), (23, strS), (24, _), (29, _), (30, strsS), (32, _), (38, _), (40, trVS), (41, _), (53, plusS)]) ⟨sf17', sf19, sf22, sf23, h24, h29, sf30, h32, h38, sf40v, h41, sf53, trivial⟩ (es := []) trivial 4 Try.func10 rfl (by kernel_rfl) fun args h => ?_
  cases (show args = _ from h)
  refine ⟨rfl, ?_⟩
  repeat' first
    | refine ⟨?_, ?_⟩
    | refine fun h => absurd h (by decide)
    | (refine fun h => ?_; exfalso; simp only [g1, g2, cond_true, cond_false, Bool.not_true, Bool.not_false, Bool.not_not, Bool.and_true, Bool.true_and, Bool.and_false, Bool.false_and, Bool.or_true, Bool.true_or, Bool.or_false, Bool.false_or, beq_self_eq_true, bne_self_eq_false, Bool.true_eq_false, Bool.false_eq_true, reduceCtorEq, Bool.and_self, decide_true, decide_false, ite_true, ite_false, eq_self] at h; done)
    | refine fun _ => ?_
    | refine ple_ok ?_
    | exact (rfl : @Eq (List PV) _ _)
  all_goals first
    | trivial
    | rfl
    | omega
    | exact isTab.mk t (by omega) rfl
    | (show m * 8 ≤ 140737488355328; omega)
    | exact tva
    | (show @Eq Bool _ _; simp only [g1, g2, cond_true, cond_false, Bool.not_true, Bool.not_false, Bool.not_not, Bool.and_true, Bool.true_and, Bool.and_false, Bool.false_and, Bool.or_true, Bool.true_or, Bool.or_false, Bool.false_or, beq_self_eq_true, bne_self_eq_false, Bool.true_eq_false, Bool.false_eq_true, reduceCtorEq, Bool.and_self, decide_true, decide_false, ite_true, ite_false, eq_self]; done)
    | skip
  refine .mk ⟨[2, 3, 8, 9, 10, 12, 13, 14, 15], [9, 12, 13], fun st => ∃ i : Nat, i ≤ m ∧ st = mkSt ([2, 3, 8, 9, 10, 12, 13, 14, 15].zip [.slice none p fun i => strL (s i), .int .u32 by_, .ff, .ptr 9 0, .slice none m fun i => partL (trP t l (s 0) i), .ptr 12 0, .ptr 13 0, I (scS t l (s 0) i), I i]) [(9, .cells [I (s 0).m, I (s 0).h, I (s 0).s, I (s 0).g]), (12, .cells [I (trW t l (s 0) i).m, I (trW t l (s 0) i).h, I (trW t l (s 0) i).s, I (trW t l (s 0) i).g]), (13, .cells [I (allS t l (s 0) i).m, I (allS t l (s 0) i).h, I (allS t l (s 0) i).s, I (allS t l (s 0) i).g])],
    fun st => m - (match st.slots 15 with | .int _ k => k.toNat | _ => 0), ?_, ?_⟩
  · exact ⟨_, sle_head (live := [2, 3, 8, 9, 10, 12, 13, 14, 15]) [.slice none p fun i => strL (s i), .int .u32 by_, .ff, .ptr 9 0, .slice none m fun i => partL (trP t l (s 0) i), .ptr 12 0, .ptr 13 0, I (scS t l (s 0) 0), I (0 : Nat)] [.cells [I (s 0).m, I (s 0).h, I (s 0).s, I (s 0).g], .cells [I (trW t l (s 0) 0).m, I (trW t l (s 0) 0).h, I (trW t l (s 0) 0).s, I (trW t l (s 0) 0).g], .cells [I (allS t l (s 0) 0).m, I (allS t l (s 0) 0).h, I (allS t l (s 0) 0).s, I (allS t l (s 0) 0).g]] (.cons (.refl _) (.cons (.refl _) (.cons (.refl _) (.cons (.refl _) (.cons (.slice _ _ _ _ fun i hi => rfl) (.cons (.refl _) (.cons (.refl _) (.cons (.refl _) (.cons (.refl _) .nil))))))))) (.cons (.refl _) (.cons (.refl _) (.cons (.refl _) .nil))), 0, Nat.zero_le _, rfl⟩
  · rintro st ⟨i, hi, rfl⟩
    refine ⟨fun p1 => ?_, fun p1 => ?_⟩
    · have hlt : i < m := by simpa using p1
      clear p1
      have hLi := hu.all i hlt
      obtain ⟨k1, k2, k3, k4⟩ := keep_all t l (s 0) i
      obtain ⟨q1, q2, q3, q4, q5⟩ := parts_sums (t (l i).toNat) (trW t l (s 0) i)
      obtain ⟨w1, w2, w3, w4⟩ := okS_parts ((hok.2.2.all (l i).toNat (by omega)).1) (hW i (by omega))
      have hWi := hW i (by omega)
      have hni := hnn i (by omega)
      change (trP t l (s 0) i).sm + (trP t l (s 0) i).wm = _ at q1
      change (trP t l (s 0) i).sh + (trP t l (s 0) i).wh = _ at q2
      change (trP t l (s 0) i).ss = 0 at q3
      change (trP t l (s 0) i).ws + (trP t l (s 0) i).scale = _ at q4
      change (trP t l (s 0) i).sg + (trP t l (s 0) i).wg = _ at q5
      change okS ⟨(trP t l (s 0) i).wm, (trP t l (s 0) i).wh, (trP t l (s 0) i).ws, (trP t l (s 0) i).wg⟩ at w1
      change okS ⟨(trP t l (s 0) i).sm, (trP t l (s 0) i).sh, (trP t l (s 0) i).ss, (trP t l (s 0) i).sg⟩ at w2
      change 0 ≤ (trP t l (s 0) i).scale at w3
      rw [q3] at w2
      have d1 := decide_eq_true w1
      have d2 := decide_eq_true w2
      simp only [okS] at w1 w2 hWi
      have d3 : decide ((trP t l (s 0) i).scale < 0) = false := decide_eq_false (by omega)
      have a1 : IntKind.i64.wrap ((trP t l (s 0) i).sm + (trP t l (s 0) i).wm) = (trW t l (s 0) i).m := by rw [q1]; exact w64 (by omega) (by omega)
      have a2 : IntKind.i64.wrap ((trP t l (s 0) i).sh + (trP t l (s 0) i).wh) = (trW t l (s 0) i).h := by rw [q2]; exact w64 (by omega) (by omega)
      have a3 : IntKind.i64.wrap (IntKind.i64.wrap (0 + (trP t l (s 0) i).ws) + (trP t l (s 0) i).scale) = (trW t l (s 0) i).s := by rw [Int.zero_add, w64 (n := (trP t l (s 0) i).ws) (by omega) (by omega), q4]; exact w64 (by omega) (by omega)
      have a4 : IntKind.i64.wrap ((trP t l (s 0) i).sg + (trP t l (s 0) i).wg) = (trW t l (s 0) i).g := by rw [q5]; exact w64 (by omega) (by omega)
      have b1 : IntKind.i64.wrap ((allS t l (s 0) i).m + (trP t l (s 0) i).sm) = (allS t l (s 0) (i + 1)).m := w64 (by omega) (by omega)
      have b2 : IntKind.i64.wrap ((allS t l (s 0) i).h + (trP t l (s 0) i).sh) = (allS t l (s 0) (i + 1)).h := w64 (by omega) (by omega)
      have b3 : IntKind.i64.wrap ((allS t l (s 0) i).s + (trP t l (s 0) i).ss) = (allS t l (s 0) (i + 1)).s := w64 (by omega) (by omega)
      have b4 : IntKind.i64.wrap ((allS t l (s 0) i).g + (trP t l (s 0) i).sg) = (allS t l (s 0) (i + 1)).g := w64 (by omega) (by omega)
      have b5 : IntKind.i64.wrap (scS t l (s 0) i + (trP t l (s 0) i).scale) = scS t l (s 0) (i + 1) := w64 (by omega) (by omega)
      repeat' first
        | refine ⟨?_, ?_⟩
        | refine fun h => absurd h (by decide)
        | (refine fun h => ?_; exfalso; simp only [toNat_self, q3, a1, a2, a3, a4, d1, d2, d3, cond_true, cond_false, Bool.not_true, Bool.not_false, Bool.not_not, Bool.and_true, Bool.true_and, Bool.and_false, Bool.false_and, Bool.or_true, Bool.true_or, Bool.or_false, Bool.false_or, beq_self_eq_true, bne_self_eq_false, Bool.true_eq_false, Bool.false_eq_true, reduceCtorEq, Bool.and_self, decide_true, decide_false, ite_true, ite_false, eq_self] at h; done)
        | refine fun _ => ?_
        | refine ple_ok ?_
        | exact (rfl : @Eq (List PV) _ _)
        | refine Halt.mk ⟨_, sle_head (live := [2, 3, 8, 9, 10, 12, 13, 14, 15]) [.slice none p fun i => strL (s i), .int .u32 by_, .ff, .ptr 9 0, .slice none m fun i => partL (trP t l (s 0) i), .ptr 12 0, .ptr 13 0, I (scS t l (s 0) (i + 1)), I (i + 1 : Nat)] [.cells [I (s 0).m, I (s 0).h, I (s 0).s, I (s 0).g], .cells [I (trW t l (s 0) (i + 1)).m, I (trW t l (s 0) (i + 1)).h, I (trW t l (s 0) (i + 1)).s, I (trW t l (s 0) (i + 1)).g], .cells [I (allS t l (s 0) (i + 1)).m, I (allS t l (s 0) (i + 1)).h, I (allS t l (s 0) (i + 1)).s, I (allS t l (s 0) (i + 1)).g]] (.cons (.refl _) (.cons (.refl _) (.cons (.refl _) (.cons (.refl _) (.cons (.refl _) (.cons (.refl _) (.cons (.refl _) (.cons (ple_ok ?_) (.cons (ple_ok ?_) .nil))))))))) (.cons (.refl _) (.cons (.refl _) (.cons (.cellsL (.cons (ple_ok ?_) (.cons (ple_ok ?_) (.cons (ple_ok ?_) (.cons (ple_ok ?_) .nil))))) .nil))), ⟨i + 1, ?_, rfl⟩, ?_⟩
      all_goals first
        | trivial
        | rfl
        | omega
        | exact isTab.mk t (by omega) rfl
        | (show IntKind.i64.wrap ((i : Int) + 1) = ((i + 1 : Nat) : Int); rw [w64 (by omega) (by omega)]; omega)
        | (show m - (i + 1) < m - i; omega)
        | exact b1
        | exact b2
        | exact b3
        | exact b4
        | exact b5
        | (show @Eq Bool _ _; simp only [toNat_self, q3, a1, a2, a3, a4, d1, d2, d3, cond_true, cond_false, Bool.not_true, Bool.not_false, Bool.not_not, Bool.and_true, Bool.true_and, Bool.and_false, Bool.false_and, Bool.or_true, Bool.true_or, Bool.or_false, Bool.false_or, beq_self_eq_true, bne_self_eq_false, Bool.true_eq_false, Bool.false_eq_true, reduceCtorEq, Bool.and_self, decide_true, decide_false, ite_true, ite_false, eq_self]; done)
        | skip
    · have : i = m := by
        have := of_decide_eq_false p1
        omega
      subst this
      obtain ⟨k1, k2, k3, k4⟩ := keep_all t l (s 0) i
      have hWi := hW i (by omega)
      have hni := hnn i (by omega)
      simp only [okS] at hWi
      have c1 : IntKind.i64.wrap ((allS t l (s 0) i).m + (trW t l (s 0) i).m) = (s 0).m := by rw [k1]; exact w64 (by omega) (by omega)
      have c2 : IntKind.i64.wrap ((allS t l (s 0) i).h + (trW t l (s 0) i).h) = (s 0).h := by rw [k2]; exact w64 (by omega) (by omega)
      have c3 : IntKind.i64.wrap (IntKind.i64.wrap ((allS t l (s 0) i).s + (trW t l (s 0) i).s) + scS t l (s 0) i) = (s 0).s := by rw [w64 (n := (allS t l (s 0) i).s + (trW t l (s 0) i).s) (by omega) (by omega), k3]; exact w64 (by omega) (by omega)
      have c4 : IntKind.i64.wrap ((allS t l (s 0) i).g + (trW t l (s 0) i).g) = (s 0).g := by rw [k4]; exact w64 (by omega) (by omega)
      repeat' first
        | refine ⟨?_, ?_⟩
        | refine fun h => absurd h (by decide)
        | (refine fun h => ?_; exfalso; simp only [c1, c2, c3, c4, cond_true, cond_false, Bool.not_true, Bool.not_false, Bool.not_not, Bool.and_true, Bool.true_and, Bool.and_false, Bool.false_and, Bool.or_true, Bool.true_or, Bool.or_false, Bool.false_or, beq_self_eq_true, bne_self_eq_false, Bool.true_eq_false, Bool.false_eq_true, reduceCtorEq, Bool.and_self, decide_true, decide_false, ite_true, ite_false, eq_self] at h; done)
        | refine fun _ => ?_
        | refine ple_ok ?_
        | exact (rfl : @Eq (List PV) _ _)
      all_goals first
        | trivial
        | rfl
        | omega
        | exact isTab.mk t (by omega) rfl
        | (show @Eq Bool _ _; simp only [c1, c2, c3, c4, cond_true, cond_false, Bool.not_true, Bool.not_false, Bool.not_not, Bool.and_true, Bool.true_and, Bool.and_false, Bool.false_and, Bool.or_true, Bool.true_or, Bool.or_false, Bool.false_or, beq_self_eq_true, bne_self_eq_false, Bool.true_eq_false, Bool.false_eq_true, reduceCtorEq, Bool.and_self, decide_true, decide_false, ite_true, ite_false, eq_self]; done)
        | skip
      refine .mk ⟨[2, 3, 8, 9, 18, 19], [9, 18], fun st => ∃ j : Nat, j ≤ p ∧ st = mkSt ([2, 3, 8, 9, 18, 19].zip [.slice none p fun i => strL (s i), .int .u32 by_, .ff, .ptr 9 0, .ptr 18 0, I j]) [(9, .cells [I (s 0).m, I (s 0).h, I (s 0).s, I (s 0).g]), (18, .cells [I (sumS s j).m, I (sumS s j).h, I (sumS s j).s, I (sumS s j).g])],
        fun st => p - (match st.slots 19 with | .int _ k => k.toNat | _ => 0), ?_, ?_⟩
      · exact ⟨_, sle_head (live := [2, 3, 8, 9, 18, 19]) [.slice none p fun i => strL (s i), .int .u32 by_, .ff, .ptr 9 0, .ptr 18 0, I (0 : Nat)] [.cells [I (s 0).m, I (s 0).h, I (s 0).s, I (s 0).g], .cells [I (sumS s 0).m, I (sumS s 0).h, I (sumS s 0).s, I (sumS s 0).g]] (.cons (.refl _) (.cons (.refl _) (.cons (.refl _) (.cons (.refl _) (.cons (.refl _) (.cons (.refl _) .nil)))))) (.cons (.refl _) (.cons (.refl _) .nil)), 0, Nat.zero_le _, rfl⟩
      · rintro st ⟨j, hj, rfl⟩
        have hbj := hbig j hj
        simp only [bigS] at hbj
        refine ⟨fun p2 => ?_, fun p2 => ?_⟩
        · have hlj : j < p := by simpa using p2
          clear p2
          have hxj := hxs j hlj
          simp only [okS] at hxj
          have e1 : IntKind.i64.wrap ((sumS s j).m + (s j).m) = (sumS s (j + 1)).m := w64 (by omega) (by omega)
          have e2 : IntKind.i64.wrap ((sumS s j).h + (s j).h) = (sumS s (j + 1)).h := w64 (by omega) (by omega)
          have e3 : IntKind.i64.wrap ((sumS s j).s + (s j).s) = (sumS s (j + 1)).s := w64 (by omega) (by omega)
          have e4 : IntKind.i64.wrap ((sumS s j).g + (s j).g) = (sumS s (j + 1)).g := w64 (by omega) (by omega)
          repeat' first
            | refine ⟨?_, ?_⟩
            | refine fun h => absurd h (by decide)
            | (refine fun h => ?_; exfalso; simp only [cond_true, cond_false, Bool.not_true, Bool.not_false, Bool.not_not, Bool.and_true, Bool.true_and, Bool.and_false, Bool.false_and, Bool.or_true, Bool.true_or, Bool.or_false, Bool.false_or, beq_self_eq_true, bne_self_eq_false, Bool.true_eq_false, Bool.false_eq_true, reduceCtorEq, Bool.and_self, decide_true, decide_false, ite_true, ite_false, eq_self] at h; done)
            | refine fun _ => ?_
            | refine ple_ok ?_
            | exact (rfl : @Eq (List PV) _ _)
            | refine Halt.mk ⟨_, sle_head (live := [2, 3, 8, 9, 18, 19]) [.slice none p fun i => strL (s i), .int .u32 by_, .ff, .ptr 9 0, .ptr 18 0, I (j + 1 : Nat)] [.cells [I (s 0).m, I (s 0).h, I (s 0).s, I (s 0).g], .cells [I (sumS s (j + 1)).m, I (sumS s (j + 1)).h, I (sumS s (j + 1)).s, I (sumS s (j + 1)).g]] (.cons (.refl _) (.cons (.refl _) (.cons (.refl _) (.cons (.refl _) (.cons (.refl _) (.cons (ple_ok ?_) .nil)))))) (.cons (.refl _) (.cons (.cellsL (.cons (ple_ok ?_) (.cons (ple_ok ?_) (.cons (ple_ok ?_) (.cons (ple_ok ?_) .nil))))) .nil)), ⟨j + 1, ?_, rfl⟩, ?_⟩
          all_goals first
            | trivial
            | rfl
            | omega
            | exact isTab.mk t (by omega) rfl
            | (show IntKind.i64.wrap ((j : Int) + 1) = ((j + 1 : Nat) : Int); rw [w64 (by omega) (by omega)]; omega)
            | (show p - (j + 1) < p - j; omega)
            | exact e1
            | exact e2
            | exact e3
            | exact e4
            | (show @Eq Bool _ _; simp only [cond_true, cond_false, Bool.not_true, Bool.not_false, Bool.not_not, Bool.and_true, Bool.true_and, Bool.and_false, Bool.false_and, Bool.or_true, Bool.true_or, Bool.or_false, Bool.false_or, beq_self_eq_true, bne_self_eq_false, Bool.true_eq_false, Bool.false_eq_true, reduceCtorEq, Bool.and_self, decide_true, decide_false, ite_true, ite_false, eq_self]; done)
            | skip
        · have : j = p := by
            have := of_decide_eq_false p2
            omega
          subst this
          have f0 : (0 : Int) ≤ IntKind.i64.wrap ((j : Int) - 1) := by rw [elast]; omega
          have f1 : IntKind.i64.wrap ((j : Int) - 1) < (j : Int) := by rw [elast]; omega
          repeat' first
            | refine ⟨?_, ?_⟩
            | refine fun h => absurd h (by decide)
            | (refine fun h => ?_; exfalso; simp only [elast, eby, cond_true, cond_false, Bool.not_true, Bool.not_false, Bool.not_not, Bool.and_true, Bool.true_and, Bool.and_false, Bool.false_and, Bool.or_true, Bool.true_or, Bool.or_false, Bool.false_or, beq_self_eq_true, bne_self_eq_false, Bool.true_eq_false, Bool.false_eq_true, reduceCtorEq, Bool.and_self, decide_true, decide_false, ite_true, ite_false, eq_self] at h; done)
            | refine fun _ => ?_
            | refine ple_ok ?_
            | exact (rfl : @Eq (List PV) _ _)
          all_goals first
            | trivial
            | rfl
            | omega
            | exact isTab.mk t (by omega) rfl
            | exact hst
            | exact f0
            | exact f1
            | (show @Eq Bool _ _; simp only [elast, eby, cond_true, cond_false, Bool.not_true, Bool.not_false, Bool.not_not, Bool.and_true, Bool.true_and, Bool.and_false, Bool.false_and, Bool.or_true, Bool.true_or, Bool.or_false, Bool.false_or, beq_self_eq_true, bne_self_eq_false, Bool.true_eq_false, Bool.false_eq_true, reduceCtorEq, Bool.and_self, decide_true, decide_false, ite_true, ite_false, eq_self]; done)
            | skip
set_option maxRecDepth 100000 in
set_option maxHeartbeats 8000000 in
theorem kpm0 (n : Nat) (t : Nat → Row) (m : Nat) (l : Nat → Int) (p : Nat) (s : Nat → Stream) (by_ : Int) (hn : n ≤ 9223372036854775807) (hm : m ≤ 9223372036854775807) (hby : 0 ≤ by_ ∧ by_ ≤ 4294967295) (hT : okTb n t = true) (hL : lvB n m l = true) (hp0 : 0 < p) (hp : p ≤ 40) (hA : (allB p fun i => okS (s i)) = true) (hM : mixE p s = 3) (hM2 : 1000000 < (sumS s p).m) (hX : 0 ≤ by_ ∧ by_ ≤ (s 0).h ∧ by_ ≤ 4000 * (s (IntKind.i64.wrap ((p : Int) - 1)).toNat).m - (s (IntKind.i64.wrap ((p : Int) - 1)).toNat).h) : SF Try.prog 10 (V.atS [tab n t, .slice none m (fun i => intL (l i)), .slice none p (fun i => strL (s i)), .int .u32 by_] (.bool true)) := by
  have h24 : SF Try.prog 24 (V.atS [tab n t] (.bool true)) := sf_at sf24L (isTabL.mk t (by omega) rfl) (by show PV.bool (okTb n t) = _; rw [hT])
  have hok : okT n t := @of_decide_eq_true _ (Classical.propDecidable _) hT
  have hn20 := hok.2.1
  have h41 : SF Try.prog 41 (V.atS [I n, .slice none m (fun i => intL (l i))] (.bool true)) := sf_at sf41 (isLv.mk l (by omega) (by omega) hm rfl) (by show PV.bool (lvB n m l) = _; rw [hL])
  have g1 : decide ((p : Int) < 1) = false := decide_eq_false (by omega)
  have g2 : decide ((40 : Int) < (p : Int)) = false := decide_eq_false (by omega)
  have h32 : SF Try.prog 32 (V.atS [.slice none p (fun i => strL (s i))] (.bool true)) := sf_at sf32 (isStrs.mk s (by omega) rfl) (by show PV.bool (allB p fun i => okS (s i)) = _; rw [hA])
  obtain ⟨m1, m20, hu⟩ := lvB_get hL
  have hxs := (allB_get hA).all
  have hx : okS (s 0) := hxs 0 (by omega)
  have huL : Upto (fun i => 0 ≤ l i ∧ l i ≤ (n : Int) - 1) m := ⟨fun i hi => ⟨(hu.all i hi).1, (hu.all i hi).2.1⟩⟩
  have hW := trW_ok (x := s 0) hok huL hx
  have hnn := all_nn (x := s 0) hok huL hx
  have tva : isTV n (fun i => rowL (t i)) m (fun i => intL (l i)) ⟨(s (Int.toNat 0)).m, (s (Int.toNat 0)).h, (s (Int.toNat 0)).s, (s (Int.toNat 0)).g⟩ := .mk t l hok hu m1 m20 hx rfl rfl
  have ehx : okS (s 0) := hx
  simp only [okS] at ehx
  have hst : isStrs p fun i => strL (s i) := .mk s (by omega) rfl
  have elast : IntKind.i64.wrap ((p : Int) - 1) = (p : Int) - 1 := w64 (by omega) (by omega)
  have hy : okS (s (IntKind.i64.wrap ((p : Int) - 1)).toNat) := hxs _ (by rw [elast]; omega)
  have eby : IntKind.i64.wrap by_ = by_ := w64 (by omega) (by omega)
  have hbig := sumS_big hxs
  have hV : mixV p s = zeroS := if_neg (by rw [hM]; decide)
  have h29 : SF Try.prog 29 (V.atS [.slice none p (fun i => strL (s i))] (.tup [encS zeroS, I 3])) := by
    refine sf_at sf29 hst ?_
    show PV.tup [encS (mixV p s), I (mixE p s)] = _
    rw [hV, hM]
  have h38 : SF Try.prog 38 (V.atS [encS (s 0), encS (s (IntKind.i64.wrap ((p : Int) - 1)).toNat), I (IntKind.i64.wrap by_)] (.tup [encS ⟨(s 0).m, (s 0).h - by_, (s 0).s, (s 0).g⟩, encS ⟨(s (IntKind.i64.wrap ((p : Int) - 1)).toNat).m, (s (IntKind.i64.wrap ((p : Int) - 1)).toNat).h + by_, (s (IntKind.i64.wrap ((p : Int) - 1)).toNat).s, (s (IntKind.i64.wrap ((p : Int) - 1)).toNat).g⟩, I 0])) := by
    refine sf_at sf38 trivial ?_
    show exR (s 0) (s (IntKind.i64.wrap ((p : Int) - 1)).toNat) (IntKind.i64.wrap by_) = _
    rw [eby]
    have hP : exP (s 0) (s (IntKind.i64.wrap ((p : Int) - 1)).toNat) by_ := ⟨hx, hy, hX⟩
    simp only [exR, sel, if_pos hP, if_pos hx, if_pos hy, if_pos hX]
  refine sf_of types_ok mixed (l := [(17, awakeS), (19, tabS), (22, chkS), (23, strS), (24, _), (29, _), (30, strsS), (32, _), (38, _), (40, trVS), (41, _), (53, plusS)]) ⟨sf17', sf19, sf22, sf23, h24, h29, sf30, h32, h38, sf40v, h41, sf53, trivial⟩ (es := []) trivial 4 Try.func10 rfl (by kernel_rfl) fun args h => ?_
  cases (show args = _ from h)
  refine ⟨rfl, ?_⟩
  repeat' first
    | refine ⟨?_, ?_⟩
    | refine fun h => absurd h (by decide)
    | (refine fun h => ?_; exfalso; simp only [g1, g2, cond_true, cond_false, Bool.not_true, Bool.not_false, Bool.not_not, Bool.and_true, Bool.true_and, Bool.and_false, Bool.false_and, Bool.or_true, Bool.true_or, Bool.or_false, Bool.false_or, beq_self_eq_true, bne_self_eq_false, Bool.true_eq_false, Bool.false_eq_true, reduceCtorEq, Bool.and_self, decide_true, decide_false, ite_true, ite_false, eq_self] at h; done)
    | refine fun _ => ?_
    | refine ple_ok ?_
    | exact (rfl : @Eq (List PV) _ _)
  all_goals first
    | trivial
    | rfl
    | omega
    | exact isTab.mk t (by omega) rfl
    | (show m * 8 ≤ 140737488355328; omega)
    | exact tva
    | (show @Eq Bool _ _; simp only [g1, g2, cond_true, cond_false, Bool.not_true, Bool.not_false, Bool.not_not, Bool.and_true, Bool.true_and, Bool.and_false, Bool.false_and, Bool.or_true, Bool.true_or, Bool.or_false, Bool.false_or, beq_self_eq_true, bne_self_eq_false, Bool.true_eq_false, Bool.false_eq_true, reduceCtorEq, Bool.and_self, decide_true, decide_false, ite_true, ite_false, eq_self]; done)
    | skip
  refine .mk ⟨[2, 3, 8, 9, 10, 12, 13, 14, 15], [9, 12, 13], fun st => ∃ i : Nat, i ≤ m ∧ st = mkSt ([2, 3, 8, 9, 10, 12, 13, 14, 15].zip [.slice none p fun i => strL (s i), .int .u32 by_, .ff, .ptr 9 0, .slice none m fun i => partL (trP t l (s 0) i), .ptr 12 0, .ptr 13 0, I (scS t l (s 0) i), I i]) [(9, .cells [I (s 0).m, I (s 0).h, I (s 0).s, I (s 0).g]), (12, .cells [I (trW t l (s 0) i).m, I (trW t l (s 0) i).h, I (trW t l (s 0) i).s, I (trW t l (s 0) i).g]), (13, .cells [I (allS t l (s 0) i).m, I (allS t l (s 0) i).h, I (allS t l (s 0) i).s, I (allS t l (s 0) i).g])],
    fun st => m - (match st.slots 15 with | .int _ k => k.toNat | _ => 0), ?_, ?_⟩
  · exact ⟨_, sle_head (live := [2, 3, 8, 9, 10, 12, 13, 14, 15]) [.slice none p fun i => strL (s i), .int .u32 by_, .ff, .ptr 9 0, .slice none m fun i => partL (trP t l (s 0) i), .ptr 12 0, .ptr 13 0, I (scS t l (s 0) 0), I (0 : Nat)] [.cells [I (s 0).m, I (s 0).h, I (s 0).s, I (s 0).g], .cells [I (trW t l (s 0) 0).m, I (trW t l (s 0) 0).h, I (trW t l (s 0) 0).s, I (trW t l (s 0) 0).g], .cells [I (allS t l (s 0) 0).m, I (allS t l (s 0) 0).h, I (allS t l (s 0) 0).s, I (allS t l (s 0) 0).g]] (.cons (.refl _) (.cons (.refl _) (.cons (.refl _) (.cons (.refl _) (.cons (.slice _ _ _ _ fun i hi => rfl) (.cons (.refl _) (.cons (.refl _) (.cons (.refl _) (.cons (.refl _) .nil))))))))) (.cons (.refl _) (.cons (.refl _) (.cons (.refl _) .nil))), 0, Nat.zero_le _, rfl⟩
  · rintro st ⟨i, hi, rfl⟩
    refine ⟨fun p1 => ?_, fun p1 => ?_⟩
    · have hlt : i < m := by simpa using p1
      clear p1
      have hLi := hu.all i hlt
      obtain ⟨k1, k2, k3, k4⟩ := keep_all t l (s 0) i
      obtain ⟨q1, q2, q3, q4, q5⟩ := parts_sums (t (l i).toNat) (trW t l (s 0) i)
      obtain ⟨w1, w2, w3, w4⟩ := okS_parts ((hok.2.2.all (l i).toNat (by omega)).1) (hW i (by omega))
      have hWi := hW i (by omega)
      have hni := hnn i (by omega)
      change (trP t l (s 0) i).sm + (trP t l (s 0) i).wm = _ at q1
      change (trP t l (s 0) i).sh + (trP t l (s 0) i).wh = _ at q2
      change (trP t l (s 0) i).ss = 0 at q3
      change (trP t l (s 0) i).ws + (trP t l (s 0) i).scale = _ at q4
      change (trP t l (s 0) i).sg + (trP t l (s 0) i).wg = _ at q5
      change okS ⟨(trP t l (s 0) i).wm, (trP t l (s 0) i).wh, (trP t l (s 0) i).ws, (trP t l (s 0) i).wg⟩ at w1
      change okS ⟨(trP t l (s 0) i).sm, (trP t l (s 0) i).sh, (trP t l (s 0) i).ss, (trP t l (s 0) i).sg⟩ at w2
      change 0 ≤ (trP t l (s 0) i).scale at w3
      rw [q3] at w2
      have d1 := decide_eq_true w1
      have d2 := decide_eq_true w2
      simp only [okS] at w1 w2 hWi
      have d3 : decide ((trP t l (s 0) i).scale < 0) = false := decide_eq_false (by omega)
      have a1 : IntKind.i64.wrap ((trP t l (s 0) i).sm + (trP t l (s 0) i).wm) = (trW t l (s 0) i).m := by rw [q1]; exact w64 (by omega) (by omega)
      have a2 : IntKind.i64.wrap ((trP t l (s 0) i).sh + (trP t l (s 0) i).wh) = (trW t l (s 0) i).h := by rw [q2]; exact w64 (by omega) (by omega)
      have a3 : IntKind.i64.wrap (IntKind.i64.wrap (0 + (trP t l (s 0) i).ws) + (trP t l (s 0) i).scale) = (trW t l (s 0) i).s := by rw [Int.zero_add, w64 (n := (trP t l (s 0) i).ws) (by omega) (by omega), q4]; exact w64 (by omega) (by omega)
      have a4 : IntKind.i64.wrap ((trP t l (s 0) i).sg + (trP t l (s 0) i).wg) = (trW t l (s 0) i).g := by rw [q5]; exact w64 (by omega) (by omega)
      have b1 : IntKind.i64.wrap ((allS t l (s 0) i).m + (trP t l (s 0) i).sm) = (allS t l (s 0) (i + 1)).m := w64 (by omega) (by omega)
      have b2 : IntKind.i64.wrap ((allS t l (s 0) i).h + (trP t l (s 0) i).sh) = (allS t l (s 0) (i + 1)).h := w64 (by omega) (by omega)
      have b3 : IntKind.i64.wrap ((allS t l (s 0) i).s + (trP t l (s 0) i).ss) = (allS t l (s 0) (i + 1)).s := w64 (by omega) (by omega)
      have b4 : IntKind.i64.wrap ((allS t l (s 0) i).g + (trP t l (s 0) i).sg) = (allS t l (s 0) (i + 1)).g := w64 (by omega) (by omega)
      have b5 : IntKind.i64.wrap (scS t l (s 0) i + (trP t l (s 0) i).scale) = scS t l (s 0) (i + 1) := w64 (by omega) (by omega)
      repeat' first
        | refine ⟨?_, ?_⟩
        | refine fun h => absurd h (by decide)
        | (refine fun h => ?_; exfalso; simp only [toNat_self, q3, a1, a2, a3, a4, d1, d2, d3, cond_true, cond_false, Bool.not_true, Bool.not_false, Bool.not_not, Bool.and_true, Bool.true_and, Bool.and_false, Bool.false_and, Bool.or_true, Bool.true_or, Bool.or_false, Bool.false_or, beq_self_eq_true, bne_self_eq_false, Bool.true_eq_false, Bool.false_eq_true, reduceCtorEq, Bool.and_self, decide_true, decide_false, ite_true, ite_false, eq_self] at h; done)
        | refine fun _ => ?_
        | refine ple_ok ?_
        | exact (rfl : @Eq (List PV) _ _)
        | refine Halt.mk ⟨_, sle_head (live := [2, 3, 8, 9, 10, 12, 13, 14, 15]) [.slice none p fun i => strL (s i), .int .u32 by_, .ff, .ptr 9 0, .slice none m fun i => partL (trP t l (s 0) i), .ptr 12 0, .ptr 13 0, I (scS t l (s 0) (i + 1)), I (i + 1 : Nat)] [.cells [I (s 0).m, I (s 0).h, I (s 0).s, I (s 0).g], .cells [I (trW t l (s 0) (i + 1)).m, I (trW t l (s 0) (i + 1)).h, I (trW t l (s 0) (i + 1)).s, I (trW t l (s 0) (i + 1)).g], .cells [I (allS t l (s 0) (i + 1)).m, I (allS t l (s 0) (i + 1)).h, I (allS t l (s 0) (i + 1)).s, I (allS t l (s 0) (i + 1)).g]] (.cons (.refl _) (.cons (.refl _) (.cons (.refl _) (.cons (.refl _) (.cons (.refl _) (.cons (.refl _) (.cons (.refl _) (.cons (ple_ok ?_) (.cons (ple_ok ?_) .nil))))))))) (.cons (.refl _) (.cons (.refl _) (.cons (.cellsL (.cons (ple_ok ?_) (.cons (ple_ok ?_) (.cons (ple_ok ?_) (.cons (ple_ok ?_) .nil))))) .nil))), ⟨i + 1, ?_, rfl⟩, ?_⟩
      all_goals first
        | trivial
        | rfl
        | omega
        | exact isTab.mk t (by omega) rfl
        | (show IntKind.i64.wrap ((i : Int) + 1) = ((i + 1 : Nat) : Int); rw [w64 (by omega) (by omega)]; omega)
        | (show m - (i + 1) < m - i; omega)
        | exact b1
        | exact b2
        | exact b3
        | exact b4
        | exact b5
        | (show @Eq Bool _ _; simp only [toNat_self, q3, a1, a2, a3, a4, d1, d2, d3, cond_true, cond_false, Bool.not_true, Bool.not_false, Bool.not_not, Bool.and_true, Bool.true_and, Bool.and_false, Bool.false_and, Bool.or_true, Bool.true_or, Bool.or_false, Bool.false_or, beq_self_eq_true, bne_self_eq_false, Bool.true_eq_false, Bool.false_eq_true, reduceCtorEq, Bool.and_self, decide_true, decide_false, ite_true, ite_false, eq_self]; done)
        | skip
    · have : i = m := by
        have := of_decide_eq_false p1
        omega
      subst this
      obtain ⟨k1, k2, k3, k4⟩ := keep_all t l (s 0) i
      have hWi := hW i (by omega)
      have hni := hnn i (by omega)
      simp only [okS] at hWi
      have c1 : IntKind.i64.wrap ((allS t l (s 0) i).m + (trW t l (s 0) i).m) = (s 0).m := by rw [k1]; exact w64 (by omega) (by omega)
      have c2 : IntKind.i64.wrap ((allS t l (s 0) i).h + (trW t l (s 0) i).h) = (s 0).h := by rw [k2]; exact w64 (by omega) (by omega)
      have c3 : IntKind.i64.wrap (IntKind.i64.wrap ((allS t l (s 0) i).s + (trW t l (s 0) i).s) + scS t l (s 0) i) = (s 0).s := by rw [w64 (n := (allS t l (s 0) i).s + (trW t l (s 0) i).s) (by omega) (by omega), k3]; exact w64 (by omega) (by omega)
      have c4 : IntKind.i64.wrap ((allS t l (s 0) i).g + (trW t l (s 0) i).g) = (s 0).g := by rw [k4]; exact w64 (by omega) (by omega)
      repeat' first
        | refine ⟨?_, ?_⟩
        | refine fun h => absurd h (by decide)
        | (refine fun h => ?_; exfalso; simp only [c1, c2, c3, c4, cond_true, cond_false, Bool.not_true, Bool.not_false, Bool.not_not, Bool.and_true, Bool.true_and, Bool.and_false, Bool.false_and, Bool.or_true, Bool.true_or, Bool.or_false, Bool.false_or, beq_self_eq_true, bne_self_eq_false, Bool.true_eq_false, Bool.false_eq_true, reduceCtorEq, Bool.and_self, decide_true, decide_false, ite_true, ite_false, eq_self] at h; done)
        | refine fun _ => ?_
        | refine ple_ok ?_
        | exact (rfl : @Eq (List PV) _ _)
      all_goals first
        | trivial
        | rfl
        | omega
        | exact isTab.mk t (by omega) rfl
        | (show @Eq Bool _ _; simp only [c1, c2, c3, c4, cond_true, cond_false, Bool.not_true, Bool.not_false, Bool.not_not, Bool.and_true, Bool.true_and, Bool.and_false, Bool.false_and, Bool.or_true, Bool.true_or, Bool.or_false, Bool.false_or, beq_self_eq_true, bne_self_eq_false, Bool.true_eq_false, Bool.false_eq_true, reduceCtorEq, Bool.and_self, decide_true, decide_false, ite_true, ite_false, eq_self]; done)
        | skip
      refine .mk ⟨[2, 3, 8, 9, 18, 19], [9, 18], fun st => ∃ j : Nat, j ≤ p ∧ st = mkSt ([2, 3, 8, 9, 18, 19].zip [.slice none p fun i => strL (s i), .int .u32 by_, .ff, .ptr 9 0, .ptr 18 0, I j]) [(9, .cells [I (s 0).m, I (s 0).h, I (s 0).s, I (s 0).g]), (18, .cells [I (sumS s j).m, I (sumS s j).h, I (sumS s j).s, I (sumS s j).g])],
        fun st => p - (match st.slots 19 with | .int _ k => k.toNat | _ => 0), ?_, ?_⟩
      · exact ⟨_, sle_head (live := [2, 3, 8, 9, 18, 19]) [.slice none p fun i => strL (s i), .int .u32 by_, .ff, .ptr 9 0, .ptr 18 0, I (0 : Nat)] [.cells [I (s 0).m, I (s 0).h, I (s 0).s, I (s 0).g], .cells [I (sumS s 0).m, I (sumS s 0).h, I (sumS s 0).s, I (sumS s 0).g]] (.cons (.refl _) (.cons (.refl _) (.cons (.refl _) (.cons (.refl _) (.cons (.refl _) (.cons (.refl _) .nil)))))) (.cons (.refl _) (.cons (.refl _) .nil)), 0, Nat.zero_le _, rfl⟩
      · rintro st ⟨j, hj, rfl⟩
        have hbj := hbig j hj
        simp only [bigS] at hbj
        refine ⟨fun p2 => ?_, fun p2 => ?_⟩
        · have hlj : j < p := by simpa using p2
          clear p2
          have hxj := hxs j hlj
          simp only [okS] at hxj
          have e1 : IntKind.i64.wrap ((sumS s j).m + (s j).m) = (sumS s (j + 1)).m := w64 (by omega) (by omega)
          have e2 : IntKind.i64.wrap ((sumS s j).h + (s j).h) = (sumS s (j + 1)).h := w64 (by omega) (by omega)
          have e3 : IntKind.i64.wrap ((sumS s j).s + (s j).s) = (sumS s (j + 1)).s := w64 (by omega) (by omega)
          have e4 : IntKind.i64.wrap ((sumS s j).g + (s j).g) = (sumS s (j + 1)).g := w64 (by omega) (by omega)
          repeat' first
            | refine ⟨?_, ?_⟩
            | refine fun h => absurd h (by decide)
            | (refine fun h => ?_; exfalso; simp only [cond_true, cond_false, Bool.not_true, Bool.not_false, Bool.not_not, Bool.and_true, Bool.true_and, Bool.and_false, Bool.false_and, Bool.or_true, Bool.true_or, Bool.or_false, Bool.false_or, beq_self_eq_true, bne_self_eq_false, Bool.true_eq_false, Bool.false_eq_true, reduceCtorEq, Bool.and_self, decide_true, decide_false, ite_true, ite_false, eq_self] at h; done)
            | refine fun _ => ?_
            | refine ple_ok ?_
            | exact (rfl : @Eq (List PV) _ _)
            | refine Halt.mk ⟨_, sle_head (live := [2, 3, 8, 9, 18, 19]) [.slice none p fun i => strL (s i), .int .u32 by_, .ff, .ptr 9 0, .ptr 18 0, I (j + 1 : Nat)] [.cells [I (s 0).m, I (s 0).h, I (s 0).s, I (s 0).g], .cells [I (sumS s (j + 1)).m, I (sumS s (j + 1)).h, I (sumS s (j + 1)).s, I (sumS s (j + 1)).g]] (.cons (.refl _) (.cons (.refl _) (.cons (.refl _) (.cons (.refl _) (.cons (.refl _) (.cons (ple_ok ?_) .nil)))))) (.cons (.refl _) (.cons (.cellsL (.cons (ple_ok ?_) (.cons (ple_ok ?_) (.cons (ple_ok ?_) (.cons (ple_ok ?_) .nil))))) .nil)), ⟨j + 1, ?_, rfl⟩, ?_⟩
          all_goals first
            | trivial
            | rfl
            | omega
            | exact isTab.mk t (by omega) rfl
            | (show IntKind.i64.wrap ((j : Int) + 1) = ((j + 1 : Nat) : Int); rw [w64 (by omega) (by omega)]; omega)
            | (show p - (j + 1) < p - j; omega)
            | exact e1
            | exact e2
            | exact e3
            | exact e4
            | (show @Eq Bool _ _; simp only [cond_true, cond_false, Bool.not_true, Bool.not_false, Bool.not_not, Bool.and_true, Bool.true_and, Bool.and_false, Bool.false_and, Bool.or_true, Bool.true_or, Bool.or_false, Bool.false_or, beq_self_eq_true, bne_self_eq_false, Bool.true_eq_false, Bool.false_eq_true, reduceCtorEq, Bool.and_self, decide_true, decide_false, ite_true, ite_false, eq_self]; done)
            | skip
        · have : j = p := by
            have := of_decide_eq_false p2
            omega
          subst this
          have f0 : (0 : Int) ≤ IntKind.i64.wrap ((j : Int) - 1) := by rw [elast]; omega
          have f1 : IntKind.i64.wrap ((j : Int) - 1) < (j : Int) := by rw [elast]; omega
          have u1 : decide ((sumS s j).m ≤ 1000000) = false := decide_eq_false (by omega)
          have hy' := hy
          simp only [okS] at hy'
          have v2 : IntKind.i64.wrap ((s 0).h - by_ + ((s (IntKind.i64.wrap ((j : Int) - 1)).toNat).h + by_)) = IntKind.i64.wrap ((s 0).h + (s (IntKind.i64.wrap ((j : Int) - 1)).toNat).h) := by congr 1; omega
          have v3 : IntKind.i64.wrap ((s (IntKind.i64.wrap ((j : Int) - 1)).toNat).h + by_) = (s (IntKind.i64.wrap ((j : Int) - 1)).toNat).h + by_ := w64 (by omega) (by omega)
          repeat' first
            | refine ⟨?_, ?_⟩
            | refine fun h => absurd h (by decide)
            | (refine fun h => ?_; exfalso; simp only [eby, u1, v2, v3, cond_true, cond_false, Bool.not_true, Bool.not_false, Bool.not_not, Bool.and_true, Bool.true_and, Bool.and_false, Bool.false_and, Bool.or_true, Bool.true_or, Bool.or_false, Bool.false_or, beq_self_eq_true, bne_self_eq_false, Bool.true_eq_false, Bool.false_eq_true, reduceCtorEq, Bool.and_self, decide_true, decide_false, ite_true, ite_false, eq_self] at h; done)
            | refine fun _ => ?_
            | refine ple_ok ?_
            | exact (rfl : @Eq (List PV) _ _)
          all_goals first
            | trivial
            | rfl
            | omega
            | exact isTab.mk t (by omega) rfl
            | exact hst
            | exact f0
            | exact f1
            | (show @Eq Bool _ _; simp only [eby, u1, v2, v3, cond_true, cond_false, Bool.not_true, Bool.not_false, Bool.not_not, Bool.and_true, Bool.true_and, Bool.and_false, Bool.false_and, Bool.or_true, Bool.true_or, Bool.or_false, Bool.false_or, beq_self_eq_true, bne_self_eq_false, Bool.true_eq_false, Bool.false_eq_true, reduceCtorEq, Bool.and_self, decide_true, decide_false, ite_true, ite_false, eq_self]; done)
            | skip
set_option maxRecDepth 100000 in
set_option maxHeartbeats 8000000 in
theorem kpm2 (n : Nat) (t : Nat → Row) (m : Nat) (l : Nat → Int) (p : Nat) (s : Nat → Stream) (by_ : Int) (hn : n ≤ 9223372036854775807) (hm : m ≤ 9223372036854775807) (hby : 0 ≤ by_ ∧ by_ ≤ 4294967295) (hT : okTb n t = true) (hL : lvB n m l = true) (hp0 : 0 < p) (hp : p ≤ 40) (hA : (allB p fun i => okS (s i)) = true) (hM : mixE p s = 3) (hM2 : 1000000 < (sumS s p).m) (hX : ¬ (0 ≤ by_ ∧ by_ ≤ (s 0).h ∧ by_ ≤ 4000 * (s (IntKind.i64.wrap ((p : Int) - 1)).toNat).m - (s (IntKind.i64.wrap ((p : Int) - 1)).toNat).h)) : SF Try.prog 10 (V.atS [tab n t, .slice none m (fun i => intL (l i)), .slice none p (fun i => strL (s i)), .int .u32 by_] (.bool true)) := by
  have h24 : SF Try.prog 24 (V.atS [tab n t] (.bool true)) := sf_at sf24L (isTabL.mk t (by omega) rfl) (by show PV.bool (okTb n t) = _; rw [hT])
  have hok : okT n t := @of_decide_eq_true _ (Classical.propDecidable _) hT
  have hn20 := hok.2.1
  have h41 : SF Try.prog 41 (V.atS [I n, .slice none m (fun i => intL (l i))] (.bool true)) := sf_at sf41 (isLv.mk l (by omega) (by omega) hm rfl) (by show PV.bool (lvB n m l) = _; rw [hL])
  have g1 : decide ((p : Int) < 1) = false := decide_eq_false (by omega)
  have g2 : decide ((40 : Int) < (p : Int)) = false := decide_eq_false (by omega)
  have h32 : SF Try.prog 32 (V.atS [.slice none p (fun i => strL (s i))] (.bool true)) := sf_at sf32 (isStrs.mk s (by omega) rfl) (by show PV.bool (allB p fun i => okS (s i)) = _; rw [hA])
  obtain ⟨m1, m20, hu⟩ := lvB_get hL
  have hxs := (allB_get hA).all
  have hx : okS (s 0) := hxs 0 (by omega)
  have huL : Upto (fun i => 0 ≤ l i ∧ l i ≤ (n : Int) - 1) m := ⟨fun i hi => ⟨(hu.all i hi).1, (hu.all i hi).2.1⟩⟩
  have hW := trW_ok (x := s 0) hok huL hx
  have hnn := all_nn (x := s 0) hok huL hx
  have tva : isTV n (fun i => rowL (t i)) m (fun i => intL (l i)) ⟨(s (Int.toNat 0)).m, (s (Int.toNat 0)).h, (s (Int.toNat 0)).s, (s (Int.toNat 0)).g⟩ := .mk t l hok hu m1 m20 hx rfl rfl
  have ehx : okS (s 0) := hx
  simp only [okS] at ehx
  have hst : isStrs p fun i => strL (s i) := .mk s (by omega) rfl
  have elast : IntKind.i64.wrap ((p : Int) - 1) = (p : Int) - 1 := w64 (by omega) (by omega)
  have hy : okS (s (IntKind.i64.wrap ((p : Int) - 1)).toNat) := hxs _ (by rw [elast]; omega)
  have eby : IntKind.i64.wrap by_ = by_ := w64 (by omega) (by omega)
  have hbig := sumS_big hxs
  have hV : mixV p s = zeroS := if_neg (by rw [hM]; decide)
  have h29 : SF Try.prog 29 (V.atS [.slice none p (fun i => strL (s i))] (.tup [encS zeroS, I 3])) := by
    refine sf_at sf29 hst ?_
    show PV.tup [encS (mixV p s), I (mixE p s)] = _
    rw [hV, hM]
  have h38 : SF Try.prog 38 (V.atS [encS (s 0), encS (s (IntKind.i64.wrap ((p : Int) - 1)).toNat), I (IntKind.i64.wrap by_)] (.tup [encS zeroS, encS zeroS, I 2])) := by
    refine sf_at sf38 trivial ?_
    show exR (s 0) (s (IntKind.i64.wrap ((p : Int) - 1)).toNat) (IntKind.i64.wrap by_) = _
    rw [eby]
    have hP : ¬ exP (s 0) (s (IntKind.i64.wrap ((p : Int) - 1)).toNat) by_ := fun h => hX h.2.2
    simp only [exR, sel, if_neg hP, if_pos hx, if_pos hy, if_neg hX]
    rfl
  refine sf_of types_ok mixed (l := [(17, awakeS), (19, tabS), (22, chkS), (23, strS), (24, _), (29, _), (30, strsS), (32, _), (38, _), (40, trVS), (41, _), (53, plusS)]) ⟨sf17', sf19, sf22, sf23, h24, h29, sf30, h32, h38, sf40v, h41, sf53, trivial⟩ (es := []) trivial 4 Try.func10 rfl (by kernel_rfl) fun args h => ?_
  cases (show args = _ from h)
  refine ⟨rfl, ?_⟩
  repeat' first
    | refine ⟨?_, ?_⟩
    | refine fun h => absurd h (by decide)
    | (refine fun h => ?_; exfalso; simp only [g1, g2, cond_true, cond_false, Bool.not_true, Bool.not_false, Bool.not_not, Bool.and_true, Bool.true_and, Bool.and_false, Bool.false_and, Bool.or_true, Bool.true_or, Bool.or_false, Bool.false_or, beq_self_eq_true, bne_self_eq_false, Bool.true_eq_false, Bool.false_eq_true, reduceCtorEq, Bool.and_self, decide_true, decide_false, ite_true, ite_false, eq_self] at h; done)
    | refine fun _ => ?_
    | refine ple_ok ?_
    | exact (rfl : @Eq (List PV) _ _)
  all_goals first
    | trivial
    | rfl
    | omega
    | exact isTab.mk t (by omega) rfl
    | (show m * 8 ≤ 140737488355328; omega)
    | exact tva
    | (show @Eq Bool _ _; simp only [g1, g2, cond_true, cond_false, Bool.not_true, Bool.not_false, Bool.not_not, Bool.and_true, Bool.true_and, Bool.and_false, Bool.false_and, Bool.or_true, Bool.true_or, Bool.or_false, Bool.false_or, beq_self_eq_true, bne_self_eq_false, Bool.true_eq_false, Bool.false_eq_true, reduceCtorEq, Bool.and_self, decide_true, decide_false, ite_true, ite_false, eq_self]; done)
    | skip
  refine .mk ⟨[2, 3, 8, 9, 10, 12, 13, 14, 15], [9, 12, 13], fun st => ∃ i : Nat, i ≤ m ∧ st = mkSt ([2, 3, 8, 9, 10, 12, 13, 14, 15].zip [.slice none p fun i => strL (s i), .int .u32 by_, .ff, .ptr 9 0, .slice none m fun i => partL (trP t l (s 0) i), .ptr 12 0, .ptr 13 0, I (scS t l (s 0) i), I i]) [(9, .cells [I (s 0).m, I (s 0).h, I (s 0).s, I (s 0).g]), (12, .cells [I (trW t l (s 0) i).m, I (trW t l (s 0) i).h, I (trW t l (s 0) i).s, I (trW t l (s 0) i).g]), (13, .cells [I (allS t l (s 0) i).m, I (allS t l (s 0) i).h, I (allS t l (s 0) i).s, I (allS t l (s 0) i).g])],
    fun st => m - (match st.slots 15 with | .int _ k => k.toNat | _ => 0), ?_, ?_⟩
  · exact ⟨_, sle_head (live := [2, 3, 8, 9, 10, 12, 13, 14, 15]) [.slice none p fun i => strL (s i), .int .u32 by_, .ff, .ptr 9 0, .slice none m fun i => partL (trP t l (s 0) i), .ptr 12 0, .ptr 13 0, I (scS t l (s 0) 0), I (0 : Nat)] [.cells [I (s 0).m, I (s 0).h, I (s 0).s, I (s 0).g], .cells [I (trW t l (s 0) 0).m, I (trW t l (s 0) 0).h, I (trW t l (s 0) 0).s, I (trW t l (s 0) 0).g], .cells [I (allS t l (s 0) 0).m, I (allS t l (s 0) 0).h, I (allS t l (s 0) 0).s, I (allS t l (s 0) 0).g]] (.cons (.refl _) (.cons (.refl _) (.cons (.refl _) (.cons (.refl _) (.cons (.slice _ _ _ _ fun i hi => rfl) (.cons (.refl _) (.cons (.refl _) (.cons (.refl _) (.cons (.refl _) .nil))))))))) (.cons (.refl _) (.cons (.refl _) (.cons (.refl _) .nil))), 0, Nat.zero_le _, rfl⟩
  · rintro st ⟨i, hi, rfl⟩
    refine ⟨fun p1 => ?_, fun p1 => ?_⟩
    · have hlt : i < m := by simpa using p1
      clear p1
      have hLi := hu.all i hlt
      obtain ⟨k1, k2, k3, k4⟩ := keep_all t l (s 0) i
      obtain ⟨q1, q2, q3, q4, q5⟩ := parts_sums (t (l i).toNat) (trW t l (s 0) i)
      obtain ⟨w1, w2, w3, w4⟩ := okS_parts ((hok.2.2.all (l i).toNat (by omega)).1) (hW i (by omega))
      have hWi := hW i (by omega)
      have hni := hnn i (by omega)
      change (trP t l (s 0) i).sm + (trP t l (s 0) i).wm = _ at q1
      change (trP t l (s 0) i).sh + (trP t l (s 0) i).wh = _ at q2
      change (trP t l (s 0) i).ss = 0 at q3
      change (trP t l (s 0) i).ws + (trP t l (s 0) i).scale = _ at q4
      change (trP t l (s 0) i).sg + (trP t l (s 0) i).wg = _ at q5
      change okS ⟨(trP t l (s 0) i).wm, (trP t l (s 0) i).wh, (trP t l (s 0) i).ws, (trP t l (s 0) i).wg⟩ at w1
      change okS ⟨(trP t l (s 0) i).sm, (trP t l (s 0) i).sh, (trP t l (s 0) i).ss, (trP t l (s 0) i).sg⟩ at w2
      change 0 ≤ (trP t l (s 0) i).scale at w3
      rw [q3] at w2
      have d1 := decide_eq_true w1
      have d2 := decide_eq_true w2
      simp only [okS] at w1 w2 hWi
      have d3 : decide ((trP t l (s 0) i).scale < 0) = false := decide_eq_false (by omega)
      have a1 : IntKind.i64.wrap ((trP t l (s 0) i).sm + (trP t l (s 0) i).wm) = (trW t l (s 0) i).m := by rw [q1]; exact w64 (by omega) (by omega)
      have a2 : IntKind.i64.wrap ((trP t l (s 0) i).sh + (trP t l (s 0) i).wh) = (trW t l (s 0) i).h := by rw [q2]; exact w64 (by omega) (by omega)
      have a3 : IntKind.i64.wrap (IntKind.i64.wrap (0 + (trP t l (s 0) i).ws) + (trP t l (s 0) i).scale) = (trW t l (s 0) i).s := by rw [Int.zero_add, w64 (n := (trP t l (s 0) i).ws) (by omega) (by omega), q4]; exact w64 (by omega) (by omega)
      have a4 : IntKind.i64.wrap ((trP t l (s 0) i).sg + (trP t l (s 0) i).wg) = (trW t l (s 0) i).g := by rw [q5]; exact w64 (by omega) (by omega)
      have b1 : IntKind.i64.wrap ((allS t l (s 0) i).m + (trP t l (s 0) i).sm) = (allS t l (s 0) (i + 1)).m := w64 (by omega) (by omega)
      have b2 : IntKind.i64.wrap ((allS t l (s 0) i).h + (trP t l (s 0) i).sh) = (allS t l (s 0) (i + 1)).h := w64 (by omega) (by omega)
      have b3 : IntKind.i64.wrap ((allS t l (s 0) i).s + (trP t l (s 0) i).ss) = (allS t l (s 0) (i + 1)).s := w64 (by omega) (by omega)
      have b4 : IntKind.i64.wrap ((allS t l (s 0) i).g + (trP t l (s 0) i).sg) = (allS t l (s 0) (i + 1)).g := w64 (by omega) (by omega)
      have b5 : IntKind.i64.wrap (scS t l (s 0) i + (trP t l (s 0) i).scale) = scS t l (s 0) (i + 1) := w64 (by omega) (by omega)
      repeat' first
        | refine ⟨?_, ?_⟩
        | refine fun h => absurd h (by decide)
        | (refine fun h => ?_; exfalso; simp only [toNat_self, q3, a1, a2, a3, a4, d1, d2, d3, cond_true, cond_false, Bool.not_true, Bool.not_false, Bool.not_not, Bool.and_true, Bool.true_and, Bool.and_false, Bool.false_and, Bool.or_true, Bool.true_or, Bool.or_false, Bool.false_or, beq_self_eq_true, bne_self_eq_false, Bool.true_eq_false, Bool.false_eq_true, reduceCtorEq, Bool.and_self, decide_true, decide_false, ite_true, ite_false, eq_self] at h; done)
        | refine fun _ => ?_
        | refine ple_ok ?_
        | exact (rfl : @Eq (List PV) _ _)
        | refine Halt.mk ⟨_, sle_head (live := [2, 3, 8, 9, 10, 12, 13, 14, 15]) [.slice none p fun i => strL (s i), .int .u32 by_, .ff, .ptr 9 0, .slice none m fun i => partL (trP t l (s 0) i), .ptr 12 0, .ptr 13 0, I (scS t l (s 0) (i + 1)), I (i + 1 : Nat)] [.cells [I (s 0).m, I (s 0).h, I (s 0).s, I (s 0).g], .cells [I (trW t l (s 0) (i + 1)).m, I (trW t l (s 0) (i + 1)).h, I (trW t l (s 0) (i + 1)).s, I (trW t l (s 0) (i + 1)).g], .cells [I (allS t l (s 0) (i + 1)).m, I (allS t l (s 0) (i + 1)).h, I (allS t l (s 0) (i + 1)).s, I (allS t l (s 0) (i + 1)).g]] (.cons (.refl _) (.cons (.refl _) (.cons (.refl _) (.cons (.refl _) (.cons (.refl _) (.cons (.refl _) (.cons (.refl _) (.cons (ple_ok ?_) (.cons (ple_ok ?_) .nil))))))))) (.cons (.refl _) (.cons (.refl _) (.cons (.cellsL (.cons (ple_ok ?_) (.cons (ple_ok ?_) (.cons (ple_ok ?_) (.cons (ple_ok ?_) .nil))))) .nil))), ⟨i + 1, ?_, rfl⟩, ?_⟩
      all_goals first
        | trivial
        | rfl
        | omega
        | exact isTab.mk t (by omega) rfl
        | (show IntKind.i64.wrap ((i : Int) + 1) = ((i + 1 : Nat) : Int); rw [w64 (by omega) (by omega)]; omega)
        | (show m - (i + 1) < m - i; omega)
        | exact b1
        | exact b2
        | exact b3
        | exact b4
        | exact b5
        | (show @Eq Bool _ _; simp only [toNat_self, q3, a1, a2, a3, a4, d1, d2, d3, cond_true, cond_false, Bool.not_true, Bool.not_false, Bool.not_not, Bool.and_true, Bool.true_and, Bool.and_false, Bool.false_and, Bool.or_true, Bool.true_or, Bool.or_false, Bool.false_or, beq_self_eq_true, bne_self_eq_false, Bool.true_eq_false, Bool.false_eq_true, reduceCtorEq, Bool.and_self, decide_true, decide_false, ite_true, ite_false, eq_self]; done)
        | skip
    · have : i = m := by
        have := of_decide_eq_false p1
        omega
      subst this
      obtain ⟨k1, k2, k3, k4⟩ := keep_all t l (s 0) i
      have hWi := hW i (by omega)
      have hni := hnn i (by omega)
      simp only [okS] at hWi
      have c1 : IntKind.i64.wrap ((allS t l (s 0) i).m + (trW t l (s 0) i).m) = (s 0).m := by rw [k1]; exact w64 (by omega) (by omega)
      have c2 : IntKind.i64.wrap ((allS t l (s 0) i).h + (trW t l (s 0) i).h) = (s 0).h := by rw [k2]; exact w64 (by omega) (by omega)
      have c3 : IntKind.i64.wrap (IntKind.i64.wrap ((allS t l (s 0) i).s + (trW t l (s 0) i).s) + scS t l (s 0) i) = (s 0).s := by rw [w64 (n := (allS t l (s 0) i).s + (trW t l (s 0) i).s) (by omega) (by omega), k3]; exact w64 (by omega) (by omega)
      have c4 : IntKind.i64.wrap ((allS t l (s 0) i).g + (trW t l (s 0) i).g) = (s 0).g := by rw [k4]; exact w64 (by omega) (by omega)
      repeat' first
        | refine ⟨?_, ?_⟩
        | refine fun h => absurd h (by decide)
        | (refine fun h => ?_; exfalso; simp only [c1, c2, c3, c4, cond_true, cond_false, Bool.not_true, Bool.not_false, Bool.not_not, Bool.and_true, Bool.true_and, Bool.and_false, Bool.false_and, Bool.or_true, Bool.true_or, Bool.or_false, Bool.false_or, beq_self_eq_true, bne_self_eq_false, Bool.true_eq_false, Bool.false_eq_true, reduceCtorEq, Bool.and_self, decide_true, decide_false, ite_true, ite_false, eq_self] at h; done)
        | refine fun _ => ?_
        | refine ple_ok ?_
        | exact (rfl : @Eq (List PV) _ _)
      all_goals first
        | trivial
        | rfl
        | omega
        | exact isTab.mk t (by omega) rfl
        | (show @Eq Bool _ _; simp only [c1, c2, c3, c4, cond_true, cond_false, Bool.not_true, Bool.not_false, Bool.not_not, Bool.and_true, Bool.true_and, Bool.and_false, Bool.false_and, Bool.or_true, Bool.true_or, Bool.or_false, Bool.false_or, beq_self_eq_true, bne_self_eq_false, Bool.true_eq_false, Bool.false_eq_true, reduceCtorEq, Bool.and_self, decide_true, decide_false, ite_true, ite_false, eq_self]; done)
        | skip
      refine .mk ⟨[2, 3, 8, 9, 18, 19], [9, 18], fun st => ∃ j : Nat, j ≤ p ∧ st = mkSt ([2, 3, 8, 9, 18, 19].zip [.slice none p fun i => strL (s i), .int .u32 by_, .ff, .ptr 9 0, .ptr 18 0, I j]) [(9, .cells [I (s 0).m, I (s 0).h, I (s 0).s, I (s 0).g]), (18, .cells [I (sumS s j).m, I (sumS s j).h, I (sumS s j).s, I (sumS s j).g])],
        fun st => p - (match st.slots 19 with | .int _ k => k.toNat | _ => 0), ?_, ?_⟩
      · exact ⟨_, sle_head (live := [2, 3, 8, 9, 18, 19]) [.slice none p fun i => strL (s i), .int .u32 by_, .ff, .ptr 9 0, .ptr 18 0, I (0 : Nat)] [.cells [I (s 0).m, I (s 0).h, I (s 0).s, I (s 0).g], .cells [I (sumS s 0).m, I (sumS s 0).h, I (sumS s 0).s, I (sumS s 0).g]] (.cons (.refl _) (.cons (.refl _) (.cons (.refl _) (.cons (.refl _) (.cons (.refl _) (.cons (.refl _) .nil)))))) (.cons (.refl _) (.cons (.refl _) .nil)), 0, Nat.zero_le _, rfl⟩
      · rintro st ⟨j, hj, rfl⟩
        have hbj := hbig j hj
        simp only [bigS] at hbj
        refine ⟨fun p2 => ?_, fun p2 => ?_⟩
        · have hlj : j < p := by simpa using p2
          clear p2
          have hxj := hxs j hlj
          simp only [okS] at hxj
          have e1 : IntKind.i64.wrap ((sumS s j).m + (s j).m) = (sumS s (j + 1)).m := w64 (by omega) (by omega)
          have e2 : IntKind.i64.wrap ((sumS s j).h + (s j).h) = (sumS s (j + 1)).h := w64 (by omega) (by omega)
          have e3 : IntKind.i64.wrap ((sumS s j).s + (s j).s) = (sumS s (j + 1)).s := w64 (by omega) (by omega)
          have e4 : IntKind.i64.wrap ((sumS s j).g + (s j).g) = (sumS s (j + 1)).g := w64 (by omega) (by omega)
          repeat' first
            | refine ⟨?_, ?_⟩
            | refine fun h => absurd h (by decide)
            | (refine fun h => ?_; exfalso; simp only [cond_true, cond_false, Bool.not_true, Bool.not_false, Bool.not_not, Bool.and_true, Bool.true_and, Bool.and_false, Bool.false_and, Bool.or_true, Bool.true_or, Bool.or_false, Bool.false_or, beq_self_eq_true, bne_self_eq_false, Bool.true_eq_false, Bool.false_eq_true, reduceCtorEq, Bool.and_self, decide_true, decide_false, ite_true, ite_false, eq_self] at h; done)
            | refine fun _ => ?_
            | refine ple_ok ?_
            | exact (rfl : @Eq (List PV) _ _)
            | refine Halt.mk ⟨_, sle_head (live := [2, 3, 8, 9, 18, 19]) [.slice none p fun i => strL (s i), .int .u32 by_, .ff, .ptr 9 0, .ptr 18 0, I (j + 1 : Nat)] [.cells [I (s 0).m, I (s 0).h, I (s 0).s, I (s 0).g], .cells [I (sumS s (j + 1)).m, I (sumS s (j + 1)).h, I (sumS s (j + 1)).s, I (sumS s (j + 1)).g]] (.cons (.refl _) (.cons (.refl _) (.cons (.refl _) (.cons (.refl _) (.cons (.refl _) (.cons (ple_ok ?_) .nil)))))) (.cons (.refl _) (.cons (.cellsL (.cons (ple_ok ?_) (.cons (ple_ok ?_) (.cons (ple_ok ?_) (.cons (ple_ok ?_) .nil))))) .nil)), ⟨j + 1, ?_, rfl⟩, ?_⟩
          all_goals first
            | trivial
            | rfl
            | omega
            | exact isTab.mk t (by omega) rfl
            | (show IntKind.i64.wrap ((j : Int) + 1) = ((j + 1 : Nat) : Int); rw [w64 (by omega) (by omega)]; omega)
            | (show p - (j + 1) < p - j; omega)
            | exact e1
            | exact e2
            | exact e3
            | exact e4
            | (show @Eq Bool _ _; simp only [cond_true, cond_false, Bool.not_true, Bool.not_false, Bool.not_not, Bool.and_true, Bool.true_and, Bool.and_false, Bool.false_and, Bool.or_true, Bool.true_or, Bool.or_false, Bool.false_or, beq_self_eq_true, bne_self_eq_false, Bool.true_eq_false, Bool.false_eq_true, reduceCtorEq, Bool.and_self, decide_true, decide_false, ite_true, ite_false, eq_self]; done)
            | skip
        · have : j = p := by
            have := of_decide_eq_false p2
            omega
          subst this
          have f0 : (0 : Int) ≤ IntKind.i64.wrap ((j : Int) - 1) := by rw [elast]; omega
          have f1 : IntKind.i64.wrap ((j : Int) - 1) < (j : Int) := by rw [elast]; omega
          have u1 : decide ((sumS s j).m ≤ 1000000) = false := decide_eq_false (by omega)
          repeat' first
            | refine ⟨?_, ?_⟩
            | refine fun h => absurd h (by decide)
            | (refine fun h => ?_; exfalso; simp only [elast, eby, u1, cond_true, cond_false, Bool.not_true, Bool.not_false, Bool.not_not, Bool.and_true, Bool.true_and, Bool.and_false, Bool.false_and, Bool.or_true, Bool.true_or, Bool.or_false, Bool.false_or, beq_self_eq_true, bne_self_eq_false, Bool.true_eq_false, Bool.false_eq_true, reduceCtorEq, Bool.and_self, decide_true, decide_false, ite_true, ite_false, eq_self] at h; done)
            | refine fun _ => ?_
            | refine ple_ok ?_
            | exact (rfl : @Eq (List PV) _ _)
          all_goals first
            | trivial
            | rfl
            | omega
            | exact isTab.mk t (by omega) rfl
            | exact hst
            | exact f0
            | exact f1
            | (show @Eq Bool _ _; simp only [elast, eby, u1, cond_true, cond_false, Bool.not_true, Bool.not_false, Bool.not_not, Bool.and_true, Bool.true_and, Bool.and_false, Bool.false_and, Bool.or_true, Bool.true_or, Bool.or_false, Bool.false_or, beq_self_eq_true, bne_self_eq_false, Bool.true_eq_false, Bool.false_eq_true, reduceCtorEq, Bool.and_self, decide_true, decide_false, ite_true, ite_false, eq_self]; done)
            | skip
set_option maxRecDepth 100000 in
set_option maxHeartbeats 8000000 in
theorem kpg0 (n : Nat) (t : Nat → Row) (m : Nat) (l : Nat → Int) (p : Nat) (s : Nat → Stream) (by_ : Int) (hn : n ≤ 9223372036854775807) (hm : m ≤ 9223372036854775807) (hby : 0 ≤ by_ ∧ by_ ≤ 4294967295) (hT : okTb n t = true) (hL : lvB n m l = true) (hp0 : 0 < p) (hp : p ≤ 40) (hA : (allB p fun i => okS (s i)) = true) (hM : mixE p s = 3) (hM1 : (sumS s p).m ≤ 1000000) (hM2 : 1000000000 < (sumS s p).g) (hX : 0 ≤ by_ ∧ by_ ≤ (s 0).h ∧ by_ ≤ 4000 * (s (IntKind.i64.wrap ((p : Int) - 1)).toNat).m - (s (IntKind.i64.wrap ((p : Int) - 1)).toNat).h) : SF Try.prog 10 (V.atS [tab n t, .slice none m (fun i => intL (l i)), .slice none p (fun i => strL (s i)), .int .u32 by_] (.bool true)) := by
  have h24 : SF Try.prog 24 (V.atS [tab n t] (.bool true)) := sf_at sf24L (isTabL.mk t (by omega) rfl) (by show PV.bool (okTb n t) = _; rw [hT])
  have hok : okT n t := @of_decide_eq_true _ (Classical.propDecidable _) hT
  have hn20 := hok.2.1
  have h41 : SF Try.prog 41 (V.atS [I n, .slice none m (fun i => intL (l i))] (.bool true)) := sf_at sf41 (isLv.mk l (by omega) (by omega) hm rfl) (by show PV.bool (lvB n m l) = _; rw [hL])
  have g1 : decide ((p : Int) < 1) = false := decide_eq_false (by omega)
  have g2 : decide ((40 : Int) < (p : Int)) = false := decide_eq_false (by omega)
  have h32 : SF Try.prog 32 (V.atS [.slice none p (fun i => strL (s i))] (.bool true)) := sf_at sf32 (isStrs.mk s (by omega) rfl) (by show PV.bool (allB p fun i => okS (s i)) = _; rw [hA])
  obtain ⟨m1, m20, hu⟩ := lvB_get hL
  have hxs := (allB_get hA).all
  have hx : okS (s 0) := hxs 0 (by omega)
  have huL : Upto (fun i => 0 ≤ l i ∧ l i ≤ (n : Int) - 1) m := ⟨fun i hi => ⟨(hu.all i hi).1, (hu.all i hi).2.1⟩⟩
  have hW := trW_ok (x := s 0) hok huL hx
  have hnn := all_nn (x := s 0) hok huL hx
  have tva : isTV n (fun i => rowL (t i)) m (fun i => intL (l i)) ⟨(s (Int.toNat 0)).m, (s (Int.toNat 0)).h, (s (Int.toNat 0)).s, (s (Int.toNat 0)).g⟩ := .mk t l hok hu m1 m20 hx rfl rfl
  have ehx : okS (s 0) := hx
  simp only [okS] at ehx
  have hst : isStrs p fun i => strL (s i) := .mk s (by omega) rfl
  have elast : IntKind.i64.wrap ((p : Int) - 1) = (p : Int) - 1 := w64 (by omega) (by omega)
  have hy : okS (s (IntKind.i64.wrap ((p : Int) - 1)).toNat) := hxs _ (by rw [elast]; omega)
  have eby : IntKind.i64.wrap by_ = by_ := w64 (by omega) (by omega)
  have hbig := sumS_big hxs
  have hV : mixV p s = zeroS := if_neg (by rw [hM]; decide)
  have h29 : SF Try.prog 29 (V.atS [.slice none p (fun i => strL (s i))] (.tup [encS zeroS, I 3])) := by
    refine sf_at sf29 hst ?_
    show PV.tup [encS (mixV p s), I (mixE p s)] = _
    rw [hV, hM]
  have h38 : SF Try.prog 38 (V.atS [encS (s 0), encS (s (IntKind.i64.wrap ((p : Int) - 1)).toNat), I (IntKind.i64.wrap by_)] (.tup [encS ⟨(s 0).m, (s 0).h - by_, (s 0).s, (s 0).g⟩, encS ⟨(s (IntKind.i64.wrap ((p : Int) - 1)).toNat).m, (s (IntKind.i64.wrap ((p : Int) - 1)).toNat).h + by_, (s (IntKind.i64.wrap ((p : Int) - 1)).toNat).s, (s (IntKind.i64.wrap ((p : Int) - 1)).toNat).g⟩, I 0])) := by
    refine sf_at sf38 trivial ?_
    show exR (s 0) (s (IntKind.i64.wrap ((p : Int) - 1)).toNat) (IntKind.i64.wrap by_) = _
    rw [eby]
    have hP : exP (s 0) (s (IntKind.i64.wrap ((p : Int) - 1)).toNat) by_ := ⟨hx, hy, hX⟩
    simp only [exR, sel, if_pos hP, if_pos hx, if_pos hy, if_pos hX]
  refine sf_of types_ok mixed (l := [(17, awakeS), (19, tabS), (22, chkS), (23, strS), (24, _), (29, _), (30, strsS), (32, _), (38, _), (40, trVS), (41, _), (53, plusS)]) ⟨sf17', sf19, sf22, sf23, h24, h29, sf30, h32, h38, sf40v, h41, sf53, trivial⟩ (es := []) trivial 4 Try.func10 rfl (by kernel_rfl) fun args h => ?_
  cases (show args = _ from h)
  refine ⟨rfl, ?_⟩
  repeat' first
    | refine ⟨?_, ?_⟩
    | refine fun h => absurd h (by decide)
    | (refine fun h => ?_; exfalso; simp only [g1, g2, cond_true, cond_false, Bool.not_true, Bool.not_false, Bool.not_not, Bool.and_true, Bool.true_and, Bool.and_false, Bool.false_and, Bool.or_true, Bool.true_or, Bool.or_false, Bool.false_or, beq_self_eq_true, bne_self_eq_false, Bool.true_eq_false, Bool.false_eq_true, reduceCtorEq, Bool.and_self, decide_true, decide_false, ite_true, ite_false, eq_self] at h; done)
    | refine fun _ => ?_
    | refine ple_ok ?_
    | exact (rfl : @Eq (List PV) _ _)
  all_goals first
    | trivial
    | rfl
    | omega
    | exact isTab.mk t (by omega) rfl
    | (show m * 8 ≤ 140737488355328; omega)
    | exact tva
    | (show @Eq Bool _ _; simp only [g1, g2, cond_true, cond_false, Bool.not_true, Bool.not_false, Bool.not_not, Bool.and_true, Bool.true_and, Bool.and_false, Bool.false_and, Bool.or_true, Bool.true_or, Bool.or_false, Bool.false_or, beq_self_eq_true, bne_self_eq_false, Bool.true_eq_false, Bool.false_eq_true, reduceCtorEq, Bool.and_self, decide_true, decide_false, ite_true, ite_false, eq_self]; done)
    | skip
  refine .mk ⟨[2, 3, 8, 9, 10, 12, 13, 14, 15], [9, 12, 13], fun st => ∃ i : Nat, i ≤ m ∧ st = mkSt ([2, 3, 8, 9, 10, 12, 13, 14, 15].zip [.slice none p fun i => strL (s i), .int .u32 by_, .ff, .ptr 9 0, .slice none m fun i => partL (trP t l (s 0) i), .ptr 12 0, .ptr 13 0, I (scS t l (s 0) i), I i]) [(9, .cells [I (s 0).m, I (s 0).h, I (s 0).s, I (s 0).g]), (12, .cells [I (trW t l (s 0) i).m, I (trW t l (s 0) i).h, I (trW t l (s 0) i).s, I (trW t l (s 0) i).g]), (13, .cells [I (allS t l (s 0) i).m, I (allS t l (s 0) i).h, I (allS t l (s 0) i).s, I (allS t l (s 0) i).g])],
    fun st => m - (match st.slots 15 with | .int _ k => k.toNat | _ => 0), ?_, ?_⟩
  · exact ⟨_, sle_head (live := [2, 3, 8, 9, 10, 12, 13, 14, 15]) [.slice none p fun i => strL (s i), .int .u32 by_, .ff, .ptr 9 0, .slice none m fun i => partL (trP t l (s 0) i), .ptr 12 0, .ptr 13 0, I (scS t l (s 0) 0), I (0 : Nat)] [.cells [I (s 0).m, I (s 0).h, I (s 0).s, I (s 0).g], .cells [I (trW t l (s 0) 0).m, I (trW t l (s 0) 0).h, I (trW t l (s 0) 0).s, I (trW t l (s 0) 0).g], .cells [I (allS t l (s 0) 0).m, I (allS t l (s 0) 0).h, I (allS t l (s 0) 0).s, I (allS t l (s 0) 0).g]] (.cons (.refl _) (.cons (.refl _) (.cons (.refl _) (.cons (.refl _) (.cons (.slice _ _ _ _ fun i hi => rfl) (.cons (.refl _) (.cons (.refl _) (.cons (.refl _) (.cons (.refl _) .nil))))))))) (.cons (.refl _) (.cons (.refl _) (.cons (.refl _) .nil))), 0, Nat.zero_le _, rfl⟩
  · rintro st ⟨i, hi, rfl⟩
    refine ⟨fun p1 => ?_, fun p1 => ?_⟩
    · have hlt : i < m := by simpa using p1
      clear p1
      have hLi := hu.all i hlt
      obtain ⟨k1, k2, k3, k4⟩ := keep_all t l (s 0) i
      obtain ⟨q1, q2, q3, q4, q5⟩ := parts_sums (t (l i).toNat) (trW t l (s 0) i)
      obtain ⟨w1, w2, w3, w4⟩ := okS_parts ((hok.2.2.all (l i).toNat (by omega)).1) (hW i (by omega))
      have hWi := hW i (by omega)
      have hni := hnn i (by omega)
      change (trP t l (s 0) i).sm + (trP t l (s 0) i).wm = _ at q1
      change (trP t l (s 0) i).sh + (trP t l (s 0) i).wh = _ at q2
      change (trP t l (s 0) i).ss = 0 at q3
      change (trP t l (s 0) i).ws + (trP t l (s 0) i).scale = _ at q4
      change (trP t l (s 0) i).sg + (trP t l (s 0) i).wg = _ at q5
      change okS ⟨(trP t l (s 0) i).wm, (trP t l (s 0) i).wh, (trP t l (s 0) i).ws, (trP t l (s 0) i).wg⟩ at w1
      change okS ⟨(trP t l (s 0) i).sm, (trP t l (s 0) i).sh, (trP t l (s 0) i).ss, (trP t l (s 0) i).sg⟩ at w2
      change 0 ≤ (trP t l (s 0) i).scale at w3
      rw [q3] at w2
      have d1 := decide_eq_true w1
      have d2 := decide_eq_true w2
      simp only [okS] at w1 w2 hWi
      have d3 : decide ((trP t l (s 0) i).scale < 0) = false := decide_eq_false (by omega)
      have a1 : IntKind.i64.wrap ((trP t l (s 0) i).sm + (trP t l (s 0) i).wm) = (trW t l (s 0) i).m := by rw [q1]; exact w64 (by omega) (by omega)
      have a2 : IntKind.i64.wrap ((trP t l (s 0) i).sh + (trP t l (s 0) i).wh) = (trW t l (s 0) i).h := by rw [q2]; exact w64 (by omega) (by omega)
      have a3 : IntKind.i64.wrap (IntKind.i64.wrap (0 + (trP t l (s 0) i).ws) + (trP t l (s 0) i).scale) = (trW t l (s 0) i).s := by rw [Int.zero_add, w64 (n := (trP t l (s 0) i).ws) (by omega) (by omega), q4]; exact w64 (by omega) (by omega)
      have a4 : IntKind.i64.wrap ((trP t l (s 0) i).sg + (trP t l (s 0) i).wg) = (trW t l (s 0) i).g := by rw [q5]; exact w64 (by omega) (by omega)
      have b1 : IntKind.i64.wrap ((allS t l (s 0) i).m + (trP t l (s 0) i).sm) = (allS t l (s 0) (i + 1)).m := w64 (by omega) (by omega)
      have b2 : IntKind.i64.wrap ((allS t l (s 0) i).h + (trP t l (s 0) i).sh) = (allS t l (s 0) (i + 1)).h := w64 (by omega) (by omega)
      have b3 : IntKind.i64.wrap ((allS t l (s 0) i).s + (trP t l (s 0) i).ss) = (allS t l (s 0) (i + 1)).s := w64 (by omega) (by omega)
      have b4 : IntKind.i64.wrap ((allS t l (s 0) i).g + (trP t l (s 0) i).sg) = (allS t l (s 0) (i + 1)).g := w64 (by omega) (by omega)
      have b5 : IntKind.i64.wrap (scS t l (s 0) i + (trP t l (s 0) i).scale) = scS t l (s 0) (i + 1) := w64 (by omega) (by omega)
      repeat' first
        | refine ⟨?_, ?_⟩
        | refine fun h => absurd h (by decide)
        | (refine fun h => ?_; exfalso; simp only [toNat_self, q3, a1, a2, a3, a4, d1, d2, d3, cond_true, cond_false, Bool.not_true, Bool.not_false, Bool.not_not, Bool.and_true, Bool.true_and, Bool.and_false, Bool.false_and, Bool.or_true, Bool.true_or, Bool.or_false, Bool.false_or, beq_self_eq_true, bne_self_eq_false, Bool.true_eq_false, Bool.false_eq_true, reduceCtorEq, Bool.and_self, decide_true, decide_false, ite_true, ite_false, eq_self] at h; done)
        | refine fun _ => ?_
        | refine ple_ok ?_
        | exact (rfl : @Eq (List PV) _ _)
        | refine Halt.mk ⟨_, sle_head (live := [2, 3, 8, 9, 10, 12, 13, 14, 15]) [.slice none p fun i => strL (s i), .int .u32 by_, .ff, .ptr 9 0, .slice none m fun i => partL (trP t l (s 0) i), .ptr 12 0, .ptr 13 0, I (scS t l (s 0) (i + 1)), I (i + 1 : Nat)] [.cells [I (s 0).m, I (s 0).h, I (s 0).s, I (s 0).g], .cells [I (trW t l (s 0) (i + 1)).m, I (trW t l (s 0) (i + 1)).h, I (trW t l (s 0) (i + 1)).s, I (trW t l (s 0) (i + 1)).g], .cells [I (allS t l (s 0) (i + 1)).m, I (allS t l (s 0) (i + 1)).h, I (allS t l (s 0) (i + 1)).s, I (allS t l (s 0) (i + 1)).g]] (.cons (.refl _) (.cons (.refl _) (.cons (.refl _) (.cons (.refl _) (.cons (.refl _) (.cons (.refl _) (.cons (.refl _) (.cons (ple_ok ?_) (.cons (ple_ok ?_) .nil))))))))) (.cons (.refl _) (.cons (.refl _) (.cons (.cellsL (.cons (ple_ok ?_) (.cons (ple_ok ?_) (.cons (ple_ok ?_) (.cons (ple_ok ?_) .nil))))) .nil))), ⟨i + 1, ?_, rfl⟩, ?_⟩
      all_goals first
        | trivial
        | rfl
        | omega
        | exact isTab.mk t (by omega) rfl
        | (show IntKind.i64.wrap ((i : Int) + 1) = ((i + 1 : Nat) : Int); rw [w64 (by omega) (by omega)]; omega)
        | (show m - (i + 1) < m - i; omega)
        | exact b1
        | exact b2
        | exact b3
        | exact b4
        | exact b5
        | (show @Eq Bool _ _; simp only [toNat_self, q3, a1, a2, a3, a4, d1, d2, d3, cond_true, cond_false, Bool.not_true, Bool.not_false, Bool.not_not, Bool.and_true, Bool.true_and, Bool.and_false, Bool.false_and, Bool.or_true, Bool.true_or, Bool.or_false, Bool.false_or, beq_self_eq_true, bne_self_eq_false, Bool.true_eq_false, Bool.false_eq_true, reduceCtorEq, Bool.and_self, decide_true, decide_false, ite_true, ite_false, eq_self]; done)
        | skip
    · have : i = m := by
        have := of_decide_eq_false p1
        omega
      subst this
      obtain ⟨k1, k2, k3, k4⟩ := keep_all t l (s 0) i
      have hWi := hW i (by omega)
      have hni := hnn i (by omega)
      simp only [okS] at hWi
      have c1 : IntKind.i64.wrap ((allS t l (s 0) i).m + (trW t l (s 0) i).m) = (s 0).m := by rw [k1]; exact w64 (by omega) (by omega)
      have c2 : IntKind.i64.wrap ((allS t l (s 0) i).h + (trW t l (s 0) i).h) = (s 0).h := by rw [k2]; exact w64 (by omega) (by omega)
      have c3 : IntKind.i64.wrap (IntKind.i64.wrap ((allS t l (s 0) i).s + (trW t l (s 0) i).s) + scS t l (s 0) i) = (s 0).s := by rw [w64 (n := (allS t l (s 0) i).s + (trW t l (s 0) i).s) (by omega) (by omega), k3]; exact w64 (by omega) (by omega)
      have c4 : IntKind.i64.wrap ((allS t l (s 0) i).g + (trW t l (s 0) i).g) = (s 0).g := by rw [k4]; exact w64 (by omega) (by omega)
      repeat' first
        | refine ⟨?_, ?_⟩
        | refine fun h => absurd h (by decide)
        | (refine fun h => ?_; exfalso; simp only [c1, c2, c3, c4, cond_true, cond_false, Bool.not_true, Bool.not_false, Bool.not_not, Bool.and_true, Bool.true_and, Bool.and_false, Bool.false_and, Bool.or_true, Bool.true_or, Bool.or_false, Bool.false_or, beq_self_eq_true, bne_self_eq_false, Bool.true_eq_false, Bool.false_eq_true, reduceCtorEq, Bool.and_self, decide_true, decide_false, ite_true, ite_false, eq_self] at h; done)
        | refine fun _ => ?_
        | refine ple_ok ?_
        | exact (rfl : @Eq (List PV) _ _)
      all_goals first
        | trivial
        | rfl
        | omega
        | exact isTab.mk t (by omega) rfl
        | (show @Eq Bool _ _; simp only [c1, c2, c3, c4, cond_true, cond_false, Bool.not_true, Bool.not_false, Bool.not_not, Bool.and_true, Bool.true_and, Bool.and_false, Bool.false_and, Bool.or_true, Bool.true_or, Bool.or_false, Bool.false_or, beq_self_eq_true, bne_self_eq_false, Bool.true_eq_false, Bool.false_eq_true, reduceCtorEq, Bool.and_self, decide_true, decide_false, ite_true, ite_false, eq_self]; done)
        | skip
      refine .mk ⟨[2, 3, 8, 9, 18, 19], [9, 18], fun st => ∃ j : Nat, j ≤ p ∧ st = mkSt ([2, 3, 8, 9, 18, 19].zip [.slice none p fun i => strL (s i), .int .u32 by_, .ff, .ptr 9 0, .ptr 18 0, I j]) [(9, .cells [I (s 0).m, I (s 0).h, I (s 0).s, I (s 0).g]), (18, .cells [I (sumS s j).m, I (sumS s j).h, I (sumS s j).s, I (sumS s j).g])],
        fun st => p - (match st.slots 19 with | .int _ k => k.toNat | _ => 0), ?_, ?_⟩
      · exact ⟨_, sle_head (live := [2, 3, 8, 9, 18, 19]) [.slice none p fun i => strL (s i), .int .u32 by_, .ff, .ptr 9 0, .ptr 18 0, I (0 : Nat)] [.cells [I (s 0).m, I (s 0).h, I (s 0).s, I (s 0).g], .cells [I (sumS s 0).m, I (sumS s 0).h, I (sumS s 0).s, I (sumS s 0).g]] (.cons (.refl _) (.cons (.refl _) (.cons (.refl _) (.cons (.refl _) (.cons (.refl _) (.cons (.refl _) .nil)))))) (.cons (.refl _) (.cons (.refl _) .nil)), 0, Nat.zero_le _, rfl⟩
      · rintro st ⟨j, hj, rfl⟩
        have hbj := hbig j hj
        simp only [bigS] at hbj
        refine ⟨fun p2 => ?_, fun p2 => ?_⟩
        · have hlj : j < p := by simpa using p2
          clear p2
          have hxj := hxs j hlj
          simp only [okS] at hxj
          have e1 : IntKind.i64.wrap ((sumS s j).m + (s j).m) = (sumS s (j + 1)).m := w64 (by omega) (by omega)
          have e2 : IntKind.i64.wrap ((sumS s j).h + (s j).h) = (sumS s (j + 1)).h := w64 (by omega) (by omega)
          have e3 : IntKind.i64.wrap ((sumS s j).s + (s j).s) = (sumS s (j + 1)).s := w64 (by omega) (by omega)
          have e4 : IntKind.i64.wrap ((sumS s j).g + (s j).g) = (sumS s (j + 1)).g := w64 (by omega) (by omega)
          repeat' first
            | refine ⟨?_, ?_⟩
            | refine fun h => absurd h (by decide)
            | (refine fun h => ?_; exfalso; simp only [cond_true, cond_false, Bool.not_true, Bool.not_false, Bool.not_not, Bool.and_true, Bool.true_and, Bool.and_false, Bool.false_and, Bool.or_true, Bool.true_or, Bool.or_false, Bool.false_or, beq_self_eq_true, bne_self_eq_false, Bool.true_eq_false, Bool.false_eq_true, reduceCtorEq, Bool.and_self, decide_true, decide_false, ite_true, ite_false, eq_self] at h; done)
            | refine fun _ => ?_
            | refine ple_ok ?_
            | exact (rfl : @Eq (List PV) _ _)
            | refine Halt.mk ⟨_, sle_head (live := [2, 3, 8, 9, 18, 19]) [.slice none p fun i => strL (s i), .int .u32 by_, .ff, .ptr 9 0, .ptr 18 0, I (j + 1 : Nat)] [.cells [I (s 0).m, I (s 0).h, I (s 0).s, I (s 0).g], .cells [I (sumS s (j + 1)).m, I (sumS s (j + 1)).h, I (sumS s (j + 1)).s, I (sumS s (j + 1)).g]] (.cons (.refl _) (.cons (.refl _) (.cons (.refl _) (.cons (.refl _) (.cons (.refl _) (.cons (ple_ok ?_) .nil)))))) (.cons (.refl _) (.cons (.cellsL (.cons (ple_ok ?_) (.cons (ple_ok ?_) (.cons (ple_ok ?_) (.cons (ple_ok ?_) .nil))))) .nil)), ⟨j + 1, ?_, rfl⟩, ?_⟩
          all_goals first
            | trivial
            | rfl
            | omega
            | exact isTab.mk t (by omega) rfl
            | (show IntKind.i64.wrap ((j : Int) + 1) = ((j + 1 : Nat) : Int); rw [w64 (by omega) (by omega)]; omega)
            | (show p - (j + 1) < p - j; omega)
            | exact e1
            | exact e2
            | exact e3
            | exact e4
            | (show @Eq Bool _ _; simp only [cond_true, cond_false, Bool.not_true, Bool.not_false, Bool.not_not, Bool.and_true, Bool.true_and, Bool.and_false, Bool.false_and, Bool.or_true, Bool.true_or, Bool.or_false, Bool.false_or, beq_self_eq_true, bne_self_eq_false, Bool.true_eq_false, Bool.false_eq_true, reduceCtorEq, Bool.and_self, decide_true, decide_false, ite_true, ite_false, eq_self]; done)
            | skip
        · have : j = p := by
            have := of_decide_eq_false p2
            omega
          subst this
          have f0 : (0 : Int) ≤ IntKind.i64.wrap ((j : Int) - 1) := by rw [elast]; omega
          have f1 : IntKind.i64.wrap ((j : Int) - 1) < (j : Int) := by rw [elast]; omega
          have u1 : decide ((sumS s j).m ≤ 1000000) = true := decide_eq_true (by omega)
          have u2 : decide ((sumS s j).g ≤ 1000000000) = false := decide_eq_false (by omega)
          have hy' := hy
          simp only [okS] at hy'
          have v2 : IntKind.i64.wrap ((s 0).h - by_ + ((s (IntKind.i64.wrap ((j : Int) - 1)).toNat).h + by_)) = IntKind.i64.wrap ((s 0).h + (s (IntKind.i64.wrap ((j : Int) - 1)).toNat).h) := by congr 1; omega
          have v3 : IntKind.i64.wrap ((s (IntKind.i64.wrap ((j : Int) - 1)).toNat).h + by_) = (s (IntKind.i64.wrap ((j : Int) - 1)).toNat).h + by_ := w64 (by omega) (by omega)
          repeat' first
            | refine ⟨?_, ?_⟩
            | refine fun h => absurd h (by decide)
            | (refine fun h => ?_; exfalso; simp only [eby, u1, u2, v2, v3, cond_true, cond_false, Bool.not_true, Bool.not_false, Bool.not_not, Bool.and_true, Bool.true_and, Bool.and_false, Bool.false_and, Bool.or_true, Bool.true_or, Bool.or_false, Bool.false_or, beq_self_eq_true, bne_self_eq_false, Bool.true_eq_false, Bool.false_eq_true, reduceCtorEq, Bool.and_self, decide_true, decide_false, ite_true, ite_false, eq_self] at h; done)
            | refine fun _ => ?_
            | refine ple_ok ?_
            | exact (rfl : @Eq (List PV) _ _)
          all_goals first
            | trivial
            | rfl
            | omega
            | exact isTab.mk t (by omega) rfl
            | exact hst
            | exact f0
            | exact f1
            | (show @Eq Bool _ _; simp only [eby, u1, u2, v2, v3, cond_true, cond_false, Bool.not_true, Bool.not_false, Bool.not_not, Bool.and_true, Bool.true_and, Bool.and_false, Bool.false_and, Bool.or_true, Bool.true_or, Bool.or_false, Bool.false_or, beq_self_eq_true, bne_self_eq_false, Bool.true_eq_false, Bool.false_eq_true, reduceCtorEq, Bool.and_self, decide_true, decide_false, ite_true, ite_false, eq_self]; done)
            | skip
set_option maxRecDepth 100000 in
set_option maxHeartbeats 8000000 in
theorem kpg2 (n : Nat) (t : Nat → Row) (m : Nat) (l : Nat → Int) (p : Nat) (s : Nat → Stream) (by_ : Int) (hn : n ≤ 9223372036854775807) (hm : m ≤ 9223372036854775807) (hby : 0 ≤ by_ ∧ by_ ≤ 4294967295) (hT : okTb n t = true) (hL : lvB n m l = true) (hp0 : 0 < p) (hp : p ≤ 40) (hA : (allB p fun i => okS (s i)) = true) (hM : mixE p s = 3) (hM1 : (sumS s p).m ≤ 1000000) (hM2 : 1000000000 < (sumS s p).g) (hX : ¬ (0 ≤ by_ ∧ by_ ≤ (s 0).h ∧ by_ ≤ 4000 * (s (IntKind.i64.wrap ((p : Int) - 1)).toNat).m - (s (IntKind.i64.wrap ((p : Int) - 1)).toNat).h)) : SF Try.prog 10 (V.atS [tab n t, .slice none m (fun i => intL (l i)), .slice none p (fun i => strL (s i)), .int .u32 by_] (.bool true)) := by
  have h24 : SF Try.prog 24 (V.atS [tab n t] (.bool true)) := sf_at sf24L (isTabL.mk t (by omega) rfl) (by show PV.bool (okTb n t) = _; rw [hT])
  have hok : okT n t := @of_decide_eq_true _ (Classical.propDecidable _) hT
  have hn20 := hok.2.1
  have h41 : SF Try.prog 41 (V.atS [I n, .slice none m (fun i => intL (l i))] (.bool true)) := sf_at sf41 (isLv.mk l (by omega) (by omega) hm rfl) (by show PV.bool (lvB n m l) = _; rw [hL])
  have g1 : decide ((p : Int) < 1) = false := decide_eq_false (by omega)
  have g2 : decide ((40 : Int) < (p : Int)) = false := decide_eq_false (by omega)
  have h32 : SF Try.prog 32 (V.atS [.slice none p (fun i => strL (s i))] (.bool true)) := sf_at sf32 (isStrs.mk s (by omega) rfl) (by show PV.bool (allB p fun i => okS (s i)) = _; rw [hA])
  obtain ⟨m1, m20, hu⟩ := lvB_get hL
  have hxs := (allB_get hA).all
  have hx : okS (s 0) := hxs 0 (by omega)
  have huL : Upto (fun i => 0 ≤ l i ∧ l i ≤ (n : Int) - 1) m := ⟨fun i hi => ⟨(hu.all i hi).1, (hu.all i hi).2.1⟩⟩
  have hW := trW_ok (x := s 0) hok huL hx
  have hnn := all_nn (x := s 0) hok huL hx
  have tva : isTV n (fun i => rowL (t i)) m (fun i => intL (l i)) ⟨(s (Int.toNat 0)).m, (s (Int.toNat 0)).h, (s (Int.toNat 0)).s, (s (Int.toNat 0)).g⟩ := .mk t l hok hu m1 m20 hx rfl rfl
  have ehx : okS (s 0) := hx
  simp only [okS] at ehx
  have hst : isStrs p fun i => strL (s i) := .mk s (by omega) rfl
  have elast : IntKind.i64.wrap ((p : Int) - 1) = (p : Int) - 1 := w64 (by omega) (by omega)
  have hy : okS (s (IntKind.i64.wrap ((p : Int) - 1)).toNat) := hxs _ (by rw [elast]; omega)
  have eby : IntKind.i64.wrap by_ = by_ := w64 (by omega) (by omega)
  have hbig := sumS_big hxs
  have hV : mixV p s = zeroS := if_neg (by rw [hM]; decide)
  have h29 : SF Try.prog 29 (V.atS [.slice none p (fun i => strL (s i))] (.tup [encS zeroS, I 3])) := by
    refine sf_at sf29 hst ?_
    show PV.tup [encS (mixV p s), I (mixE p s)] = _
    rw [hV, hM]
  have h38 : SF Try.prog 38 (V.atS [encS (s 0), encS (s (IntKind.i64.wrap ((p : Int) - 1)).toNat), I (IntKind.i64.wrap by_)] (.tup [encS zeroS, encS zeroS, I 2])) := by
    refine sf_at sf38 trivial ?_
    show exR (s 0) (s (IntKind.i64.wrap ((p : Int) - 1)).toNat) (IntKind.i64.wrap by_) = _
    rw [eby]
    have hP : ¬ exP (s 0) (s (IntKind.i64.wrap ((p : Int) - 1)).toNat) by_ := fun h => hX h.2.2
    simp only [exR, sel, if_neg hP, if_pos hx, if_pos hy, if_neg hX]
    rfl
  refine sf_of types_ok mixed (l := [(17, awakeS), (19, tabS), (22, chkS), (23, strS), (24, _), (29, _), (30, strsS), (32, _), (38, _), (40, trVS), (41, _), (53, plusS)]) ⟨sf17', sf19, sf22, sf23, h24, h29, sf30, h32, h38, sf40v, h41, sf53, trivial⟩ (es := []) trivial 4 Try.func10 rfl (by kernel_rfl) fun args h => ?_
  cases (show args = _ from h)
  refine ⟨rfl, ?_⟩
  repeat' first
    | refine ⟨?_, ?_⟩
    | refine fun h => absurd h (by decide)
    | (refine fun h => ?_; exfalso; simp only [g1, g2, cond_true, cond_false, Bool.not_true, Bool.not_false, Bool.not_not, Bool.and_true, Bool.true_and, Bool.and_false, Bool.false_and, Bool.or_true, Bool.true_or, Bool.or_false, Bool.false_or, beq_self_eq_true, bne_self_eq_false, Bool.true_eq_false, Bool.false_eq_true, reduceCtorEq, Bool.and_self, decide_true, decide_false, ite_true, ite_false, eq_self] at h; done)
    | refine fun _ => ?_
    | refine ple_ok ?_
    | exact (rfl : @Eq (List PV) _ _)
  all_goals first
    | trivial
    | rfl
    | omega
    | exact isTab.mk t (by omega) rfl
    | (show m * 8 ≤ 140737488355328; omega)
    | exact tva
    | (show @Eq Bool _ _; simp only [g1, g2, cond_true, cond_false, Bool.not_true, Bool.not_false, Bool.not_not, Bool.and_true, Bool.true_and, Bool.and_false, Bool.false_and, Bool.or_true, Bool.true_or, Bool.or_false, Bool.false_or, beq_self_eq_true, bne_self_eq_false, Bool.true_eq_false, Bool.false_eq_true, reduceCtorEq, Bool.and_self, decide_true, decide_false, ite_true, ite_false, eq_self]; done)
    | skip
  refine .mk ⟨[2, 3, 8, 9, 10, 12, 13, 14, 15], [9, 12, 13], fun st => ∃ i : Nat, i ≤ m ∧ st = mkSt ([2, 3, 8, 9, 10, 12, 13, 14, 15].zip [.slice none p fun i => strL (s i), .int .u32 by_, .ff, .ptr 9 0, .slice none m fun i => partL (trP t l (s 0) i), .ptr 12 0, .ptr 13 0, I (scS t l (s 0) i), I i]) [(9, .cells [I (s 0).m, I (s 0).h, I (s 0).s, I (s 0).g]), (12, .cells [I (trW t l (s 0) i).m, I (trW t l (s 0) i).h, I (trW t l (s 0) i).s, I (trW t l (s 0) i).g]), (13, .cells [I (allS t l (s 0) i).m, I (allS t l (s 0) i).h, I (allS t l (s 0) i).s, I (allS t l (s 0) i).g])],
    fun st => m - (match st.slots 15 with | .int _ k => k.toNat | _ => 0), ?_, ?_⟩
  · exact ⟨_, sle_head (live := [2, 3, 8, 9, 10, 12, 13, 14, 15]) [.slice none p fun i => strL (s i), .int .u32 by_, .ff, .ptr 9 0, .slice none m fun i => partL (trP t l (s 0) i), .ptr 12 0, .ptr 13 0, I (scS t l (s 0) 0), I (0 : Nat)] [.cells [I (s 0).m, I (s 0).h, I (s 0).s, I (s 0).g], .cells [I (trW t l (s 0) 0).m, I (trW t l (s 0) 0).h, I (trW t l (s 0) 0).s, I (trW t l (s 0) 0).g], .cells [I (allS t l (s 0) 0).m, I (allS t l (s 0) 0).h, I (allS t l (s 0) 0).s, I (allS t l (s 0) 0).g]] (.cons (.refl _) (.cons (.refl _) (.cons (.refl _) (.cons (.refl _) (.cons (.slice _ _ _ _ fun i hi => rfl) (.cons (.refl _) (.cons (.refl _) (.cons (.refl _) (.cons (.refl _) .nil))))))))) (.cons (.refl _) (.cons (.refl _) (.cons (.refl _) .nil))), 0, Nat.zero_le _, rfl⟩
  · rintro st ⟨i, hi, rfl⟩
    refine ⟨fun p1 => ?_, fun p1 => ?_⟩
    · have hlt : i < m := by simpa using p1
      clear p1
      have hLi := hu.all i hlt
      obtain ⟨k1, k2, k3, k4⟩ := keep_all t l (s 0) i
      obtain ⟨q1, q2, q3, q4, q5⟩ := parts_sums (t (l i).toNat) (trW t l (s 0) i)
      obtain ⟨w1, w2, w3, w4⟩ := okS_parts ((hok.2.2.all (l i).toNat (by omega)).1) (hW i (by omega))
      have hWi := hW i (by omega)
      have hni := hnn i (by omega)
      change (trP t l (s 0) i).sm + (trP t l (s 0) i).wm = _ at q1
      change (trP t l (s 0) i).sh + (trP t l (s 0) i).wh = _ at q2
      change (trP t l (s 0) i).ss = 0 at q3
      change (trP t l (s 0) i).ws + (trP t l (s 0) i).scale = _ at q4
      change (trP t l (s 0) i).sg + (trP t l (s 0) i).wg = _ at q5
      change okS ⟨(trP t l (s 0) i).wm, (trP t l (s 0) i).wh, (trP t l (s 0) i).ws, (trP t l (s 0) i).wg⟩ at w1
      change okS ⟨(trP t l (s 0) i).sm, (trP t l (s 0) i).sh, (trP t l (s 0) i).ss, (trP t l (s 0) i).sg⟩ at w2
      change 0 ≤ (trP t l (s 0) i).scale at w3
      rw [q3] at w2
      have d1 := decide_eq_true w1
      have d2 := decide_eq_true w2
      simp only [okS] at w1 w2 hWi
      have d3 : decide ((trP t l (s 0) i).scale < 0) = false := decide_eq_false (by omega)
      have a1 : IntKind.i64.wrap ((trP t l (s 0) i).sm + (trP t l (s 0) i).wm) = (trW t l (s 0) i).m := by rw [q1]; exact w64 (by omega) (by omega)
      have a2 : IntKind.i64.wrap ((trP t l (s 0) i).sh + (trP t l (s 0) i).wh) = (trW t l (s 0) i).h := by rw [q2]; exact w64 (by omega) (by omega)
      have a3 : IntKind.i64.wrap (IntKind.i64.wrap (0 + (trP t l (s 0) i).ws) + (trP t l (s 0) i).scale) = (trW t l (s 0) i).s := by rw [Int.zero_add, w64 (n := (trP t l (s 0) i).ws) (by omega) (by omega), q4]; exact w64 (by omega) (by omega)
      have a4 : IntKind.i64.wrap ((trP t l (s 0) i).sg + (trP t l (s 0) i).wg) = (trW t l (s 0) i).g := by rw [q5]; exact w64 (by omega) (by omega)
      have b1 : IntKind.i64.wrap ((allS t l (s 0) i).m + (trP t l (s 0) i).sm) = (allS t l (s 0) (i + 1)).m := w64 (by omega) (by omega)
      have b2 : IntKind.i64.wrap ((allS t l (s 0) i).h + (trP t l (s 0) i).sh) = (allS t l (s 0) (i + 1)).h := w64 (by omega) (by omega)
      have b3 : IntKind.i64.wrap ((allS t l (s 0) i).s + (trP t l (s 0) i).ss) = (allS t l (s 0) (i + 1)).s := w64 (by omega) (by omega)
      have b4 : IntKind.i64.wrap ((allS t l (s 0) i).g + (trP t l (s 0) i).sg) = (allS t l (s 0) (i + 1)).g := w64 (by omega) (by omega)
      have b5 : IntKind.i64.wrap (scS t l (s 0) i + (trP t l (s 0) i).scale) = scS t l (s 0) (i + 1) := w64 (by omega) (by omega)
      repeat' first
        | refine ⟨?_, ?_⟩
        | refine fun h => absurd h (by decide)
        | (refine fun h => ?_; exfalso; simp only [toNat_self, q3, a1, a2, a3, a4, d1, d2, d3, cond_true, cond_false, Bool.not_true, Bool.not_false, Bool.not_not, Bool.and_true, Bool.true_and, Bool.and_false, Bool.false_and, Bool.or_true, Bool.true_or, Bool.or_false, Bool.false_or, beq_self_eq_true, bne_self_eq_false, Bool.true_eq_false, Bool.false_eq_true, reduceCtorEq, Bool.and_self, decide_true, decide_false, ite_true, ite_false, eq_self] at h; done)
        | refine fun _ => ?_
        | refine ple_ok ?_
        | exact (rfl : @Eq (List PV) _ _)
        | refine Halt.mk ⟨_, sle_head (live := [2, 3, 8, 9, 10, 12, 13, 14, 15]) [.slice none p fun i => strL (s i), .int .u32 by_, .ff, .ptr 9 0, .slice none m fun i => partL (trP t l (s 0) i), .ptr 12 0, .ptr 13 0, I (scS t l (s 0) (i + 1)), I (i + 1 : Nat)] [.cells [I (s 0).m, I (s 0).h, I (s 0).s, I (s 0).g], .cells [I (trW t l (s 0) (i + 1)).m, I (trW t l (s 0) (i + 1)).h, I (trW t l (s 0) (i + 1)).s, I (trW t l (s 0) (i + 1)).g], .cells [I (allS t l (s 0) (i + 1)).m, I (allS t l (s 0) (i + 1)).h, I (allS t l (s 0) (i + 1)).s, I (allS t l (s 0) (i + 1)).g]] (.cons (.refl _) (.cons (.refl _) (.cons (.refl _) (.cons (.refl _) (.cons (.refl _) (.cons (.refl _) (.cons (.refl _) (.cons (ple_ok ?_) (.cons (ple_ok ?_) .nil))))))))) (.cons (.refl _) (.cons (.refl _) (.cons (.cellsL (.cons (ple_ok ?_) (.cons (ple_ok ?_) (.cons (ple_ok ?_) (.cons (ple_ok ?_) .nil))))) .nil))), ⟨i + 1, ?_, rfl⟩, ?_⟩
      all_goals first
        | trivial
        | rfl
        | omega
        | exact isTab.mk t (by omega) rfl
        | (show IntKind.i64.wrap ((i : Int) + 1) = ((i + 1 : Nat) : Int); rw [w64 (by omega) (by omega)]; omega)
        | (show m - (i + 1) < m - i; omega)
        | exact b1
        | exact b2
        | exact b3
        | exact b4
        | exact b5
        | (show @Eq Bool _ _; simp only [toNat_self, q3, a1, a2, a3, a4, d1, d2, d3, cond_true, cond_false, Bool.not_true, Bool.not_false, Bool.not_not, Bool.and_true, Bool.true_and, Bool.and_false, Bool.false_and, Bool.or_true, Bool.true_or, Bool.or_false, Bool.false_or, beq_self_eq_true, bne_self_eq_false, Bool.true_eq_false, Bool.false_eq_true, reduceCtorEq, Bool.and_self, decide_true, decide_false, ite_true, ite_false, eq_self]; done)
        | skip
    · have : i = m := by
        have := of_decide_eq_false p1
        omega
      subst this
      obtain ⟨k1, k2, k3, k4⟩ := keep_all t l (s 0) i
      have hWi := hW i (by omega)
      have hni := hnn i (by omega)
      simp only [okS] at hWi
      have c1 : IntKind.i64.wrap ((allS t l (s 0) i).m + (trW t l (s 0) i).m) = (s 0).m := by rw [k1]; exact w64 (by omega) (by omega)
      have c2 : IntKind.i64.wrap ((allS t l (s 0) i).h + (trW t l (s 0) i).h) = (s 0).h := by rw [k2]; exact w64 (by omega) (by omega)
      have c3 : IntKind.i64.wrap (IntKind.i64.wrap ((allS t l (s 0) i).s + (trW t l (s 0) i).s) + scS t l (s 0) i) = (s 0).s := by rw [w64 (n := (allS t l (s 0) i).s + (trW t l (s 0) i).s) (by omega) (by omega), k3]; exact w64 (by omega) (by omega)
      have c4 : IntKind.i64.wrap ((allS t l (s 0) i).g + (trW t l (s 0) i).g) = (s 0).g := by rw [k4]; exact w64 (by omega) (by omega)
      repeat' first
        | refine ⟨?_, ?_⟩
        | refine fun h => absurd h (by decide)
        | (refine fun h => ?_; exfalso; simp only [c1, c2, c3, c4, cond_true, cond_false, Bool.not_true, Bool.not_false, Bool.not_not, Bool.and_true, Bool.true_and, Bool.and_false, Bool.false_and, Bool.or_true, Bool.true_or, Bool.or_false, Bool.false_or, beq_self_eq_true, bne_self_eq_false, Bool.true_eq_false, Bool.false_eq_true, reduceCtorEq, Bool.and_self, decide_true, decide_false, ite_true, ite_false, eq_self] at h; done)
        | refine fun _ => ?_
        | refine ple_ok ?_
        | exact (rfl : @Eq (List PV) _ _)
      all_goals first
        | trivial
        | rfl
        | omega
        | exact isTab.mk t (by omega) rfl
        | (show @Eq Bool _ _; simp only [c1, c2, c3, c4, cond_true, cond_false, Bool.not_true, Bool.not_false, Bool.not_not, Bool.and_true, Bool.true_and, Bool.and_false, Bool.false_and, Bool.or_true, Bool.true_or, Bool.or_false, Bool.false_or, beq_self_eq_true, bne_self_eq_false, Bool.true_eq_false, Bool.false_eq_true, reduceCtorEq, Bool.and_self, decide_true, decide_false, ite_true, ite_false, eq_self]; done)
        | skip
      refine .mk ⟨[2, 3, 8, 9, 18, 19], [9, 18], fun st => ∃ j : Nat, j ≤ p ∧ st = mkSt ([2, 3, 8, 9, 18, 19].zip [.slice none p fun i => strL (s i), .int .u32 by_, .ff, .ptr 9 0, .ptr 18 0, I j]) [(9, .cells [I (s 0).m, I (s 0).h, I (s 0).s, I (s 0).g]), (18, .cells [I (sumS s j).m, I (sumS s j).h, I (sumS s j).s, I (sumS s j).g])],
        fun st => p - (match st.slots 19 with | .int _ k => k.toNat | _ => 0), ?_, ?_⟩
      · exact ⟨_, sle_head (live := [2, 3, 8, 9, 18, 19]) [.slice none p fun i => strL (s i), .int .u32 by_, .ff, .ptr 9 0, .ptr 18 0, I (0 : Nat)] [.cells [I (s 0).m, I (s 0).h, I (s 0).s, I (s 0).g], .cells [I (sumS s 0).m, I (sumS s 0).h, I (sumS s 0).s, I (sumS s 0).g]] (.cons (.refl _) (.cons (.refl _) (.cons (.refl _) (.cons (.refl _) (.cons (.refl _) (.cons (.refl _) .nil)))))) (.cons (.refl _) (.cons (.refl _) .nil)), 0, Nat.zero_le _, rfl⟩
      · rintro st ⟨j, hj, rfl⟩
        have hbj := hbig j hj
        simp only [bigS] at hbj
        refine ⟨fun p2 => ?_, fun p2 => ?_⟩
        · have hlj : j < p := by simpa using p2
          clear p2
          have hxj := hxs j hlj
          simp only [okS] at hxj
          have e1 : IntKind.i64.wrap ((sumS s j).m + (s j).m) = (sumS s (j + 1)).m := w64 (by omega) (by omega)
          have e2 : IntKind.i64.wrap ((sumS s j).h + (s j).h) = (sumS s (j + 1)).h := w64 (by omega) (by omega)
          have e3 : IntKind.i64.wrap ((sumS s j).s + (s j).s) = (sumS s (j + 1)).s := w64 (by omega) (by omega)
          have e4 : IntKind.i64.wrap ((sumS s j).g + (s j).g) = (sumS s (j + 1)).g := w64 (by omega) (by omega)
          repeat' first
            | refine ⟨?_, ?_⟩
            | refine fun h => absurd h (by decide)
            | (refine fun h => ?_; exfalso; simp only [cond_true, cond_false, Bool.not_true, Bool.not_false, Bool.not_not, Bool.and_true, Bool.true_and, Bool.and_false, Bool.false_and, Bool.or_true, Bool.true_or, Bool.or_false, Bool.false_or, beq_self_eq_true, bne_self_eq_false, Bool.true_eq_false, Bool.false_eq_true, reduceCtorEq, Bool.and_self, decide_true, decide_false, ite_true, ite_false, eq_self] at h; done)
            | refine fun _ => ?_
            | refine ple_ok ?_
            | exact (rfl : @Eq (List PV) _ _)
            | refine Halt.mk ⟨_, sle_head (live := [2, 3, 8, 9, 18, 19]) [.slice none p fun i => strL (s i), .int .u32 by_, .ff, .ptr 9 0, .ptr 18 0, I (j + 1 : Nat)] [.cells [I (s 0).m, I (s 0).h, I (s 0).s, I (s 0).g], .cells [I (sumS s (j + 1)).m, I (sumS s (j + 1)).h, I (sumS s (j + 1)).s, I (sumS s (j + 1)).g]] (.cons (.refl _) (.cons (.refl _) (.cons (.refl _) (.cons (.refl _) (.cons (.refl _) (.cons (ple_ok ?_) .nil)))))) (.cons (.refl _) (.cons (.cellsL (.cons (ple_ok ?_) (.cons (ple_ok ?_) (.cons (ple_ok ?_) (.cons (ple_ok ?_) .nil))))) .nil)), ⟨j + 1, ?_, rfl⟩, ?_⟩
          all_goals first
            | trivial
            | rfl
            | omega
            | exact isTab.mk t (by omega) rfl
            | (show IntKind.i64.wrap ((j : Int) + 1) = ((j + 1 : Nat) : Int); rw [w64 (by omega) (by omega)]; omega)
            | (show p - (j + 1) < p - j; omega)
            | exact e1
            | exact e2
            | exact e3
            | exact e4
            | (show @Eq Bool _ _; simp only [cond_true, cond_false, Bool.not_true, Bool.not_false, Bool.not_not, Bool.and_true, Bool.true_and, Bool.and_false, Bool.false_and, Bool.or_true, Bool.true_or, Bool.or_false, Bool.false_or, beq_self_eq_true, bne_self_eq_false, Bool.true_eq_false, Bool.false_eq_true, reduceCtorEq, Bool.and_self, decide_true, decide_false, ite_true, ite_false, eq_self]; done)
            | skip
        · have : j = p := by
            have := of_decide_eq_false p2
            omega
          subst this
          have f0 : (0 : Int) ≤ IntKind.i64.wrap ((j : Int) - 1) := by rw [elast]; omega
          have f1 : IntKind.i64.wrap ((j : Int) - 1) < (j : Int) := by rw [elast]; omega
          have u1 : decide ((sumS s j).m ≤ 1000000) = true := decide_eq_true (by omega)
          have u2 : decide ((sumS s j).g ≤ 1000000000) = false := decide_eq_false (by omega)
          repeat' first
            | refine ⟨?_, ?_⟩
            | refine fun h => absurd h (by decide)
            | (refine fun h => ?_; exfalso; simp only [elast, eby, u1, u2, cond_true, cond_false, Bool.not_true, Bool.not_false, Bool.not_not, Bool.and_true, Bool.true_and, Bool.and_false, Bool.false_and, Bool.or_true, Bool.true_or, Bool.or_false, Bool.false_or, beq_self_eq_true, bne_self_eq_false, Bool.true_eq_false, Bool.false_eq_true, reduceCtorEq, Bool.and_self, decide_true, decide_false, ite_true, ite_false, eq_self] at h; done)
            | refine fun _ => ?_
            | refine ple_ok ?_
            | exact (rfl : @Eq (List PV) _ _)
          all_goals first
            | trivial
            | rfl
            | omega
            | exact isTab.mk t (by omega) rfl
            | exact hst
            | exact f0
            | exact f1
            | (show @Eq Bool _ _; simp only [elast, eby, u1, u2, cond_true, cond_false, Bool.not_true, Bool.not_false, Bool.not_not, Bool.and_true, Bool.true_and, Bool.and_false, Bool.false_and, Bool.or_true, Bool.true_or, Bool.or_false, Bool.false_or, beq_self_eq_true, bne_self_eq_false, Bool.true_eq_false, Bool.false_eq_true, reduceCtorEq, Bool.and_self, decide_true, decide_false, ite_true, ite_false, eq_self]; done)
            | skip
end Go.Proofs.Ytiidjohhcappdaa
