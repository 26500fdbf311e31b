/- Layer 1: the law on the deepest level. -/
import Derived.Test.YtiidjohhcappdaaS24
import Derived.Test.YtiidjohhcappdaaX2
namespace Go.Proofs.Ytiidjohhcappdaa
open Go.V
set_option linter.unusedSimpArgs false

def strs (m : Nat) (l : Nat → Stream) : PV := .slice none m fun i => strL (l i)
def awakeS : V.Spec := V.atS [] (.bool true)
theorem sf17' : SF Try.prog 17 awakeS := sf17
def noS : V.Spec := fun _ => (some False, .junk)
theorem sf_no {f : Nat} (h : HasBody Try.prog f) : SF Try.prog f noS := ⟨fun _ _ _ _ _ _ _ h => h.elim, h⟩

set_option maxRecDepth 100000 in
set_option maxHeartbeats 8000000 in
theorem deepA (n : Nat) (t : Nat → Row) (m : Nat) (l : Nat → Stream) (hn : 30 < n) : SF Try.prog 7 (V.atS [tab n t, strs m l] (.bool true)) := by
  have hg : decide ((30 : Int) < (n : Int)) = true := decide_eq_true (by omega)
  refine sf_of types_ok mixed (l := [(17, awakeS), (19, noS), (24, noS), (30, noS), (32, noS), (45, noS), (46, noS)]) ⟨sf17', sf_no sf19.2, sf_no sf24L.2, sf_no sf30.2, sf_no sf32.2, sf_no sf45.2, sf_no sf46.2, trivial⟩ (es := []) trivial 2 Try.func7 rfl (by kernel_rfl) fun args h => ?_
  cases (show args = _ from h)
  refine ⟨rfl, ?_⟩
  repeat' first
    | refine ⟨?_, ?_⟩
    | refine fun h => absurd h (by decide)
    | (refine fun h => ?_; exfalso; simp only [hg, cond_true, cond_false, Bool.not_true, Bool.not_false, Bool.not_not, Bool.and_true, Bool.true_and, Bool.and_false, Bool.false_and, Bool.or_true, Bool.true_or, Bool.or_false, Bool.false_or, beq_self_eq_true, bne_self_eq_false, Bool.true_eq_false, Bool.false_eq_true, reduceCtorEq, Bool.and_self, decide_true, decide_false] at h; done)
    | (refine fun h => ?_; exfalso; simp only [hg, cond_true, cond_false, Bool.not_true, Bool.not_false, Bool.not_not, Bool.and_true, Bool.true_and, Bool.and_false, Bool.false_and, Bool.or_true, Bool.true_or, Bool.or_false, Bool.false_or, beq_self_eq_true, bne_self_eq_false, Bool.true_eq_false, Bool.false_eq_true, reduceCtorEq, Bool.and_self, decide_true, decide_false, Bool.not_eq_true', Bool.not_eq_false', decide_eq_true_eq, decide_eq_false_iff_not, beq_iff_eq, bne_iff_ne, ne_eq, beq_eq_false_iff_ne, bne_eq_false_iff_eq] at h; omega)
    | refine fun _ => ?_
    | refine ple_ok ?_
    | exact (rfl : @Eq (List PV) _ _)
  all_goals first
    | trivial
    | rfl
    | omega
    | (show @Eq Bool _ _; simp only [hg, cond_true, cond_false, Bool.not_true, Bool.not_false, Bool.not_not, Bool.and_true, Bool.true_and, Bool.and_false, Bool.false_and, Bool.or_true, Bool.true_or, Bool.or_false, Bool.false_or, beq_self_eq_true, bne_self_eq_false, Bool.true_eq_false, Bool.false_eq_true, reduceCtorEq, Bool.and_self, decide_true, decide_false]; done)
    | exact isTab.mk t (by omega) rfl
    | exact isStrs.mk l (by omega) rfl
    | (simp only [hg, cond_true, cond_false, Bool.not_true, Bool.not_false, Bool.not_not, Bool.and_true, Bool.true_and, Bool.and_false, Bool.false_and, Bool.or_true, Bool.true_or, Bool.or_false, Bool.false_or, beq_self_eq_true, bne_self_eq_false, Bool.true_eq_false, Bool.false_eq_true, reduceCtorEq, Bool.and_self, decide_true, decide_false]; omega)
    | skip
set_option maxRecDepth 100000 in
set_option maxHeartbeats 8000000 in
theorem deepB (n : Nat) (t : Nat → Row) (m : Nat) (l : Nat → Stream) (hn : n ≤ 30) (hm : 45 < m) : SF Try.prog 7 (V.atS [tab n t, strs m l] (.bool true)) := by
  have hg : decide ((30 : Int) < (n : Int)) = false := decide_eq_false (by omega)
  have hg2 : decide ((45 : Int) < (m : Int)) = true := decide_eq_true (by omega)
  refine sf_of types_ok mixed (l := [(17, awakeS), (19, noS), (24, noS), (30, noS), (32, noS), (45, noS), (46, noS)]) ⟨sf17', sf_no sf19.2, sf_no sf24L.2, sf_no sf30.2, sf_no sf32.2, sf_no sf45.2, sf_no sf46.2, trivial⟩ (es := []) trivial 2 Try.func7 rfl (by kernel_rfl) fun args h => ?_
  cases (show args = _ from h)
  refine ⟨rfl, ?_⟩
  repeat' first
    | refine ⟨?_, ?_⟩
    | refine fun h => absurd h (by decide)
    | (refine fun h => ?_; exfalso; simp only [hg, hg2, cond_true, cond_false, Bool.not_true, Bool.not_false, Bool.not_not, Bool.and_true, Bool.true_and, Bool.and_false, Bool.false_and, Bool.or_true, Bool.true_or, Bool.or_false, Bool.false_or, beq_self_eq_true, bne_self_eq_false, Bool.true_eq_false, Bool.false_eq_true, reduceCtorEq, Bool.and_self, decide_true, decide_false] at h; done)
    | (refine fun h => ?_; exfalso; simp only [hg, hg2, cond_true, cond_false, Bool.not_true, Bool.not_false, Bool.not_not, Bool.and_true, Bool.true_and, Bool.and_false, Bool.false_and, Bool.or_true, Bool.true_or, Bool.or_false, Bool.false_or, beq_self_eq_true, bne_self_eq_false, Bool.true_eq_false, Bool.false_eq_true, reduceCtorEq, Bool.and_self, decide_true, decide_false, Bool.not_eq_true', Bool.not_eq_false', decide_eq_true_eq, decide_eq_false_iff_not, beq_iff_eq, bne_iff_ne, ne_eq, beq_eq_false_iff_ne, bne_eq_false_iff_eq] at h; omega)
    | refine fun _ => ?_
    | refine ple_ok ?_
    | exact (rfl : @Eq (List PV) _ _)
  all_goals first
    | trivial
    | rfl
    | omega
    | (show @Eq Bool _ _; simp only [hg, hg2, cond_true, cond_false, Bool.not_true, Bool.not_false, Bool.not_not, Bool.and_true, Bool.true_and, Bool.and_false, Bool.false_and, Bool.or_true, Bool.true_or, Bool.or_false, Bool.false_or, beq_self_eq_true, bne_self_eq_false, Bool.true_eq_false, Bool.false_eq_true, reduceCtorEq, Bool.and_self, decide_true, decide_false]; done)
    | exact isTab.mk t (by omega) rfl
    | exact isStrs.mk l (by omega) rfl
    | (simp only [hg, hg2, cond_true, cond_false, Bool.not_true, Bool.not_false, Bool.not_not, Bool.and_true, Bool.true_and, Bool.and_false, Bool.false_and, Bool.or_true, Bool.true_or, Bool.or_false, Bool.false_or, beq_self_eq_true, bne_self_eq_false, Bool.true_eq_false, Bool.false_eq_true, reduceCtorEq, Bool.and_self, decide_true, decide_false]; omega)
    | skip
set_option maxRecDepth 100000 in
set_option maxHeartbeats 8000000 in
theorem deepC (n : Nat) (t : Nat → Row) (m : Nat) (l : Nat → Stream) (hn : n ≤ 30) (hm : m ≤ 45) (hT : okTb n t = false) : SF Try.prog 7 (V.atS [tab n t, strs m l] (.bool true)) := by
  have hg : decide ((30 : Int) < (n : Int)) = false := decide_eq_false (by omega)
  have hg2 : decide ((45 : Int) < (m : Int)) = false := decide_eq_false (by omega)
  have h24 : SF Try.prog 24 (V.atS [tab n t] (.bool false)) := sf_at sf24L (isTabL.mk t (by omega) rfl) (by show PV.bool (okTb n t) = _; rw [hT])
  have h45 : SF Try.prog 45 (V.atS [tab n t, strs m l] (.tup [I 0, I 1])) := by
    refine sf_at sf45 (isTSw.mk t l (by omega) (by omega) (fun _ _ => rfl) (fun _ _ => rfl)) ?_
    show PV.tup [I (deepV n t m l), I (deepE n t m l)] = _
    have hE : deepE n t m l = 1 := by unfold deepE; rw [hT]; rfl
    have hV : deepV n t m l = 0 := if_neg (by rw [hE]; decide)
    rw [hV, hE]
  refine sf_of types_ok mixed (l := [(17, awakeS), (19, tabS), (24, _), (30, strsS), (32, noS), (45, _), (46, noS)]) ⟨sf17', sf19, h24, sf30, sf_no sf32.2, h45, sf_no sf46.2, trivial⟩ (es := []) trivial 2 Try.func7 rfl (by kernel_rfl) fun args h => ?_
  cases (show args = _ from h)
  refine ⟨rfl, ?_⟩
  repeat' first
    | refine ⟨?_, ?_⟩
    | refine fun h => absurd h (by decide)
    | (refine fun h => ?_; exfalso; simp only [hg, hg2, cond_true, cond_false, Bool.not_true, Bool.not_false, Bool.not_not, Bool.and_true, Bool.true_and, Bool.and_false, Bool.false_and, Bool.or_true, Bool.true_or, Bool.or_false, Bool.false_or, beq_self_eq_true, bne_self_eq_false, Bool.true_eq_false, Bool.false_eq_true, reduceCtorEq, Bool.and_self, decide_true, decide_false] at h; done)
    | (refine fun h => ?_; exfalso; simp only [hg, hg2, cond_true, cond_false, Bool.not_true, Bool.not_false, Bool.not_not, Bool.and_true, Bool.true_and, Bool.and_false, Bool.false_and, Bool.or_true, Bool.true_or, Bool.or_false, Bool.false_or, beq_self_eq_true, bne_self_eq_false, Bool.true_eq_false, Bool.false_eq_true, reduceCtorEq, Bool.and_self, decide_true, decide_false, Bool.not_eq_true', Bool.not_eq_false', decide_eq_true_eq, decide_eq_false_iff_not, beq_iff_eq, bne_iff_ne, ne_eq, beq_eq_false_iff_ne, bne_eq_false_iff_eq] at h; omega)
    | refine fun _ => ?_
    | refine ple_ok ?_
    | exact (rfl : @Eq (List PV) _ _)
  all_goals first
    | trivial
    | rfl
    | omega
    | (show @Eq Bool _ _; simp only [hg, hg2, cond_true, cond_false, Bool.not_true, Bool.not_false, Bool.not_not, Bool.and_true, Bool.true_and, Bool.and_false, Bool.false_and, Bool.or_true, Bool.true_or, Bool.or_false, Bool.false_or, beq_self_eq_true, bne_self_eq_false, Bool.true_eq_false, Bool.false_eq_true, reduceCtorEq, Bool.and_self, decide_true, decide_false]; done)
    | exact isTab.mk t (by omega) rfl
    | exact isStrs.mk l (by omega) rfl
    | (simp only [hg, hg2, cond_true, cond_false, Bool.not_true, Bool.not_false, Bool.not_not, Bool.and_true, Bool.true_and, Bool.and_false, Bool.false_and, Bool.or_true, Bool.true_or, Bool.or_false, Bool.false_or, beq_self_eq_true, bne_self_eq_false, Bool.true_eq_false, Bool.false_eq_true, reduceCtorEq, Bool.and_self, decide_true, decide_false]; omega)
    | skip
set_option maxRecDepth 100000 in
set_option maxHeartbeats 8000000 in
theorem deepD (n : Nat) (t : Nat → Row) (m : Nat) (l : Nat → Stream) (hn : n ≤ 30) (hm : m ≤ 45) (hT : okTb n t = true) (h40 : 40 < m) : SF Try.prog 7 (V.atS [tab n t, strs m l] (.bool true)) := by
  have hg : decide ((30 : Int) < (n : Int)) = false := decide_eq_false (by omega)
  have hg2 : decide ((45 : Int) < (m : Int)) = false := decide_eq_false (by omega)
  have hg3 : decide ((40 : Int) < (m : Int)) = true := decide_eq_true (by omega)
  have h24 : SF Try.prog 24 (V.atS [tab n t] (.bool true)) := sf_at sf24L (isTabL.mk t (by omega) rfl) (by show PV.bool (okTb n t) = _; rw [hT])
  have hc : chkStr m l = 3 := if_pos (by omega)
  have h45 : SF Try.prog 45 (V.atS [tab n t, strs m l] (.tup [I 0, I 3])) := by
    refine sf_at sf45 (isTSw.mk t l (by omega) (by omega) (fun _ _ => rfl) (fun _ _ => rfl)) ?_
    show PV.tup [I (deepV n t m l), I (deepE n t m l)] = _
    have hE : deepE n t m l = 3 := by unfold deepE; rw [hT, hc]; rfl
    have hV : deepV n t m l = 0 := if_neg (by rw [hE]; decide)
    rw [hV, hE]
  refine sf_of types_ok mixed (l := [(17, awakeS), (19, tabS), (24, _), (30, strsS), (32, noS), (45, _), (46, noS)]) ⟨sf17', sf19, h24, sf30, sf_no sf32.2, h45, sf_no sf46.2, trivial⟩ (es := []) trivial 2 Try.func7 rfl (by kernel_rfl) fun args h => ?_
  cases (show args = _ from h)
  refine ⟨rfl, ?_⟩
  repeat' first
    | refine ⟨?_, ?_⟩
    | refine fun h => absurd h (by decide)
    | (refine fun h => ?_; exfalso; simp only [hg, hg2, hg3, cond_true, cond_false, Bool.not_true, Bool.not_false, Bool.not_not, Bool.and_true, Bool.true_and, Bool.and_false, Bool.false_and, Bool.or_true, Bool.true_or, Bool.or_false, Bool.false_or, beq_self_eq_true, bne_self_eq_false, Bool.true_eq_false, Bool.false_eq_true, reduceCtorEq, Bool.and_self, decide_true, decide_false] at h; done)
    | (refine fun h => ?_; exfalso; simp only [hg, hg2, hg3, cond_true, cond_false, Bool.not_true, Bool.not_false, Bool.not_not, Bool.and_true, Bool.true_and, Bool.and_false, Bool.false_and, Bool.or_true, Bool.true_or, Bool.or_false, Bool.false_or, beq_self_eq_true, bne_self_eq_false, Bool.true_eq_false, Bool.false_eq_true, reduceCtorEq, Bool.and_self, decide_true, decide_false, Bool.not_eq_true', Bool.not_eq_false', decide_eq_true_eq, decide_eq_false_iff_not, beq_iff_eq, bne_iff_ne, ne_eq, beq_eq_false_iff_ne, bne_eq_false_iff_eq] at h; omega)
    | refine fun _ => ?_
    | refine ple_ok ?_
    | exact (rfl : @Eq (List PV) _ _)
  all_goals first
    | trivial
    | rfl
    | omega
    | (show @Eq Bool _ _; simp only [hg, hg2, hg3, cond_true, cond_false, Bool.not_true, Bool.not_false, Bool.not_not, Bool.and_true, Bool.true_and, Bool.and_false, Bool.false_and, Bool.or_true, Bool.true_or, Bool.or_false, Bool.false_or, beq_self_eq_true, bne_self_eq_false, Bool.true_eq_false, Bool.false_eq_true, reduceCtorEq, Bool.and_self, decide_true, decide_false]; done)
    | exact isTab.mk t (by omega) rfl
    | exact isStrs.mk l (by omega) rfl
    | (simp only [hg, hg2, hg3, cond_true, cond_false, Bool.not_true, Bool.not_false, Bool.not_not, Bool.and_true, Bool.true_and, Bool.and_false, Bool.false_and, Bool.or_true, Bool.true_or, Bool.or_false, Bool.false_or, beq_self_eq_true, bne_self_eq_false, Bool.true_eq_false, Bool.false_eq_true, reduceCtorEq, Bool.and_self, decide_true, decide_false]; omega)
    | skip
set_option maxRecDepth 100000 in
set_option maxHeartbeats 8000000 in
theorem deepZ (n : Nat) (t : Nat → Row) (l : Nat → Stream) (hn : n ≤ 30) (hT : okTb n t = true) : SF Try.prog 7 (V.atS [tab n t, strs 0 l] (.bool true)) := by
  have hg : decide ((30 : Int) < (n : Int)) = false := decide_eq_false (by omega)
  have h24 : SF Try.prog 24 (V.atS [tab n t] (.bool true)) := sf_at sf24L (isTabL.mk t (by omega) rfl) (by show PV.bool (okTb n t) = _; rw [hT])
  have hc : chkStr 0 l = 0 := by
    unfold chkStr
    rw [if_neg (by omega), allB_t (.zero _)]; rfl
  have h45 : SF Try.prog 45 (V.atS [tab n t, strs 0 l] (.tup [I 0, I 1])) := by
    refine sf_at sf45 (isTSw.mk t l (by omega) (by omega) (fun _ _ => rfl) (fun _ _ => rfl)) ?_
    show PV.tup [I (deepV n t 0 l), I (deepE n t 0 l)] = _
    have hE : deepE n t 0 l = 1 := by unfold deepE; rw [hT, hc]; rfl
    have hV : deepV n t 0 l = 0 := if_neg (by rw [hE]; decide)
    rw [hV, hE]
  refine sf_of types_ok mixed (l := [(17, awakeS), (19, tabS), (24, _), (30, strsS), (32, noS), (45, _), (46, noS)]) ⟨sf17', sf19, h24, sf30, sf_no sf32.2, h45, sf_no sf46.2, trivial⟩ (es := []) trivial 2 Try.func7 rfl (by kernel_rfl) fun args h => ?_
  cases (show args = _ from h)
  refine ⟨rfl, ?_⟩
  repeat' first
    | refine ⟨?_, ?_⟩
    | refine fun h => absurd h (by decide)
    | (refine fun h => ?_; exfalso; simp only [hg, cond_true, cond_false, Bool.not_true, Bool.not_false, Bool.not_not, Bool.and_true, Bool.true_and, Bool.and_false, Bool.false_and, Bool.or_true, Bool.true_or, Bool.or_false, Bool.false_or, beq_self_eq_true, bne_self_eq_false, Bool.true_eq_false, Bool.false_eq_true, reduceCtorEq, Bool.and_self, decide_true, decide_false] at h; done)
    | (refine fun h => ?_; exfalso; simp only [hg, cond_true, cond_false, Bool.not_true, Bool.not_false, Bool.not_not, Bool.and_true, Bool.true_and, Bool.and_false, Bool.false_and, Bool.or_true, Bool.true_or, Bool.or_false, Bool.false_or, beq_self_eq_true, bne_self_eq_false, Bool.true_eq_false, Bool.false_eq_true, reduceCtorEq, Bool.and_self, decide_true, decide_false, Bool.not_eq_true', Bool.not_eq_false', decide_eq_true_eq, decide_eq_false_iff_not, beq_iff_eq, bne_iff_ne, ne_eq, beq_eq_false_iff_ne, bne_eq_false_iff_eq] at h; omega)
    | refine fun _ => ?_
    | refine ple_ok ?_
    | exact (rfl : @Eq (List PV) _ _)
  all_goals first
    | trivial
    | rfl
    | omega
    | (show @Eq Bool _ _; simp only [hg, cond_true, cond_false, Bool.not_true, Bool.not_false, Bool.not_not, Bool.and_true, Bool.true_and, Bool.and_false, Bool.false_and, Bool.or_true, Bool.true_or, Bool.or_false, Bool.false_or, beq_self_eq_true, bne_self_eq_false, Bool.true_eq_false, Bool.false_eq_true, reduceCtorEq, Bool.and_self, decide_true, decide_false]; done)
    | exact isTab.mk t (by omega) rfl
    | exact isStrs.mk l (by omega) rfl
    | (simp only [hg, cond_true, cond_false, Bool.not_true, Bool.not_false, Bool.not_not, Bool.and_true, Bool.true_and, Bool.and_false, Bool.false_and, Bool.or_true, Bool.true_or, Bool.or_false, Bool.false_or, beq_self_eq_true, bne_self_eq_false, Bool.true_eq_false, Bool.false_eq_true, reduceCtorEq, Bool.and_self, decide_true, decide_false]; omega)
    | skip
set_option maxRecDepth 100000 in
set_option maxHeartbeats 8000000 in
theorem deepF (n : Nat) (t : Nat → Row) (m : Nat) (l : Nat → Stream) (hn : n ≤ 30) (hm : m ≤ 40) (hm0 : 0 < m) (hT : okTb n t = true) (hA : (allB m fun i => okS (l i)) = false) : SF Try.prog 7 (V.atS [tab n t, strs m l] (.bool true)) := by
  have hg : decide ((30 : Int) < (n : Int)) = false := decide_eq_false (by omega)
  have hg2 : decide ((45 : Int) < (m : Int)) = false := decide_eq_false (by omega)
  have hg3 : decide ((40 : Int) < (m : Int)) = false := decide_eq_false (by omega)
  have hg4 : ((m : Int) == 0) = false := by rw [beq_eq_false_iff_ne]; omega
  have h24 : SF Try.prog 24 (V.atS [tab n t] (.bool true)) := sf_at sf24L (isTabL.mk t (by omega) rfl) (by show PV.bool (okTb n t) = _; rw [hT])
  have hc : chkStr m l = 1 := by
    unfold chkStr
    rw [if_neg (by omega), hA]; rfl
  have h32 : SF Try.prog 32 (V.atS [strs m l] (.bool false)) := sf_at sf32 (isStrs.mk l (by omega) rfl) (by show PV.bool (allB m fun i => okS (l i)) = _; rw [hA])
  have h45 : SF Try.prog 45 (V.atS [tab n t, strs m l] (.tup [I 0, I 1])) := by
    refine sf_at sf45 (isTSw.mk t l (by omega) (by omega) (fun _ _ => rfl) (fun _ _ => rfl)) ?_
    show PV.tup [I (deepV n t m l), I (deepE n t m l)] = _
    have hE : deepE n t m l = 1 := by unfold deepE; rw [hT, hc]; rfl
    have hV : deepV n t m l = 0 := if_neg (by rw [hE]; decide)
    rw [hV, hE]
  refine sf_of types_ok mixed (l := [(17, awakeS), (19, tabS), (24, _), (30, strsS), (32, _), (45, _), (46, noS)]) ⟨sf17', sf19, h24, sf30, h32, h45, sf_no sf46.2, trivial⟩ (es := []) trivial 2 Try.func7 rfl (by kernel_rfl) fun args h => ?_
  cases (show args = _ from h)
  refine ⟨rfl, ?_⟩
  repeat' first
    | refine ⟨?_, ?_⟩
    | refine fun h => absurd h (by decide)
    | (refine fun h => ?_; exfalso; simp only [hg, hg2, hg3, hg4, cond_true, cond_false, Bool.not_true, Bool.not_false, Bool.not_not, Bool.and_true, Bool.true_and, Bool.and_false, Bool.false_and, Bool.or_true, Bool.true_or, Bool.or_false, Bool.false_or, beq_self_eq_true, bne_self_eq_false, Bool.true_eq_false, Bool.false_eq_true, reduceCtorEq, Bool.and_self, decide_true, decide_false] at h; done)
    | (refine fun h => ?_; exfalso; simp only [hg, hg2, hg3, hg4, cond_true, cond_false, Bool.not_true, Bool.not_false, Bool.not_not, Bool.and_true, Bool.true_and, Bool.and_false, Bool.false_and, Bool.or_true, Bool.true_or, Bool.or_false, Bool.false_or, beq_self_eq_true, bne_self_eq_false, Bool.true_eq_false, Bool.false_eq_true, reduceCtorEq, Bool.and_self, decide_true, decide_false, Bool.not_eq_true', Bool.not_eq_false', decide_eq_true_eq, decide_eq_false_iff_not, beq_iff_eq, bne_iff_ne, ne_eq, beq_eq_false_iff_ne, bne_eq_false_iff_eq] at h; omega)
    | refine fun _ => ?_
    | refine ple_ok ?_
    | exact (rfl : @Eq (List PV) _ _)
  all_goals first
    | trivial
    | rfl
    | omega
    | (show @Eq Bool _ _; simp only [hg, hg2, hg3, hg4, cond_true, cond_false, Bool.not_true, Bool.not_false, Bool.not_not, Bool.and_true, Bool.true_and, Bool.and_false, Bool.false_and, Bool.or_true, Bool.true_or, Bool.or_false, Bool.false_or, beq_self_eq_true, bne_self_eq_false, Bool.true_eq_false, Bool.false_eq_true, reduceCtorEq, Bool.and_self, decide_true, decide_false]; done)
    | exact isTab.mk t (by omega) rfl
    | exact isStrs.mk l (by omega) rfl
    | (simp only [hg, hg2, hg3, hg4, cond_true, cond_false, Bool.not_true, Bool.not_false, Bool.not_not, Bool.and_true, Bool.true_and, Bool.and_false, Bool.false_and, Bool.or_true, Bool.true_or, Bool.or_false, Bool.false_or, beq_self_eq_true, bne_self_eq_false, Bool.true_eq_false, Bool.false_eq_true, reduceCtorEq, Bool.and_self, decide_true, decide_false]; omega)
    | skip
set_option maxRecDepth 100000 in
set_option maxHeartbeats 8000000 in
theorem deepG (n : Nat) (t : Nat → Row) (m : Nat) (l : Nat → Stream) (hn : n ≤ 30) (hm : m ≤ 40) (hm0 : 0 < m) (hT : okTb n t = true) (hA : (allB m fun i => okS (l i)) = true) (hD : dp t m l n = n) : SF Try.prog 7 (V.atS [tab n t, strs m l] (.bool true)) := by
  have hg : decide ((30 : Int) < (n : Int)) = false := decide_eq_false (by omega)
  have hg2 : decide ((45 : Int) < (m : Int)) = false := decide_eq_false (by omega)
  have hg3 : decide ((40 : Int) < (m : Int)) = false := decide_eq_false (by omega)
  have hg4 : ((m : Int) == 0) = false := by rw [beq_eq_false_iff_ne]; omega
  have h24 : SF Try.prog 24 (V.atS [tab n t] (.bool true)) := sf_at sf24L (isTabL.mk t (by omega) rfl) (by show PV.bool (okTb n t) = _; rw [hT])
  have hok : okT n t := @of_decide_eq_true _ (Classical.propDecidable _) hT
  have hc : chkStr m l = 0 := by
    unfold chkStr
    rw [if_neg (by omega), hA]; rfl
  have h32 : SF Try.prog 32 (V.atS [strs m l] (.bool true)) := sf_at sf32 (isStrs.mk l (by omega) rfl) (by show PV.bool (allB m fun i => okS (l i)) = _; rw [hA])
  have h46 : SF Try.prog 46 (V.atS [tab n t, strs m l] (I (-1))) := sf_at sf46 (refDP.mk t l hok (by omega) (allB_get hA).all rfl rfl) (by show I (refDeepV n t m l) = _; unfold refDeepV; first | rw [if_pos hD] | rw [if_neg hD])
  have h45 : SF Try.prog 45 (V.atS [tab n t, strs m l] (.tup [I 0, I 7])) := by
    refine sf_at sf45 (isTSw.mk t l (by omega) (by omega) (fun _ _ => rfl) (fun _ _ => rfl)) ?_
    show PV.tup [I (deepV n t m l), I (deepE n t m l)] = _
    have hE : deepE n t m l = 7 := by unfold deepE; rw [hT, cond_true, if_pos hc, if_neg (by omega), if_pos hD]
    have hV : deepV n t m l = 0 := if_neg (by rw [hE]; decide)
    rw [hV, hE]
  refine sf_of types_ok mixed (l := [(17, awakeS), (19, tabS), (24, _), (30, strsS), (32, _), (45, _), (46, _)]) ⟨sf17', sf19, h24, sf30, h32, h45, h46, trivial⟩ (es := []) trivial 2 Try.func7 rfl (by kernel_rfl) fun args h => ?_
  cases (show args = _ from h)
  refine ⟨rfl, ?_⟩
  repeat' first
    | refine ⟨?_, ?_⟩
    | refine fun h => absurd h (by decide)
    | (refine fun h => ?_; exfalso; simp only [hg, hg2, hg3, hg4, cond_true, cond_false, Bool.not_true, Bool.not_false, Bool.not_not, Bool.and_true, Bool.true_and, Bool.and_false, Bool.false_and, Bool.or_true, Bool.true_or, Bool.or_false, Bool.false_or, beq_self_eq_true, bne_self_eq_false, Bool.true_eq_false, Bool.false_eq_true, reduceCtorEq, Bool.and_self, decide_true, decide_false] at h; done)
    | (refine fun h => ?_; exfalso; simp only [hg, hg2, hg3, hg4, cond_true, cond_false, Bool.not_true, Bool.not_false, Bool.not_not, Bool.and_true, Bool.true_and, Bool.and_false, Bool.false_and, Bool.or_true, Bool.true_or, Bool.or_false, Bool.false_or, beq_self_eq_true, bne_self_eq_false, Bool.true_eq_false, Bool.false_eq_true, reduceCtorEq, Bool.and_self, decide_true, decide_false, Bool.not_eq_true', Bool.not_eq_false', decide_eq_true_eq, decide_eq_false_iff_not, beq_iff_eq, bne_iff_ne, ne_eq, beq_eq_false_iff_ne, bne_eq_false_iff_eq] at h; omega)
    | refine fun _ => ?_
    | refine ple_ok ?_
    | exact (rfl : @Eq (List PV) _ _)
  all_goals first
    | trivial
    | rfl
    | omega
    | (show @Eq Bool _ _; simp only [hg, hg2, hg3, hg4, cond_true, cond_false, Bool.not_true, Bool.not_false, Bool.not_not, Bool.and_true, Bool.true_and, Bool.and_false, Bool.false_and, Bool.or_true, Bool.true_or, Bool.or_false, Bool.false_or, beq_self_eq_true, bne_self_eq_false, Bool.true_eq_false, Bool.false_eq_true, reduceCtorEq, Bool.and_self, decide_true, decide_false]; done)
    | exact isTab.mk t (by omega) rfl
    | exact isStrs.mk l (by omega) rfl
    | (simp only [hg, hg2, hg3, hg4, cond_true, cond_false, Bool.not_true, Bool.not_false, Bool.not_not, Bool.and_true, Bool.true_and, Bool.and_false, Bool.false_and, Bool.or_true, Bool.true_or, Bool.or_false, Bool.false_or, beq_self_eq_true, bne_self_eq_false, Bool.true_eq_false, Bool.false_eq_true, reduceCtorEq, Bool.and_self, decide_true, decide_false]; omega)
    | skip
set_option maxRecDepth 100000 in
set_option maxHeartbeats 8000000 in
theorem deepH (n : Nat) (t : Nat → Row) (m : Nat) (l : Nat → Stream) (hn : n ≤ 30) (hm : m ≤ 40) (hm0 : 0 < m) (hT : okTb n t = true) (hA : (allB m fun i => okS (l i)) = true) (hD : dp t m l n ≠ n) : SF Try.prog 7 (V.atS [tab n t, strs m l] (.bool true)) := by
  have hg : decide ((30 : Int) < (n : Int)) = false := decide_eq_false (by omega)
  have hg2 : decide ((45 : Int) < (m : Int)) = false := decide_eq_false (by omega)
  have hg3 : decide ((40 : Int) < (m : Int)) = false := decide_eq_false (by omega)
  have hg4 : ((m : Int) == 0) = false := by rw [beq_eq_false_iff_ne]; omega
  have h24 : SF Try.prog 24 (V.atS [tab n t] (.bool true)) := sf_at sf24L (isTabL.mk t (by omega) rfl) (by show PV.bool (okTb n t) = _; rw [hT])
  have hok : okT n t := @of_decide_eq_true _ (Classical.propDecidable _) hT
  have hc : chkStr m l = 0 := by
    unfold chkStr
    rw [if_neg (by omega), hA]; rfl
  have h32 : SF Try.prog 32 (V.atS [strs m l] (.bool true)) := sf_at sf32 (isStrs.mk l (by omega) rfl) (by show PV.bool (allB m fun i => okS (l i)) = _; rw [hA])
  have h46 : SF Try.prog 46 (V.atS [tab n t, strs m l] (I (dp t m l n : Int))) := sf_at sf46 (refDP.mk t l hok (by omega) (allB_get hA).all rfl rfl) (by show I (refDeepV n t m l) = _; unfold refDeepV; first | rw [if_pos hD] | rw [if_neg hD])
  have h45 : SF Try.prog 45 (V.atS [tab n t, strs m l] (.tup [I (dp t m l n : Int), I 0])) := by
    refine sf_at sf45 (isTSw.mk t l (by omega) (by omega) (fun _ _ => rfl) (fun _ _ => rfl)) ?_
    show PV.tup [I (deepV n t m l), I (deepE n t m l)] = _
    have hE : deepE n t m l = 0 := by unfold deepE; rw [hT, cond_true, if_pos hc, if_neg (by omega), if_neg hD]
    have hV : deepV n t m l = (dp t m l n : Int) := if_pos hE
    rw [hV, hE]
  have hd0 : decide ((dp t m l n : Int) < 0) = false := decide_eq_false (by omega)
  refine sf_of types_ok mixed (l := [(17, awakeS), (19, tabS), (24, _), (30, strsS), (32, _), (45, _), (46, _)]) ⟨sf17', sf19, h24, sf30, h32, h45, h46, trivial⟩ (es := []) trivial 2 Try.func7 rfl (by kernel_rfl) fun args h => ?_
  cases (show args = _ from h)
  refine ⟨rfl, ?_⟩
  repeat' first
    | refine ⟨?_, ?_⟩
    | refine fun h => absurd h (by decide)
    | (refine fun h => ?_; exfalso; simp only [hg, hg2, hg3, hg4, hd0, cond_true, cond_false, Bool.not_true, Bool.not_false, Bool.not_not, Bool.and_true, Bool.true_and, Bool.and_false, Bool.false_and, Bool.or_true, Bool.true_or, Bool.or_false, Bool.false_or, beq_self_eq_true, bne_self_eq_false, Bool.true_eq_false, Bool.false_eq_true, reduceCtorEq, Bool.and_self, decide_true, decide_false] at h; done)
    | (refine fun h => ?_; exfalso; simp only [hg, hg2, hg3, hg4, hd0, cond_true, cond_false, Bool.not_true, Bool.not_false, Bool.not_not, Bool.and_true, Bool.true_and, Bool.and_false, Bool.false_and, Bool.or_true, Bool.true_or, Bool.or_false, Bool.false_or, beq_self_eq_true, bne_self_eq_false, Bool.true_eq_false, Bool.false_eq_true, reduceCtorEq, Bool.and_self, decide_true, decide_false, Bool.not_eq_true', Bool.not_eq_false', decide_eq_true_eq, decide_eq_false_iff_not, beq_iff_eq, bne_iff_ne, ne_eq, beq_eq_false_iff_ne, bne_eq_false_iff_eq] at h; omega)
    | refine fun _ => ?_
    | refine ple_ok ?_
    | exact (rfl : @Eq (List PV) _ _)
  all_goals first
    | trivial
    | rfl
    | omega
    | (show @Eq Bool _ _; simp only [hg, hg2, hg3, hg4, hd0, cond_true, cond_false, Bool.not_true, Bool.not_false, Bool.not_not, Bool.and_true, Bool.true_and, Bool.and_false, Bool.false_and, Bool.or_true, Bool.true_or, Bool.or_false, Bool.false_or, beq_self_eq_true, bne_self_eq_false, Bool.true_eq_false, Bool.false_eq_true, reduceCtorEq, Bool.and_self, decide_true, decide_false]; done)
    | exact isTab.mk t (by omega) rfl
    | exact isStrs.mk l (by omega) rfl
    | (simp only [hg, hg2, hg3, hg4, hd0, cond_true, cond_false, Bool.not_true, Bool.not_false, Bool.not_not, Bool.and_true, Bool.true_and, Bool.and_false, Bool.false_and, Bool.or_true, Bool.true_or, Bool.or_false, Bool.false_or, beq_self_eq_true, bne_self_eq_false, Bool.true_eq_false, Bool.false_eq_true, reduceCtorEq, Bool.and_self, decide_true, decide_false]; omega)
    | skip
end Go.Proofs.Ytiidjohhcappdaa
