/- Layer 1: the law on bounds. -/
import Derived.Test.YtiidjohhcappdaaS23
import Derived.Test.YtiidjohhcappdaaX2
namespace Go.Proofs.Ytiidjohhcappdaa
open Go.V
set_option linter.unusedSimpArgs false

def awakeS : V.Spec := V.atS [] (.bool true)
theorem sf17' : SF Try.prog 17 awakeS := sf17
def noS : V.Spec := fun _ => (some False, .junk)
theorem sf_no {f : Nat} (h : HasBody Try.prog f) : SF Try.prog f noS := ⟨fun _ _ _ _ _ _ _ h => h.elim, h⟩

set_option maxRecDepth 100000 in
set_option maxHeartbeats 8000000 in
theorem boundsA (n : Nat) (t : Nat → Row) (lv m h0 h1 s0 s1 : Int) (hn : 30 < n) : SF Try.prog 8 (V.atS [tab n t, I lv, I m, .agg [I h0, I h1], .agg [I s0, I s1]] (.bool true)) := by
  have hg : decide ((30 : Int) < (n : Int)) = true := decide_eq_true (by omega)
  refine sf_of types_ok mixed (l := [(17, awakeS), (19, noS), (24, noS), (27, inS), (47, noS), (48, rangeS), (49, rrS), (50, noS)]) ⟨sf17', sf_no sf19.2, sf_no sf24L.2, sf27, sf_no sf47.2, sf48, sf49, sf_no sf50.2, trivial⟩ (es := []) trivial 5 Try.func8 rfl (by kernel_rfl) fun args h => ?_
  cases (show args = _ from h)
  refine ⟨rfl, ?_⟩
  repeat' first
    | refine ⟨?_, ?_⟩
    | refine fun h => absurd h (by decide)
    | (refine fun h => ?_; exfalso; simp only [hg, cond_true, cond_false, Bool.not_true, Bool.not_false, Bool.not_not, Bool.and_true, Bool.true_and, Bool.and_false, Bool.false_and, Bool.or_true, Bool.true_or, Bool.or_false, Bool.false_or, beq_self_eq_true, bne_self_eq_false, Bool.true_eq_false, Bool.false_eq_true, reduceCtorEq, Bool.and_self, decide_true, decide_false] at h; done)
    | (refine fun h => ?_; exfalso; simp only [hg, cond_true, cond_false, Bool.not_true, Bool.not_false, Bool.not_not, Bool.and_true, Bool.true_and, Bool.and_false, Bool.false_and, Bool.or_true, Bool.true_or, Bool.or_false, Bool.false_or, beq_self_eq_true, bne_self_eq_false, Bool.true_eq_false, Bool.false_eq_true, reduceCtorEq, Bool.and_self, decide_true, decide_false, Bool.not_eq_true', Bool.not_eq_false', decide_eq_true_eq, decide_eq_false_iff_not, beq_iff_eq, bne_iff_ne, ne_eq, beq_eq_false_iff_ne, bne_eq_false_iff_eq] at h; omega)
    | refine fun _ => ?_
    | refine ple_ok ?_
    | exact (rfl : @Eq (List PV) _ _)
  all_goals first
    | trivial
    | rfl
    | omega
    | (show @Eq Bool _ _; simp only [hg, cond_true, cond_false, Bool.not_true, Bool.not_false, Bool.not_not, Bool.and_true, Bool.true_and, Bool.and_false, Bool.false_and, Bool.or_true, Bool.true_or, Bool.or_false, Bool.false_or, beq_self_eq_true, bne_self_eq_false, Bool.true_eq_false, Bool.false_eq_true, reduceCtorEq, Bool.and_self, decide_true, decide_false]; done)
    | exact .mk t (by omega) rfl
    | (simp only [hg, cond_true, cond_false, Bool.not_true, Bool.not_false, Bool.not_not, Bool.and_true, Bool.true_and, Bool.and_false, Bool.false_and, Bool.or_true, Bool.true_or, Bool.or_false, Bool.false_or, beq_self_eq_true, bne_self_eq_false, Bool.true_eq_false, Bool.false_eq_true, reduceCtorEq, Bool.and_self, decide_true, decide_false]; omega)
    | skip
set_option maxRecDepth 100000 in
set_option maxHeartbeats 8000000 in
theorem boundsB (n : Nat) (t : Nat → Row) (lv m h0 h1 s0 s1 : Int) (hn : n ≤ 30) (hT : okTb n t = false) : SF Try.prog 8 (V.atS [tab n t, I lv, I m, .agg [I h0, I h1], .agg [I s0, I s1]] (.bool true)) := by
  have hg : decide ((30 : Int) < (n : Int)) = false := decide_eq_false (by omega)
  have h24 : SF Try.prog 24 (V.atS [tab n t] (.bool false)) := sf_at sf24L (isTabL.mk t (by omega) rfl) (by show PV.bool (okTb n t) = _; rw [hT])
  have he : err1 n t lv = 1 := by unfold err1; rw [hT]; rfl
  have hB : bdE n t lv m h0 h1 s0 s1 = 1 := (if_neg (by rw [he]; decide)).trans he
  have h47 : SF Try.prog 47 (V.atS [tab n t, I lv, I m, .agg [I h0, I h1], .agg [I s0, I s1]] (.tup [.agg [I 0, I 0], .agg [I 0, I 0], I 1])) := by
    refine sf_at sf47 (isTab.mk t (by omega) rfl) ?_
    show bdR n t lv m h0 h1 s0 s1 = _
    have hV : ∀ h s, bdP n t lv m h0 h1 s0 s1 h s = zeroP := fun h s => if_neg (by rw [hB]; decide)
    unfold bdR
    rw [hB, hV, hV]
    rfl
  refine sf_of types_ok mixed (l := [(17, awakeS), (19, tabS), (24, _), (27, inS), (47, _), (48, rangeS), (49, rrS), (50, noS)]) ⟨sf17', sf19, h24, sf27, h47, sf48, sf49, sf_no sf50.2, trivial⟩ (es := []) trivial 5 Try.func8 rfl (by kernel_rfl) fun args h => ?_
  cases (show args = _ from h)
  refine ⟨rfl, ?_⟩
  repeat' first
    | refine ⟨?_, ?_⟩
    | refine fun h => absurd h (by decide)
    | (refine fun h => ?_; exfalso; simp only [hg, cond_true, cond_false, Bool.not_true, Bool.not_false, Bool.not_not, Bool.and_true, Bool.true_and, Bool.and_false, Bool.false_and, Bool.or_true, Bool.true_or, Bool.or_false, Bool.false_or, beq_self_eq_true, bne_self_eq_false, Bool.true_eq_false, Bool.false_eq_true, reduceCtorEq, Bool.and_self, decide_true, decide_false] at h; done)
    | (refine fun h => ?_; exfalso; simp only [hg, cond_true, cond_false, Bool.not_true, Bool.not_false, Bool.not_not, Bool.and_true, Bool.true_and, Bool.and_false, Bool.false_and, Bool.or_true, Bool.true_or, Bool.or_false, Bool.false_or, beq_self_eq_true, bne_self_eq_false, Bool.true_eq_false, Bool.false_eq_true, reduceCtorEq, Bool.and_self, decide_true, decide_false, Bool.not_eq_true', Bool.not_eq_false', decide_eq_true_eq, decide_eq_false_iff_not, beq_iff_eq, bne_iff_ne, ne_eq, beq_eq_false_iff_ne, bne_eq_false_iff_eq] at h; omega)
    | refine fun _ => ?_
    | refine ple_ok ?_
    | exact (rfl : @Eq (List PV) _ _)
  all_goals first
    | trivial
    | rfl
    | omega
    | (show @Eq Bool _ _; simp only [hg, cond_true, cond_false, Bool.not_true, Bool.not_false, Bool.not_not, Bool.and_true, Bool.true_and, Bool.and_false, Bool.false_and, Bool.or_true, Bool.true_or, Bool.or_false, Bool.false_or, beq_self_eq_true, bne_self_eq_false, Bool.true_eq_false, Bool.false_eq_true, reduceCtorEq, Bool.and_self, decide_true, decide_false]; done)
    | exact .mk t (by omega) rfl
    | (simp only [hg, cond_true, cond_false, Bool.not_true, Bool.not_false, Bool.not_not, Bool.and_true, Bool.true_and, Bool.and_false, Bool.false_and, Bool.or_true, Bool.true_or, Bool.or_false, Bool.false_or, beq_self_eq_true, bne_self_eq_false, Bool.true_eq_false, Bool.false_eq_true, reduceCtorEq, Bool.and_self, decide_true, decide_false]; omega)
    | skip
set_option maxRecDepth 100000 in
set_option maxHeartbeats 8000000 in
theorem boundsC (n : Nat) (t : Nat → Row) (lv m h0 h1 s0 s1 : Int) (hn : n ≤ 30) (hT : okTb n t = true) (hl : decide (0 ≤ lv ∧ lv ≤ (n : Int) - 1) = false) : SF Try.prog 8 (V.atS [tab n t, I lv, I m, .agg [I h0, I h1], .agg [I s0, I s1]] (.bool true)) := by
  have hg : decide ((30 : Int) < (n : Int)) = false := decide_eq_false (by omega)
  have h24 : SF Try.prog 24 (V.atS [tab n t] (.bool true)) := sf_at sf24L (isTabL.mk t (by omega) rfl) (by show PV.bool (okTb n t) = _; rw [hT])
  have hok : okT n t := @of_decide_eq_true _ (Classical.propDecidable _) hT
  have hn2 := hok.1
  have hn20 := hok.2.1
  have ew : IntKind.i64.wrap ((n : Int) - 1) = (n : Int) - 1 := w64 (by omega) (by omega)
  have he : err1 n t lv = 2 := by unfold err1; rw [hT, if_neg (of_decide_eq_false hl)]; rfl
  have hB : bdE n t lv m h0 h1 s0 s1 = 2 := (if_neg (by rw [he]; decide)).trans he
  have h47 : SF Try.prog 47 (V.atS [tab n t, I lv, I m, .agg [I h0, I h1], .agg [I s0, I s1]] (.tup [.agg [I 0, I 0], .agg [I 0, I 0], I 2])) := by
    refine sf_at sf47 (isTab.mk t (by omega) rfl) ?_
    show bdR n t lv m h0 h1 s0 s1 = _
    have hV : ∀ h s, bdP n t lv m h0 h1 s0 s1 h s = zeroP := fun h s => if_neg (by rw [hB]; decide)
    unfold bdR
    rw [hB, hV, hV]
    rfl
  refine sf_of types_ok mixed (l := [(17, awakeS), (19, tabS), (24, _), (27, inS), (47, _), (48, rangeS), (49, rrS), (50, noS)]) ⟨sf17', sf19, h24, sf27, h47, sf48, sf49, sf_no sf50.2, trivial⟩ (es := []) trivial 5 Try.func8 rfl (by kernel_rfl) fun args h => ?_
  cases (show args = _ from h)
  refine ⟨rfl, ?_⟩
  repeat' first
    | refine ⟨?_, ?_⟩
    | refine fun h => absurd h (by decide)
    | (refine fun h => ?_; exfalso; simp only [hg, ew, hl, cond_true, cond_false, Bool.not_true, Bool.not_false, Bool.not_not, Bool.and_true, Bool.true_and, Bool.and_false, Bool.false_and, Bool.or_true, Bool.true_or, Bool.or_false, Bool.false_or, beq_self_eq_true, bne_self_eq_false, Bool.true_eq_false, Bool.false_eq_true, reduceCtorEq, Bool.and_self, decide_true, decide_false] at h; done)
    | (refine fun h => ?_; exfalso; simp only [hg, ew, hl, cond_true, cond_false, Bool.not_true, Bool.not_false, Bool.not_not, Bool.and_true, Bool.true_and, Bool.and_false, Bool.false_and, Bool.or_true, Bool.true_or, Bool.or_false, Bool.false_or, beq_self_eq_true, bne_self_eq_false, Bool.true_eq_false, Bool.false_eq_true, reduceCtorEq, Bool.and_self, decide_true, decide_false, Bool.not_eq_true', Bool.not_eq_false', decide_eq_true_eq, decide_eq_false_iff_not, beq_iff_eq, bne_iff_ne, ne_eq, beq_eq_false_iff_ne, bne_eq_false_iff_eq] at h; omega)
    | refine fun _ => ?_
    | refine ple_ok ?_
    | exact (rfl : @Eq (List PV) _ _)
  all_goals first
    | trivial
    | rfl
    | omega
    | (show @Eq Bool _ _; simp only [hg, ew, hl, cond_true, cond_false, Bool.not_true, Bool.not_false, Bool.not_not, Bool.and_true, Bool.true_and, Bool.and_false, Bool.false_and, Bool.or_true, Bool.true_or, Bool.or_false, Bool.false_or, beq_self_eq_true, bne_self_eq_false, Bool.true_eq_false, Bool.false_eq_true, reduceCtorEq, Bool.and_self, decide_true, decide_false]; done)
    | exact .mk t (by omega) rfl
    | (simp only [hg, ew, hl, cond_true, cond_false, Bool.not_true, Bool.not_false, Bool.not_not, Bool.and_true, Bool.true_and, Bool.and_false, Bool.false_and, Bool.or_true, Bool.true_or, Bool.or_false, Bool.false_or, beq_self_eq_true, bne_self_eq_false, Bool.true_eq_false, Bool.false_eq_true, reduceCtorEq, Bool.and_self, decide_true, decide_false]; omega)
    | skip
set_option maxRecDepth 100000 in
set_option maxHeartbeats 8000000 in
theorem boundsD (n : Nat) (t : Nat → Row) (lv m h0 h1 s0 s1 : Int) (hn : n ≤ 30) (hT : okTb n t = true) (hl : decide (0 ≤ lv ∧ lv ≤ (n : Int) - 1) = true) (hm : decide (0 ≤ m ∧ m ≤ 1000000) = false) : SF Try.prog 8 (V.atS [tab n t, I lv, I m, .agg [I h0, I h1], .agg [I s0, I s1]] (.bool true)) := by
  have hg : decide ((30 : Int) < (n : Int)) = false := decide_eq_false (by omega)
  have h24 : SF Try.prog 24 (V.atS [tab n t] (.bool true)) := sf_at sf24L (isTabL.mk t (by omega) rfl) (by show PV.bool (okTb n t) = _; rw [hT])
  have hok : okT n t := @of_decide_eq_true _ (Classical.propDecidable _) hT
  have hn2 := hok.1
  have hn20 := hok.2.1
  have ew : IntKind.i64.wrap ((n : Int) - 1) = (n : Int) - 1 := w64 (by omega) (by omega)
  have he : err1 n t lv = 0 := by unfold err1; rw [hT, if_pos (of_decide_eq_true hl)]; rfl
  have hb : ¬ bdOk m h0 h1 s0 s1 := by
    intro hb
    simp only [bdOk, okS] at hb
    have hz := of_decide_eq_false hm
    exact hz (by omega)
  have hB : bdE n t lv m h0 h1 s0 s1 = 1 := (if_pos he).trans (if_neg hb)
  have h47 : SF Try.prog 47 (V.atS [tab n t, I lv, I m, .agg [I h0, I h1], .agg [I s0, I s1]] (.tup [.agg [I 0, I 0], .agg [I 0, I 0], I 1])) := by
    refine sf_at sf47 (isTab.mk t (by omega) rfl) ?_
    show bdR n t lv m h0 h1 s0 s1 = _
    have hV : ∀ h s, bdP n t lv m h0 h1 s0 s1 h s = zeroP := fun h s => if_neg (by rw [hB]; decide)
    unfold bdR
    rw [hB, hV, hV]
    rfl
  refine sf_of types_ok mixed (l := [(17, awakeS), (19, tabS), (24, _), (27, inS), (47, _), (48, rangeS), (49, rrS), (50, noS)]) ⟨sf17', sf19, h24, sf27, h47, sf48, sf49, sf_no sf50.2, trivial⟩ (es := []) trivial 5 Try.func8 rfl (by kernel_rfl) fun args h => ?_
  cases (show args = _ from h)
  refine ⟨rfl, ?_⟩
  repeat' first
    | refine ⟨?_, ?_⟩
    | refine fun h => absurd h (by decide)
    | (refine fun h => ?_; exfalso; simp only [hg, ew, hl, hm, cond_true, cond_false, Bool.not_true, Bool.not_false, Bool.not_not, Bool.and_true, Bool.true_and, Bool.and_false, Bool.false_and, Bool.or_true, Bool.true_or, Bool.or_false, Bool.false_or, beq_self_eq_true, bne_self_eq_false, Bool.true_eq_false, Bool.false_eq_true, reduceCtorEq, Bool.and_self, decide_true, decide_false] at h; done)
    | (refine fun h => ?_; exfalso; simp only [hg, ew, hl, hm, cond_true, cond_false, Bool.not_true, Bool.not_false, Bool.not_not, Bool.and_true, Bool.true_and, Bool.and_false, Bool.false_and, Bool.or_true, Bool.true_or, Bool.or_false, Bool.false_or, beq_self_eq_true, bne_self_eq_false, Bool.true_eq_false, Bool.false_eq_true, reduceCtorEq, Bool.and_self, decide_true, decide_false, Bool.not_eq_true', Bool.not_eq_false', decide_eq_true_eq, decide_eq_false_iff_not, beq_iff_eq, bne_iff_ne, ne_eq, beq_eq_false_iff_ne, bne_eq_false_iff_eq] at h; omega)
    | refine fun _ => ?_
    | refine ple_ok ?_
    | exact (rfl : @Eq (List PV) _ _)
  all_goals first
    | trivial
    | rfl
    | omega
    | (show @Eq Bool _ _; simp only [hg, ew, hl, hm, cond_true, cond_false, Bool.not_true, Bool.not_false, Bool.not_not, Bool.and_true, Bool.true_and, Bool.and_false, Bool.false_and, Bool.or_true, Bool.true_or, Bool.or_false, Bool.false_or, beq_self_eq_true, bne_self_eq_false, Bool.true_eq_false, Bool.false_eq_true, reduceCtorEq, Bool.and_self, decide_true, decide_false]; done)
    | exact .mk t (by omega) rfl
    | (simp only [hg, ew, hl, hm, cond_true, cond_false, Bool.not_true, Bool.not_false, Bool.not_not, Bool.and_true, Bool.true_and, Bool.and_false, Bool.false_and, Bool.or_true, Bool.true_or, Bool.or_false, Bool.false_or, beq_self_eq_true, bne_self_eq_false, Bool.true_eq_false, Bool.false_eq_true, reduceCtorEq, Bool.and_self, decide_true, decide_false]; omega)
    | skip
set_option maxRecDepth 100000 in
set_option maxHeartbeats 8000000 in
theorem boundsE (n : Nat) (t : Nat → Row) (lv m h0 h1 s0 s1 : Int) (hn : n ≤ 30) (hT : okTb n t = true) (hl : decide (0 ≤ lv ∧ lv ≤ (n : Int) - 1) = true) (hm : decide (0 ≤ m ∧ m ≤ 1000000) = true) (hh : decide (0 ≤ h0 ∧ h0 ≤ h1 ∧ h1 ≤ 4000 * m) = false) : SF Try.prog 8 (V.atS [tab n t, I lv, I m, .agg [I h0, I h1], .agg [I s0, I s1]] (.bool true)) := by
  have hg : decide ((30 : Int) < (n : Int)) = false := decide_eq_false (by omega)
  have h24 : SF Try.prog 24 (V.atS [tab n t] (.bool true)) := sf_at sf24L (isTabL.mk t (by omega) rfl) (by show PV.bool (okTb n t) = _; rw [hT])
  have hok : okT n t := @of_decide_eq_true _ (Classical.propDecidable _) hT
  have hn2 := hok.1
  have hn20 := hok.2.1
  have ew : IntKind.i64.wrap ((n : Int) - 1) = (n : Int) - 1 := w64 (by omega) (by omega)
  have he : err1 n t lv = 0 := by unfold err1; rw [hT, if_pos (of_decide_eq_true hl)]; rfl
  have hm' := of_decide_eq_true hm
  have ew4 : IntKind.i64.wrap (4000 * m) = 4000 * m := w64 (by omega) (by omega)
  have ew1 : IntKind.i64.wrap (10000 * m) = 10000 * m := w64 (by omega) (by omega)
  have hb : ¬ bdOk m h0 h1 s0 s1 := by
    intro hb
    simp only [bdOk, okS] at hb
    have hz := of_decide_eq_false hh
    exact hz (by omega)
  have hB : bdE n t lv m h0 h1 s0 s1 = 1 := (if_pos he).trans (if_neg hb)
  have h47 : SF Try.prog 47 (V.atS [tab n t, I lv, I m, .agg [I h0, I h1], .agg [I s0, I s1]] (.tup [.agg [I 0, I 0], .agg [I 0, I 0], I 1])) := by
    refine sf_at sf47 (isTab.mk t (by omega) rfl) ?_
    show bdR n t lv m h0 h1 s0 s1 = _
    have hV : ∀ h s, bdP n t lv m h0 h1 s0 s1 h s = zeroP := fun h s => if_neg (by rw [hB]; decide)
    unfold bdR
    rw [hB, hV, hV]
    rfl
  refine sf_of types_ok mixed (l := [(17, awakeS), (19, tabS), (24, _), (27, inS), (47, _), (48, rangeS), (49, rrS), (50, noS)]) ⟨sf17', sf19, h24, sf27, h47, sf48, sf49, sf_no sf50.2, trivial⟩ (es := []) trivial 5 Try.func8 rfl (by kernel_rfl) fun args h => ?_
  cases (show args = _ from h)
  refine ⟨rfl, ?_⟩
  repeat' first
    | refine ⟨?_, ?_⟩
    | refine fun h => absurd h (by decide)
    | (refine fun h => ?_; exfalso; simp only [hg, ew, hl, hm, ew4, ew1, hh, cond_true, cond_false, Bool.not_true, Bool.not_false, Bool.not_not, Bool.and_true, Bool.true_and, Bool.and_false, Bool.false_and, Bool.or_true, Bool.true_or, Bool.or_false, Bool.false_or, beq_self_eq_true, bne_self_eq_false, Bool.true_eq_false, Bool.false_eq_true, reduceCtorEq, Bool.and_self, decide_true, decide_false] at h; done)
    | (refine fun h => ?_; exfalso; simp only [hg, ew, hl, hm, ew4, ew1, hh, cond_true, cond_false, Bool.not_true, Bool.not_false, Bool.not_not, Bool.and_true, Bool.true_and, Bool.and_false, Bool.false_and, Bool.or_true, Bool.true_or, Bool.or_false, Bool.false_or, beq_self_eq_true, bne_self_eq_false, Bool.true_eq_false, Bool.false_eq_true, reduceCtorEq, Bool.and_self, decide_true, decide_false, Bool.not_eq_true', Bool.not_eq_false', decide_eq_true_eq, decide_eq_false_iff_not, beq_iff_eq, bne_iff_ne, ne_eq, beq_eq_false_iff_ne, bne_eq_false_iff_eq] at h; omega)
    | refine fun _ => ?_
    | refine ple_ok ?_
    | exact (rfl : @Eq (List PV) _ _)
  all_goals first
    | trivial
    | rfl
    | omega
    | (show @Eq Bool _ _; simp only [hg, ew, hl, hm, ew4, ew1, hh, cond_true, cond_false, Bool.not_true, Bool.not_false, Bool.not_not, Bool.and_true, Bool.true_and, Bool.and_false, Bool.false_and, Bool.or_true, Bool.true_or, Bool.or_false, Bool.false_or, beq_self_eq_true, bne_self_eq_false, Bool.true_eq_false, Bool.false_eq_true, reduceCtorEq, Bool.and_self, decide_true, decide_false]; done)
    | exact .mk t (by omega) rfl
    | (simp only [hg, ew, hl, hm, ew4, ew1, hh, cond_true, cond_false, Bool.not_true, Bool.not_false, Bool.not_not, Bool.and_true, Bool.true_and, Bool.and_false, Bool.false_and, Bool.or_true, Bool.true_or, Bool.or_false, Bool.false_or, beq_self_eq_true, bne_self_eq_false, Bool.true_eq_false, Bool.false_eq_true, reduceCtorEq, Bool.and_self, decide_true, decide_false]; omega)
    | skip
set_option maxRecDepth 100000 in
set_option maxHeartbeats 8000000 in
theorem boundsF (n : Nat) (t : Nat → Row) (lv m h0 h1 s0 s1 : Int) (hn : n ≤ 30) (hT : okTb n t = true) (hl : decide (0 ≤ lv ∧ lv ≤ (n : Int) - 1) = true) (hm : decide (0 ≤ m ∧ m ≤ 1000000) = true) (hh : decide (0 ≤ h0 ∧ h0 ≤ h1 ∧ h1 ≤ 4000 * m) = true) (hs : decide (0 ≤ s0 ∧ s0 ≤ s1 ∧ s1 ≤ 10000 * m) = false) : SF Try.prog 8 (V.atS [tab n t, I lv, I m, .agg [I h0, I h1], .agg [I s0, I s1]] (.bool true)) := by
  have hg : decide ((30 : Int) < (n : Int)) = false := decide_eq_false (by omega)
  have h24 : SF Try.prog 24 (V.atS [tab n t] (.bool true)) := sf_at sf24L (isTabL.mk t (by omega) rfl) (by show PV.bool (okTb n t) = _; rw [hT])
  have hok : okT n t := @of_decide_eq_true _ (Classical.propDecidable _) hT
  have hn2 := hok.1
  have hn20 := hok.2.1
  have ew : IntKind.i64.wrap ((n : Int) - 1) = (n : Int) - 1 := w64 (by omega) (by omega)
  have he : err1 n t lv = 0 := by unfold err1; rw [hT, if_pos (of_decide_eq_true hl)]; rfl
  have hm' := of_decide_eq_true hm
  have ew4 : IntKind.i64.wrap (4000 * m) = 4000 * m := w64 (by omega) (by omega)
  have ew1 : IntKind.i64.wrap (10000 * m) = 10000 * m := w64 (by omega) (by omega)
  have hb : ¬ bdOk m h0 h1 s0 s1 := by
    intro hb
    simp only [bdOk, okS] at hb
    have hz := of_decide_eq_false hs
    exact hz (by omega)
  have hB : bdE n t lv m h0 h1 s0 s1 = 1 := (if_pos he).trans (if_neg hb)
  have h47 : SF Try.prog 47 (V.atS [tab n t, I lv, I m, .agg [I h0, I h1], .agg [I s0, I s1]] (.tup [.agg [I 0, I 0], .agg [I 0, I 0], I 1])) := by
    refine sf_at sf47 (isTab.mk t (by omega) rfl) ?_
    show bdR n t lv m h0 h1 s0 s1 = _
    have hV : ∀ h s, bdP n t lv m h0 h1 s0 s1 h s = zeroP := fun h s => if_neg (by rw [hB]; decide)
    unfold bdR
    rw [hB, hV, hV]
    rfl
  refine sf_of types_ok mixed (l := [(17, awakeS), (19, tabS), (24, _), (27, inS), (47, _), (48, rangeS), (49, rrS), (50, noS)]) ⟨sf17', sf19, h24, sf27, h47, sf48, sf49, sf_no sf50.2, trivial⟩ (es := []) trivial 5 Try.func8 rfl (by kernel_rfl) fun args h => ?_
  cases (show args = _ from h)
  refine ⟨rfl, ?_⟩
  repeat' first
    | refine ⟨?_, ?_⟩
    | refine fun h => absurd h (by decide)
    | (refine fun h => ?_; exfalso; simp only [hg, ew, hl, hm, ew4, ew1, hh, hs, cond_true, cond_false, Bool.not_true, Bool.not_false, Bool.not_not, Bool.and_true, Bool.true_and, Bool.and_false, Bool.false_and, Bool.or_true, Bool.true_or, Bool.or_false, Bool.false_or, beq_self_eq_true, bne_self_eq_false, Bool.true_eq_false, Bool.false_eq_true, reduceCtorEq, Bool.and_self, decide_true, decide_false] at h; done)
    | (refine fun h => ?_; exfalso; simp only [hg, ew, hl, hm, ew4, ew1, hh, hs, cond_true, cond_false, Bool.not_true, Bool.not_false, Bool.not_not, Bool.and_true, Bool.true_and, Bool.and_false, Bool.false_and, Bool.or_true, Bool.true_or, Bool.or_false, Bool.false_or, beq_self_eq_true, bne_self_eq_false, Bool.true_eq_false, Bool.false_eq_true, reduceCtorEq, Bool.and_self, decide_true, decide_false, Bool.not_eq_true', Bool.not_eq_false', decide_eq_true_eq, decide_eq_false_iff_not, beq_iff_eq, bne_iff_ne, ne_eq, beq_eq_false_iff_ne, bne_eq_false_iff_eq] at h; omega)
    | refine fun _ => ?_
    | refine ple_ok ?_
    | exact (rfl : @Eq (List PV) _ _)
  all_goals first
    | trivial
    | rfl
    | omega
    | (show @Eq Bool _ _; simp only [hg, ew, hl, hm, ew4, ew1, hh, hs, cond_true, cond_false, Bool.not_true, Bool.not_false, Bool.not_not, Bool.and_true, Bool.true_and, Bool.and_false, Bool.false_and, Bool.or_true, Bool.true_or, Bool.or_false, Bool.false_or, beq_self_eq_true, bne_self_eq_false, Bool.true_eq_false, Bool.false_eq_true, reduceCtorEq, Bool.and_self, decide_true, decide_false]; done)
    | exact .mk t (by omega) rfl
    | (simp only [hg, ew, hl, hm, ew4, ew1, hh, hs, cond_true, cond_false, Bool.not_true, Bool.not_false, Bool.not_not, Bool.and_true, Bool.true_and, Bool.and_false, Bool.false_and, Bool.or_true, Bool.true_or, Bool.or_false, Bool.false_or, beq_self_eq_true, bne_self_eq_false, Bool.true_eq_false, Bool.false_eq_true, reduceCtorEq, Bool.and_self, decide_true, decide_false]; omega)
    | skip
set_option maxRecDepth 100000 in
set_option maxHeartbeats 8000000 in
theorem boundsG (n : Nat) (t : Nat → Row) (lv m h0 h1 s0 s1 : Int) (hn : n ≤ 30) (hT : okTb n t = true) (hl : decide (0 ≤ lv ∧ lv ≤ (n : Int) - 1) = true) (hm : decide (0 ≤ m ∧ m ≤ 1000000) = true) (hh : decide (0 ≤ h0 ∧ h0 ≤ h1 ∧ h1 ≤ 4000 * m) = true) (hs : decide (0 ≤ s0 ∧ s0 ≤ s1 ∧ s1 ≤ 10000 * m) = true) : SF Try.prog 8 (V.atS [tab n t, I lv, I m, .agg [I h0, I h1], .agg [I s0, I s1]] (.bool true)) := by
  have hg : decide ((30 : Int) < (n : Int)) = false := decide_eq_false (by omega)
  have h24 : SF Try.prog 24 (V.atS [tab n t] (.bool true)) := sf_at sf24L (isTabL.mk t (by omega) rfl) (by show PV.bool (okTb n t) = _; rw [hT])
  have hok : okT n t := @of_decide_eq_true _ (Classical.propDecidable _) hT
  have hn2 := hok.1
  have hn20 := hok.2.1
  have ew : IntKind.i64.wrap ((n : Int) - 1) = (n : Int) - 1 := w64 (by omega) (by omega)
  have he : err1 n t lv = 0 := by unfold err1; rw [hT, if_pos (of_decide_eq_true hl)]; rfl
  have hm' := of_decide_eq_true hm
  have hh' := of_decide_eq_true hh
  have hs' := of_decide_eq_true hs
  have hl' := of_decide_eq_true hl
  have ew4 : IntKind.i64.wrap (4000 * m) = 4000 * m := w64 (by omega) (by omega)
  have ew1 : IntKind.i64.wrap (10000 * m) = 10000 * m := w64 (by omega) (by omega)
  have x0 : okS ⟨m, h0, s0, 0⟩ := by simp only [okS]; omega
  have x1 : okS ⟨m, h1, s1, 0⟩ := by simp only [okS]; omega
  have hrow : okR (t lv.toNat) := (hok.2.2.all lv.toNat (by omega)).1
  have hB : bdE n t lv m h0 h1 s0 s1 = 0 := (if_pos he).trans (if_pos ⟨hh'.2.1, hs'.2.1, x0, x1⟩)
  have hP : ∀ h s, bdP n t lv m h0 h1 s0 s1 h s = partsV (t lv.toNat) ⟨m, h, s, 0⟩ := fun h s => if_pos hB
  have h47 : SF Try.prog 47 (V.atS [tab n t, I lv, I m, .agg [I h0, I h1], .agg [I s0, I s1]] (.tup [.agg [I (partsV (t lv.toNat) ⟨m, h0, s0, 0⟩).sm, I (partsV (t lv.toNat) ⟨m, h1, s1, 0⟩).sm], .agg [I (partsV (t lv.toNat) ⟨m, h0, s0, 0⟩).scale, I (partsV (t lv.toNat) ⟨m, h1, s1, 0⟩).scale], I 0])) := by
    refine sf_at sf47 (isTab.mk t (by omega) rfl) ?_
    show bdR n t lv m h0 h1 s0 s1 = _
    unfold bdR
    rw [hB, hP, hP]
  have h50 : SF Try.prog 50 (V.atS [.agg (rowL (t lv.toNat)), I m, .agg [I h0, I h1], .agg [I s0, I s1]] (.tup [.agg [I (partsV (t lv.toNat) ⟨m, h0, s0, 0⟩).sm, I (partsV (t lv.toNat) ⟨m, h1, s1, 0⟩).sm], .agg [I (partsV (t lv.toNat) ⟨m, h0, s0, 0⟩).scale, I (partsV (t lv.toNat) ⟨m, h1, s1, 0⟩).scale]])) :=
    sf_at sf50 ⟨.mk hrow x0, .mk hrow x1⟩ rfl
  clear hB hP
  generalize (partsV (t lv.toNat) ⟨m, h0, s0, 0⟩).sm = A0 at *
  generalize (partsV (t lv.toNat) ⟨m, h1, s1, 0⟩).sm = A1 at *
  generalize (partsV (t lv.toNat) ⟨m, h0, s0, 0⟩).scale = B0 at *
  generalize (partsV (t lv.toNat) ⟨m, h1, s1, 0⟩).scale = B1 at *
  refine sf_of types_ok mixed (l := [(17, awakeS), (19, tabS), (24, _), (27, inS), (47, _), (48, rangeS), (49, rrS), (50, _)]) ⟨sf17', sf19, h24, sf27, h47, sf48, sf49, h50, trivial⟩ (es := []) trivial 5 Try.func8 rfl (by kernel_rfl) fun args h => ?_
  cases (show args = _ from h)
  refine ⟨rfl, ?_⟩
  repeat' first
    | refine ⟨?_, ?_⟩
    | refine fun h => absurd h (by decide)
    | (refine fun h => ?_; exfalso; simp only [hg, ew, hl, hm, ew4, ew1, hh, hs, cond_true, cond_false, Bool.not_true, Bool.not_false, Bool.not_not, Bool.and_true, Bool.true_and, Bool.and_false, Bool.false_and, Bool.or_true, Bool.true_or, Bool.or_false, Bool.false_or, beq_self_eq_true, bne_self_eq_false, Bool.true_eq_false, Bool.false_eq_true, reduceCtorEq, Bool.and_self, decide_true, decide_false] at h; done)
    | (refine fun h => ?_; exfalso; simp only [hg, ew, hl, hm, ew4, ew1, hh, hs, cond_true, cond_false, Bool.not_true, Bool.not_false, Bool.not_not, Bool.and_true, Bool.true_and, Bool.and_false, Bool.false_and, Bool.or_true, Bool.true_or, Bool.or_false, Bool.false_or, beq_self_eq_true, bne_self_eq_false, Bool.true_eq_false, Bool.false_eq_true, reduceCtorEq, Bool.and_self, decide_true, decide_false, Bool.not_eq_true', Bool.not_eq_false', decide_eq_true_eq, decide_eq_false_iff_not, beq_iff_eq, bne_iff_ne, ne_eq, beq_eq_false_iff_ne, bne_eq_false_iff_eq] at h; omega)
    | refine fun _ => ?_
    | refine ple_ok ?_
    | exact (rfl : @Eq (List PV) _ _)
  all_goals first
    | trivial
    | rfl
    | omega
    | (show @Eq Bool _ _; simp only [hg, ew, hl, hm, ew4, ew1, hh, hs, cond_true, cond_false, Bool.not_true, Bool.not_false, Bool.not_not, Bool.and_true, Bool.true_and, Bool.and_false, Bool.false_and, Bool.or_true, Bool.true_or, Bool.or_false, Bool.false_or, beq_self_eq_true, bne_self_eq_false, Bool.true_eq_false, Bool.false_eq_true, reduceCtorEq, Bool.and_self, decide_true, decide_false]; done)
    | exact .mk t (by omega) rfl
    | (simp only [hg, ew, hl, hm, ew4, ew1, hh, hs, cond_true, cond_false, Bool.not_true, Bool.not_false, Bool.not_not, Bool.and_true, Bool.true_and, Bool.and_false, Bool.false_and, Bool.or_true, Bool.true_or, Bool.or_false, Bool.false_or, beq_self_eq_true, bne_self_eq_false, Bool.true_eq_false, Bool.false_eq_true, reduceCtorEq, Bool.and_self, decide_true, decide_false]; omega)
    | skip
end Go.Proofs.Ytiidjohhcappdaa
