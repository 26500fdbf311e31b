/- Layer 1: the law on bounds that are reached. -/
import Derived.Test.YtiidjohhcappdaaM13
import Derived.Test.YtiidjohhcappdaaS22
import Derived.Test.YtiidjohhcappdaaVq
import Derived.Test.YtiidjohhcappdaaX2
namespace Go.Proofs.Ytiidjohhcappdaa
open Go.V
set_option linter.unusedSimpArgs false

def awakeS : V.Spec := V.atS [] (.bool true)
theorem sf17' : SF Try.prog 17 awakeS := sf17
def noS : V.Spec := fun _ => (some False, .junk)
theorem sf_no {f : Nat} (h : HasBody Try.prog f) : SF Try.prog f noS := ⟨fun _ _ _ _ _ _ _ h => h.elim, h⟩

set_option maxRecDepth 100000 in
set_option maxHeartbeats 8000000 in
theorem withinA (n : Nat) (t : Nat → Row) (lv m h0 h1 s0 s1 u v : Int) (hn : n ≤ 9223372036854775807) (hT : okTb n t = false) : SF Try.prog 13 (V.atS [tab n t, .int .u8 lv, I m, .agg [I h0, I h1], .agg [I s0, I s1], .int .u32 u, .int .u32 v] (.bool true)) := by
  have h24 : SF Try.prog 24 (V.atS [tab n t] (.bool false)) := sf_at sf24L (isTabL.mk t (by omega) rfl) (by show PV.bool (okTb n t) = _; rw [hT])
  refine sf_of types_ok mixed (l := [(17, awakeS), (19, noS), (24, _), (27, inS), (39, noS), (47, noS), (48, rangeS), (49, rrS), (54, noS)]) ⟨sf17', sf_no sf19.2, h24, sf27, sf_no sf39.2, sf_no sf47.2, sf48, sf49, sf_no sf54.2, trivial⟩ (es := []) trivial 7 Try.func13 rfl (by kernel_rfl) fun args h => ?_
  cases (show args = _ from h)
  refine ⟨rfl, ?_⟩
  repeat' first
    | refine ⟨?_, ?_⟩
    | refine fun h => absurd h (by decide)
    | (refine fun h => ?_; exfalso; simp only [cond_true, cond_false, Bool.not_true, Bool.not_false, Bool.not_not, Bool.and_true, Bool.true_and, Bool.and_false, Bool.false_and, Bool.or_true, Bool.true_or, Bool.or_false, Bool.false_or, beq_self_eq_true, bne_self_eq_false, Bool.true_eq_false, Bool.false_eq_true, reduceCtorEq, Bool.and_self, decide_true, decide_false] at h; done)
    | (refine fun h => ?_; exfalso; simp only [cond_true, cond_false, Bool.not_true, Bool.not_false, Bool.not_not, Bool.and_true, Bool.true_and, Bool.and_false, Bool.false_and, Bool.or_true, Bool.true_or, Bool.or_false, Bool.false_or, beq_self_eq_true, bne_self_eq_false, Bool.true_eq_false, Bool.false_eq_true, reduceCtorEq, Bool.and_self, decide_true, decide_false, Bool.not_eq_true', Bool.not_eq_false', decide_eq_true_eq, decide_eq_false_iff_not, beq_iff_eq, bne_iff_ne, ne_eq, beq_eq_false_iff_ne, bne_eq_false_iff_eq] at h; omega)
    | refine fun _ => ?_
    | refine ple_ok ?_
    | exact (rfl : @Eq (List PV) _ _)
  all_goals first
    | trivial
    | rfl
    | omega
    | (show @Eq Bool _ _; simp only [cond_true, cond_false, Bool.not_true, Bool.not_false, Bool.not_not, Bool.and_true, Bool.true_and, Bool.and_false, Bool.false_and, Bool.or_true, Bool.true_or, Bool.or_false, Bool.false_or, beq_self_eq_true, bne_self_eq_false, Bool.true_eq_false, Bool.false_eq_true, reduceCtorEq, Bool.and_self, decide_true, decide_false]; done)
    | exact .mk t (by omega) rfl
    | (simp only [cond_true, cond_false, Bool.not_true, Bool.not_false, Bool.not_not, Bool.and_true, Bool.true_and, Bool.and_false, Bool.false_and, Bool.or_true, Bool.true_or, Bool.or_false, Bool.false_or, beq_self_eq_true, bne_self_eq_false, Bool.true_eq_false, Bool.false_eq_true, reduceCtorEq, Bool.and_self, decide_true, decide_false]; omega)
    | skip
set_option maxRecDepth 100000 in
set_option maxHeartbeats 8000000 in
theorem withinB (n : Nat) (t : Nat → Row) (lv m h0 h1 s0 s1 u v : Int) (hn : n ≤ 9223372036854775807) (hT : okTb n t = true) (hm : decide (0 ≤ m ∧ m ≤ 1000000) = false) : SF Try.prog 13 (V.atS [tab n t, .int .u8 lv, I m, .agg [I h0, I h1], .agg [I s0, I s1], .int .u32 u, .int .u32 v] (.bool true)) := by
  have h24 : SF Try.prog 24 (V.atS [tab n t] (.bool true)) := sf_at sf24L (isTabL.mk t (by omega) rfl) (by show PV.bool (okTb n t) = _; rw [hT])
  refine sf_of types_ok mixed (l := [(17, awakeS), (19, noS), (24, _), (27, inS), (39, noS), (47, noS), (48, rangeS), (49, rrS), (54, noS)]) ⟨sf17', sf_no sf19.2, h24, sf27, sf_no sf39.2, sf_no sf47.2, sf48, sf49, sf_no sf54.2, trivial⟩ (es := []) trivial 7 Try.func13 rfl (by kernel_rfl) fun args h => ?_
  cases (show args = _ from h)
  refine ⟨rfl, ?_⟩
  repeat' first
    | refine ⟨?_, ?_⟩
    | refine fun h => absurd h (by decide)
    | (refine fun h => ?_; exfalso; simp only [hm, cond_true, cond_false, Bool.not_true, Bool.not_false, Bool.not_not, Bool.and_true, Bool.true_and, Bool.and_false, Bool.false_and, Bool.or_true, Bool.true_or, Bool.or_false, Bool.false_or, beq_self_eq_true, bne_self_eq_false, Bool.true_eq_false, Bool.false_eq_true, reduceCtorEq, Bool.and_self, decide_true, decide_false] at h; done)
    | (refine fun h => ?_; exfalso; simp only [hm, cond_true, cond_false, Bool.not_true, Bool.not_false, Bool.not_not, Bool.and_true, Bool.true_and, Bool.and_false, Bool.false_and, Bool.or_true, Bool.true_or, Bool.or_false, Bool.false_or, beq_self_eq_true, bne_self_eq_false, Bool.true_eq_false, Bool.false_eq_true, reduceCtorEq, Bool.and_self, decide_true, decide_false, Bool.not_eq_true', Bool.not_eq_false', decide_eq_true_eq, decide_eq_false_iff_not, beq_iff_eq, bne_iff_ne, ne_eq, beq_eq_false_iff_ne, bne_eq_false_iff_eq] at h; omega)
    | refine fun _ => ?_
    | refine ple_ok ?_
    | exact (rfl : @Eq (List PV) _ _)
  all_goals first
    | trivial
    | rfl
    | omega
    | (show @Eq Bool _ _; simp only [hm, cond_true, cond_false, Bool.not_true, Bool.not_false, Bool.not_not, Bool.and_true, Bool.true_and, Bool.and_false, Bool.false_and, Bool.or_true, Bool.true_or, Bool.or_false, Bool.false_or, beq_self_eq_true, bne_self_eq_false, Bool.true_eq_false, Bool.false_eq_true, reduceCtorEq, Bool.and_self, decide_true, decide_false]; done)
    | exact .mk t (by omega) rfl
    | (simp only [hm, cond_true, cond_false, Bool.not_true, Bool.not_false, Bool.not_not, Bool.and_true, Bool.true_and, Bool.and_false, Bool.false_and, Bool.or_true, Bool.true_or, Bool.or_false, Bool.false_or, beq_self_eq_true, bne_self_eq_false, Bool.true_eq_false, Bool.false_eq_true, reduceCtorEq, Bool.and_self, decide_true, decide_false]; omega)
    | skip
set_option maxRecDepth 100000 in
set_option maxHeartbeats 8000000 in
theorem withinC (n : Nat) (t : Nat → Row) (lv m h0 h1 s0 s1 u v : Int) (hn : n ≤ 9223372036854775807) (hT : okTb n t = true) (hm : decide (0 ≤ m ∧ m ≤ 1000000) = true) (hh : decide (0 ≤ h0 ∧ h0 ≤ h1 ∧ h1 ≤ 4000 * m) = false) : SF Try.prog 13 (V.atS [tab n t, .int .u8 lv, I m, .agg [I h0, I h1], .agg [I s0, I s1], .int .u32 u, .int .u32 v] (.bool true)) := by
  have h24 : SF Try.prog 24 (V.atS [tab n t] (.bool true)) := sf_at sf24L (isTabL.mk t (by omega) rfl) (by show PV.bool (okTb n t) = _; rw [hT])
  have hm' := of_decide_eq_true hm
  have ew4 : IntKind.i64.wrap (4000 * m) = 4000 * m := w64 (by omega) (by omega)
  have ew1 : IntKind.i64.wrap (10000 * m) = 10000 * m := w64 (by omega) (by omega)
  refine sf_of types_ok mixed (l := [(17, awakeS), (19, noS), (24, _), (27, inS), (39, noS), (47, noS), (48, rangeS), (49, rrS), (54, noS)]) ⟨sf17', sf_no sf19.2, h24, sf27, sf_no sf39.2, sf_no sf47.2, sf48, sf49, sf_no sf54.2, trivial⟩ (es := []) trivial 7 Try.func13 rfl (by kernel_rfl) fun args h => ?_
  cases (show args = _ from h)
  refine ⟨rfl, ?_⟩
  repeat' first
    | refine ⟨?_, ?_⟩
    | refine fun h => absurd h (by decide)
    | (refine fun h => ?_; exfalso; simp only [hm, ew4, ew1, hh, cond_true, cond_false, Bool.not_true, Bool.not_false, Bool.not_not, Bool.and_true, Bool.true_and, Bool.and_false, Bool.false_and, Bool.or_true, Bool.true_or, Bool.or_false, Bool.false_or, beq_self_eq_true, bne_self_eq_false, Bool.true_eq_false, Bool.false_eq_true, reduceCtorEq, Bool.and_self, decide_true, decide_false] at h; done)
    | (refine fun h => ?_; exfalso; simp only [hm, ew4, ew1, hh, cond_true, cond_false, Bool.not_true, Bool.not_false, Bool.not_not, Bool.and_true, Bool.true_and, Bool.and_false, Bool.false_and, Bool.or_true, Bool.true_or, Bool.or_false, Bool.false_or, beq_self_eq_true, bne_self_eq_false, Bool.true_eq_false, Bool.false_eq_true, reduceCtorEq, Bool.and_self, decide_true, decide_false, Bool.not_eq_true', Bool.not_eq_false', decide_eq_true_eq, decide_eq_false_iff_not, beq_iff_eq, bne_iff_ne, ne_eq, beq_eq_false_iff_ne, bne_eq_false_iff_eq] at h; omega)
    | refine fun _ => ?_
    | refine ple_ok ?_
    | exact (rfl : @Eq (List PV) _ _)
  all_goals first
    | trivial
    | rfl
    | omega
    | (show @Eq Bool _ _; simp only [hm, ew4, ew1, hh, cond_true, cond_false, Bool.not_true, Bool.not_false, Bool.not_not, Bool.and_true, Bool.true_and, Bool.and_false, Bool.false_and, Bool.or_true, Bool.true_or, Bool.or_false, Bool.false_or, beq_self_eq_true, bne_self_eq_false, Bool.true_eq_false, Bool.false_eq_true, reduceCtorEq, Bool.and_self, decide_true, decide_false]; done)
    | exact .mk t (by omega) rfl
    | (simp only [hm, ew4, ew1, hh, cond_true, cond_false, Bool.not_true, Bool.not_false, Bool.not_not, Bool.and_true, Bool.true_and, Bool.and_false, Bool.false_and, Bool.or_true, Bool.true_or, Bool.or_false, Bool.false_or, beq_self_eq_true, bne_self_eq_false, Bool.true_eq_false, Bool.false_eq_true, reduceCtorEq, Bool.and_self, decide_true, decide_false]; omega)
    | skip
set_option maxRecDepth 100000 in
set_option maxHeartbeats 8000000 in
theorem withinD (n : Nat) (t : Nat → Row) (lv m h0 h1 s0 s1 u v : Int) (hn : n ≤ 9223372036854775807) (hT : okTb n t = true) (hm : decide (0 ≤ m ∧ m ≤ 1000000) = true) (hh : decide (0 ≤ h0 ∧ h0 ≤ h1 ∧ h1 ≤ 4000 * m) = true) (hs : decide (0 ≤ s0 ∧ s0 ≤ s1 ∧ s1 ≤ 10000 * m) = false) : SF Try.prog 13 (V.atS [tab n t, .int .u8 lv, I m, .agg [I h0, I h1], .agg [I s0, I s1], .int .u32 u, .int .u32 v] (.bool true)) := by
  have h24 : SF Try.prog 24 (V.atS [tab n t] (.bool true)) := sf_at sf24L (isTabL.mk t (by omega) rfl) (by show PV.bool (okTb n t) = _; rw [hT])
  have hm' := of_decide_eq_true hm
  have ew4 : IntKind.i64.wrap (4000 * m) = 4000 * m := w64 (by omega) (by omega)
  have ew1 : IntKind.i64.wrap (10000 * m) = 10000 * m := w64 (by omega) (by omega)
  refine sf_of types_ok mixed (l := [(17, awakeS), (19, noS), (24, _), (27, inS), (39, noS), (47, noS), (48, rangeS), (49, rrS), (54, noS)]) ⟨sf17', sf_no sf19.2, h24, sf27, sf_no sf39.2, sf_no sf47.2, sf48, sf49, sf_no sf54.2, trivial⟩ (es := []) trivial 7 Try.func13 rfl (by kernel_rfl) fun args h => ?_
  cases (show args = _ from h)
  refine ⟨rfl, ?_⟩
  repeat' first
    | refine ⟨?_, ?_⟩
    | refine fun h => absurd h (by decide)
    | (refine fun h => ?_; exfalso; simp only [hm, ew4, ew1, hh, hs, cond_true, cond_false, Bool.not_true, Bool.not_false, Bool.not_not, Bool.and_true, Bool.true_and, Bool.and_false, Bool.false_and, Bool.or_true, Bool.true_or, Bool.or_false, Bool.false_or, beq_self_eq_true, bne_self_eq_false, Bool.true_eq_false, Bool.false_eq_true, reduceCtorEq, Bool.and_self, decide_true, decide_false] at h; done)
    | (refine fun h => ?_; exfalso; simp only [hm, ew4, ew1, hh, hs, cond_true, cond_false, Bool.not_true, Bool.not_false, Bool.not_not, Bool.and_true, Bool.true_and, Bool.and_false, Bool.false_and, Bool.or_true, Bool.true_or, Bool.or_false, Bool.false_or, beq_self_eq_true, bne_self_eq_false, Bool.true_eq_false, Bool.false_eq_true, reduceCtorEq, Bool.and_self, decide_true, decide_false, Bool.not_eq_true', Bool.not_eq_false', decide_eq_true_eq, decide_eq_false_iff_not, beq_iff_eq, bne_iff_ne, ne_eq, beq_eq_false_iff_ne, bne_eq_false_iff_eq] at h; omega)
    | refine fun _ => ?_
    | refine ple_ok ?_
    | exact (rfl : @Eq (List PV) _ _)
  all_goals first
    | trivial
    | rfl
    | omega
    | (show @Eq Bool _ _; simp only [hm, ew4, ew1, hh, hs, cond_true, cond_false, Bool.not_true, Bool.not_false, Bool.not_not, Bool.and_true, Bool.true_and, Bool.and_false, Bool.false_and, Bool.or_true, Bool.true_or, Bool.or_false, Bool.false_or, beq_self_eq_true, bne_self_eq_false, Bool.true_eq_false, Bool.false_eq_true, reduceCtorEq, Bool.and_self, decide_true, decide_false]; done)
    | exact .mk t (by omega) rfl
    | (simp only [hm, ew4, ew1, hh, hs, cond_true, cond_false, Bool.not_true, Bool.not_false, Bool.not_not, Bool.and_true, Bool.true_and, Bool.and_false, Bool.false_and, Bool.or_true, Bool.true_or, Bool.or_false, Bool.false_or, beq_self_eq_true, bne_self_eq_false, Bool.true_eq_false, Bool.false_eq_true, reduceCtorEq, Bool.and_self, decide_true, decide_false]; omega)
    | skip
set_option maxRecDepth 100000 in
set_option maxHeartbeats 8000000 in
theorem withinE (n : Nat) (t : Nat → Row) (lv m h0 h1 s0 s1 u v : Int) (hn : n ≤ 9223372036854775807) (hlv : 0 ≤ lv ∧ lv ≤ 255) (hu : 0 ≤ u ∧ u ≤ 4294967295) (hv : 0 ≤ v ∧ v ≤ 4294967295) (hT : okTb n t = true) (hm : decide (0 ≤ m ∧ m ≤ 1000000) = true) (hh : decide (0 ≤ h0 ∧ h0 ≤ h1 ∧ h1 ≤ 4000 * m) = true) (hs : decide (0 ≤ s0 ∧ s0 ≤ s1 ∧ s1 ≤ 10000 * m) = true) : SF Try.prog 13 (V.atS [tab n t, .int .u8 lv, I m, .agg [I h0, I h1], .agg [I s0, I s1], .int .u32 u, .int .u32 v] (.bool true)) := by
  have h24 : SF Try.prog 24 (V.atS [tab n t] (.bool true)) := sf_at sf24L (isTabL.mk t (by omega) rfl) (by show PV.bool (okTb n t) = _; rw [hT])
  have hm' := of_decide_eq_true hm
  have ew4 : IntKind.i64.wrap (4000 * m) = 4000 * m := w64 (by omega) (by omega)
  have ew1 : IntKind.i64.wrap (10000 * m) = 10000 * m := w64 (by omega) (by omega)
  have hh' := of_decide_eq_true hh
  have hs' := of_decide_eq_true hs
  have hok : okT n t := @of_decide_eq_true _ (Classical.propDecidable _) hT
  have hn2 := hok.1
  have hn20 := hok.2.1
  have hl0 : 0 ≤ lv.tmod n := Int.tmod_nonneg _ (by omega)
  have hl1 : lv.tmod n < n := Int.tmod_lt_of_pos _ (by omega)
  have ewl : IntKind.i64.wrap lv = lv := w64 (by omega) (by omega)
  have hrow : okR (t (lv.tmod n).toNat) := (hok.2.2.all (lv.tmod n).toNat (by omega)).1
  have he1 : err1 n t (lv.tmod n) = 0 := by unfold err1; rw [hT, if_pos (by omega)]; rfl
  have pu := pick_in (w := u) hh'.2.1 hu.1
  have pv := pick_in (w := v) hs'.2.1 hv.1
  have x0 : okS ⟨m, h0, s0, 0⟩ := by simp only [okS]; omega
  have x1 : okS ⟨m, h1, s1, 0⟩ := by simp only [okS]; omega
  generalize hH : h0 + u.tmod (h1 - h0 + 1) = H at *
  generalize hZ : s0 + v.tmod (s1 - s0 + 1) = Z at *
  have xm : okS ⟨m, H, Z, 0⟩ := by simp only [okS]; omega
  have fl : ∀ h s, okS ⟨m, h, s, 0⟩ → flE n t (lv.tmod n) ⟨m, h, s, 0⟩ = 0 ∧ flV n t (lv.tmod n) ⟨m, h, s, 0⟩ = partsV (t (lv.tmod n).toNat) ⟨m, h, s, 0⟩ := by
    intro h s hx
    have hE : flE n t (lv.tmod n) ⟨m, h, s, 0⟩ = 0 := by unfold flE; rw [if_pos he1, if_pos hx]
    exact ⟨hE, if_pos hE⟩
  have E0 := (fl h0 s0 x0).1
  have E1 := (fl h1 s1 x1).1
  have Em := (fl H Z xm).1
  have V0 := (fl h0 s0 x0).2
  have V1 := (fl h1 s1 x1).2
  have Vm := (fl H Z xm).2
  have hB : bdE n t (lv.tmod n) m h0 h1 s0 s1 = 0 := (if_pos he1).trans (if_pos ⟨hh'.2.1, hs'.2.1, x0, x1⟩)
  have hP : ∀ h s, bdP n t (lv.tmod n) m h0 h1 s0 s1 h s = partsV (t (lv.tmod n).toNat) ⟨m, h, s, 0⟩ := fun h s => if_pos hB
  have m1 := mass_mono (x := ⟨m, h0, s0, 0⟩) (y := ⟨m, H, Z, 0⟩) hrow xm rfl pu.1
  have m2 := mass_mono (x := ⟨m, H, Z, 0⟩) (y := ⟨m, h1, s1, 0⟩) hrow x1 rfl pu.2
  have c1 := scale_mono (x := ⟨m, h0, s0, 0⟩) (y := ⟨m, H, Z, 0⟩) hrow xm rfl pu.1 pv.1
  have c2 := scale_mono (x := ⟨m, H, Z, 0⟩) (y := ⟨m, h1, s1, 0⟩) hrow x1 rfl pu.2 pv.2
  rw [← parts_sm, ← parts_sm] at m1 m2
  have h47 : SF Try.prog 47 (V.atS [tab n t, .int .i64 ((IntKind.i64.wrap lv).tmod n), I m, .agg [I h0, I h1], .agg [I s0, I s1]] (.tup [.agg [I (partsV (t (lv.tmod n).toNat) ⟨m, h0, s0, 0⟩).sm, I (partsV (t (lv.tmod n).toNat) ⟨m, h1, s1, 0⟩).sm], .agg [I (partsV (t (lv.tmod n).toNat) ⟨m, h0, s0, 0⟩).scale, I (partsV (t (lv.tmod n).toNat) ⟨m, h1, s1, 0⟩).scale], I 0])) := by
    rw [ewl]
    refine sf_at sf47 (isTab.mk t (by omega) rfl) ?_
    show bdR n t (lv.tmod n) m h0 h1 s0 s1 = _
    unfold bdR
    rw [hB, hP, hP]
  clear fl hB hP
  generalize partsV (t (lv.tmod n).toNat) ⟨m, h0, s0, 0⟩ = P0 at *
  generalize partsV (t (lv.tmod n).toNat) ⟨m, h1, s1, 0⟩ = P1 at *
  generalize partsV (t (lv.tmod n).toNat) ⟨m, H, Z, 0⟩ = PM at *
  refine sf_of types_ok mixed (l := [(17, awakeS), (19, tabS), (24, _), (27, inS), (39, flashS), (47, _), (48, rangeS), (49, rrS), (54, pickS)]) ⟨sf17', sf19, h24, sf27, sf39, h47, sf48, sf49, sf54, trivial⟩ (es := []) trivial 7 Try.func13 rfl (by kernel_rfl) fun args h => ?_
  cases (show args = _ from h)
  refine ⟨rfl, ?_⟩
  repeat' first
    | refine ⟨?_, ?_⟩
    | refine fun h => absurd h (by decide)
    | (refine fun h => ?_; exfalso; simp only [hm, ew4, ew1, hh, hs, ewl, rowOf_rowL, hH, hZ, E0, E1, Em, V0, V1, Vm, cond_true, cond_false, Bool.not_true, Bool.not_false, Bool.not_not, Bool.and_true, Bool.true_and, Bool.and_false, Bool.false_and, Bool.or_true, Bool.true_or, Bool.or_false, Bool.false_or, beq_self_eq_true, bne_self_eq_false, Bool.true_eq_false, Bool.false_eq_true, reduceCtorEq, Bool.and_self, decide_true, decide_false] at h; done)
    | (refine fun h => ?_; exfalso; simp only [hm, ew4, ew1, hh, hs, ewl, rowOf_rowL, hH, hZ, E0, E1, Em, V0, V1, Vm, cond_true, cond_false, Bool.not_true, Bool.not_false, Bool.not_not, Bool.and_true, Bool.true_and, Bool.and_false, Bool.false_and, Bool.or_true, Bool.true_or, Bool.or_false, Bool.false_or, beq_self_eq_true, bne_self_eq_false, Bool.true_eq_false, Bool.false_eq_true, reduceCtorEq, Bool.and_self, decide_true, decide_false, Bool.not_eq_true', Bool.not_eq_false', decide_eq_true_eq, decide_eq_false_iff_not, beq_iff_eq, bne_iff_ne, ne_eq, beq_eq_false_iff_ne, bne_eq_false_iff_eq] at h; omega)
    | refine fun _ => ?_
    | refine ple_ok ?_
    | exact (rfl : @Eq (List PV) _ _)
  all_goals first
    | trivial
    | rfl
    | omega
    | (show @Eq Bool _ _; simp only [hm, ew4, ew1, hh, hs, ewl, rowOf_rowL, hH, hZ, E0, E1, Em, V0, V1, Vm, cond_true, cond_false, Bool.not_true, Bool.not_false, Bool.not_not, Bool.and_true, Bool.true_and, Bool.and_false, Bool.false_and, Bool.or_true, Bool.true_or, Bool.or_false, Bool.false_or, beq_self_eq_true, bne_self_eq_false, Bool.true_eq_false, Bool.false_eq_true, reduceCtorEq, Bool.and_self, decide_true, decide_false]; done)
    | exact isTab.mk t (by omega) rfl
    | exact pickP.mk (by omega) (by omega)
    | (simp only [hm, ew4, ew1, hh, hs, ewl, rowOf_rowL, hH, hZ, E0, E1, Em, V0, V1, Vm, cond_true, cond_false, Bool.not_true, Bool.not_false, Bool.not_not, Bool.and_true, Bool.true_and, Bool.and_false, Bool.false_and, Bool.or_true, Bool.true_or, Bool.or_false, Bool.false_or, beq_self_eq_true, bne_self_eq_false, Bool.true_eq_false, Bool.false_eq_true, reduceCtorEq, Bool.and_self, decide_true, decide_false]; omega)
    | skip
end Go.Proofs.Ytiidjohhcappdaa
