/- Layer 1: the law on more heat. -/
import Derived.Test.YtiidjohhcappdaaM12
import Derived.Test.YtiidjohhcappdaaS9c
import Derived.Test.YtiidjohhcappdaaVq
import Derived.Test.YtiidjohhcappdaaX2
namespace Go.Proofs.Ytiidjohhcappdaa
open Go.V
set_option linter.unusedSimpArgs false

def awakeS : V.Spec := V.atS [] (.bool true)
theorem sf17' : SF Try.prog 17 awakeS := sf17
def noS : V.Spec := fun _ => (some False, .junk)
theorem sf_no {f : Nat} (h : HasBody Try.prog f) : SF Try.prog f noS := ⟨fun _ _ _ _ _ _ _ h => h.elim, h⟩

set_option maxRecDepth 100000 in
set_option maxHeartbeats 8000000 in
theorem moreA (n : Nat) (t : Nat → Row) (lv a b c d more : Int) (hn : n ≤ 9223372036854775807) (hT : okTb n t = false) : SF Try.prog 12 (V.atS [tab n t, .int .u8 lv, encS ⟨a, b, c, d⟩, .int .u32 more] (.bool true)) := by
  have h24 : SF Try.prog 24 (V.atS [tab n t] (.bool false)) := sf_at sf24L (isTabL.mk t (by omega) rfl) (by show PV.bool (okTb n t) = _; rw [hT])
  refine sf_of types_ok mixed (l := [(17, awakeS), (19, noS), (21, okSS), (23, strS), (24, _), (39, noS)]) ⟨sf17', sf_no sf19.2, sf21, sf23, h24, sf_no sf39.2, trivial⟩ (es := []) trivial 4 Try.func12 rfl (by kernel_rfl) fun args h => ?_
  cases (show args = _ from h)
  refine ⟨rfl, ?_⟩
  repeat' first
    | refine ⟨?_, ?_⟩
    | refine fun h => absurd h (by decide)
    | (refine fun h => ?_; exfalso; simp only [cond_true, cond_false, Bool.not_true, Bool.not_false, Bool.not_not, Bool.and_true, Bool.true_and, Bool.and_false, Bool.false_and, Bool.or_true, Bool.true_or, Bool.or_false, Bool.false_or, beq_self_eq_true, bne_self_eq_false, Bool.true_eq_false, Bool.false_eq_true, reduceCtorEq, Bool.and_self, decide_true, decide_false] at h; done)
    | (refine fun h => ?_; exfalso; simp only [cond_true, cond_false, Bool.not_true, Bool.not_false, Bool.not_not, Bool.and_true, Bool.true_and, Bool.and_false, Bool.false_and, Bool.or_true, Bool.true_or, Bool.or_false, Bool.false_or, beq_self_eq_true, bne_self_eq_false, Bool.true_eq_false, Bool.false_eq_true, reduceCtorEq, Bool.and_self, decide_true, decide_false, Bool.not_eq_true', Bool.not_eq_false', decide_eq_true_eq, decide_eq_false_iff_not, beq_iff_eq, bne_iff_ne, ne_eq, beq_eq_false_iff_ne, bne_eq_false_iff_eq] at h; omega)
    | refine fun _ => ?_
    | refine ple_ok ?_
    | exact (rfl : @Eq (List PV) _ _)
  all_goals first
    | trivial
    | rfl
    | omega
    | (show @Eq Bool _ _; simp only [cond_true, cond_false, Bool.not_true, Bool.not_false, Bool.not_not, Bool.and_true, Bool.true_and, Bool.and_false, Bool.false_and, Bool.or_true, Bool.true_or, Bool.or_false, Bool.false_or, beq_self_eq_true, bne_self_eq_false, Bool.true_eq_false, Bool.false_eq_true, reduceCtorEq, Bool.and_self, decide_true, decide_false]; done)
    | exact .mk t (by omega) rfl
    | (simp only [cond_true, cond_false, Bool.not_true, Bool.not_false, Bool.not_not, Bool.and_true, Bool.true_and, Bool.and_false, Bool.false_and, Bool.or_true, Bool.true_or, Bool.or_false, Bool.false_or, beq_self_eq_true, bne_self_eq_false, Bool.true_eq_false, Bool.false_eq_true, reduceCtorEq, Bool.and_self, decide_true, decide_false]; omega)
    | skip
set_option maxRecDepth 100000 in
set_option maxHeartbeats 8000000 in
theorem moreB (n : Nat) (t : Nat → Row) (lv a b c d more : Int) (hn : n ≤ 9223372036854775807) (hT : okTb n t = true) (hs : decide (okS ⟨a, b, c, d⟩) = false) : SF Try.prog 12 (V.atS [tab n t, .int .u8 lv, encS ⟨a, b, c, d⟩, .int .u32 more] (.bool true)) := by
  have h24 : SF Try.prog 24 (V.atS [tab n t] (.bool true)) := sf_at sf24L (isTabL.mk t (by omega) rfl) (by show PV.bool (okTb n t) = _; rw [hT])
  refine sf_of types_ok mixed (l := [(17, awakeS), (19, noS), (21, okSS), (23, strS), (24, _), (39, noS)]) ⟨sf17', sf_no sf19.2, sf21, sf23, h24, sf_no sf39.2, trivial⟩ (es := []) trivial 4 Try.func12 rfl (by kernel_rfl) fun args h => ?_
  cases (show args = _ from h)
  refine ⟨rfl, ?_⟩
  repeat' first
    | refine ⟨?_, ?_⟩
    | refine fun h => absurd h (by decide)
    | (refine fun h => ?_; exfalso; simp only [hs, cond_true, cond_false, Bool.not_true, Bool.not_false, Bool.not_not, Bool.and_true, Bool.true_and, Bool.and_false, Bool.false_and, Bool.or_true, Bool.true_or, Bool.or_false, Bool.false_or, beq_self_eq_true, bne_self_eq_false, Bool.true_eq_false, Bool.false_eq_true, reduceCtorEq, Bool.and_self, decide_true, decide_false] at h; done)
    | (refine fun h => ?_; exfalso; simp only [hs, cond_true, cond_false, Bool.not_true, Bool.not_false, Bool.not_not, Bool.and_true, Bool.true_and, Bool.and_false, Bool.false_and, Bool.or_true, Bool.true_or, Bool.or_false, Bool.false_or, beq_self_eq_true, bne_self_eq_false, Bool.true_eq_false, Bool.false_eq_true, reduceCtorEq, Bool.and_self, decide_true, decide_false, Bool.not_eq_true', Bool.not_eq_false', decide_eq_true_eq, decide_eq_false_iff_not, beq_iff_eq, bne_iff_ne, ne_eq, beq_eq_false_iff_ne, bne_eq_false_iff_eq] at h; omega)
    | refine fun _ => ?_
    | refine ple_ok ?_
    | exact (rfl : @Eq (List PV) _ _)
  all_goals first
    | trivial
    | rfl
    | omega
    | (show @Eq Bool _ _; simp only [hs, cond_true, cond_false, Bool.not_true, Bool.not_false, Bool.not_not, Bool.and_true, Bool.true_and, Bool.and_false, Bool.false_and, Bool.or_true, Bool.true_or, Bool.or_false, Bool.false_or, beq_self_eq_true, bne_self_eq_false, Bool.true_eq_false, Bool.false_eq_true, reduceCtorEq, Bool.and_self, decide_true, decide_false]; done)
    | exact .mk t (by omega) rfl
    | (simp only [hs, cond_true, cond_false, Bool.not_true, Bool.not_false, Bool.not_not, Bool.and_true, Bool.true_and, Bool.and_false, Bool.false_and, Bool.or_true, Bool.true_or, Bool.or_false, Bool.false_or, beq_self_eq_true, bne_self_eq_false, Bool.true_eq_false, Bool.false_eq_true, reduceCtorEq, Bool.and_self, decide_true, decide_false]; omega)
    | skip
set_option maxRecDepth 100000 in
set_option maxHeartbeats 8000000 in
theorem moreC (n : Nat) (t : Nat → Row) (lv a b c d more : Int) (hn : n ≤ 9223372036854775807) (hlv : 0 ≤ lv ∧ lv ≤ 255) (hmo : 0 ≤ more ∧ more ≤ 4294967295) (hT : okTb n t = true) (hs : decide (okS ⟨a, b, c, d⟩) = true) (R : Row) (hR : t (lv.tmod n).toNat = R) (ws rs sc : Int) (hP1 : partsV R ⟨a, b, c, d⟩ = ⟨0, 0, 0, 0, a, b, ws, d, rs, sc⟩) (hrs : 0 ≤ rs ∧ rs < R.V - R.L) : SF Try.prog 12 (V.atS [tab n t, .int .u8 lv, encS ⟨a, b, c, d⟩, .int .u32 more] (.bool true)) := by
  have hok : okT n t := @of_decide_eq_true _ (Classical.propDecidable _) hT
  have hn2 := hok.1
  have hn20 := hok.2.1
  have hs' := of_decide_eq_true hs
  have hs2 := hs'
  simp only [okS] at hs2
  have hl0 : 0 ≤ lv.tmod n := Int.tmod_nonneg _ (by omega)
  have hl1 : lv.tmod n < n := Int.tmod_lt_of_pos _ (by omega)
  have hrow : okR R := by rw [← hR]; exact (hok.2.2.all (lv.tmod n).toNat (by omega)).1
  have hrow2 := hrow
  simp only [okR] at hrow2
  have ewl : IntKind.i64.wrap lv = lv := w64 (by omega) (by omega)
  have ewm : IntKind.i64.wrap more = more := w64 (by omega) (by omega)
  have ew4 : IntKind.i64.wrap (4000 * a) = 4000 * a := w64 (by omega) (by omega)
  have ewb : IntKind.i64.wrap (b + more) = b + more := w64 (by omega) (by omega)
  have ewd : IntKind.i64.wrap (R.V - R.L) = R.V - R.L := w64 (by omega) (by omega)
  have h24 : SF Try.prog 24 (V.atS [tab n t] (.bool true)) := sf_at sf24L (isTabL.mk t (by omega) rfl) (by show PV.bool (okTb n t) = _; rw [hT])
  generalize hW : (if b + more < 4000 * a then b + more else 4000 * a) = W
  have hWb : b ≤ W ∧ W ≤ 4000 * a := by rw [← hW]; split <;> omega
  have hx2 : okS ⟨a, W, c, d⟩ := by simp only [okS]; omega
  have he1 : err1 n t (lv.tmod n) = 0 := by unfold err1; rw [hT, if_pos (by omega)]; rfl
  have hE1 : flE n t (lv.tmod n) ⟨a, b, c, d⟩ = 0 := by unfold flE; rw [if_pos he1, if_pos hs']
  have hE2 : flE n t (lv.tmod n) ⟨a, W, c, d⟩ = 0 := by unfold flE; rw [if_pos he1, if_pos hx2]
  have hV1 : flV n t (lv.tmod n) ⟨a, b, c, d⟩ = partsV R ⟨a, b, c, d⟩ := by unfold flV; rw [if_pos hE1, hR]
  have hM2 : (flV n t (lv.tmod n) ⟨a, W, c, d⟩).sm = massR R ⟨a, W, c, d⟩ := by unfold flV; rw [if_pos hE2, hR, parts_sm]
  have hmono : massR R ⟨a, b, c, d⟩ ≤ massR R ⟨a, W, c, d⟩ := mass_mono hrow hx2 rfl hWb.1
  rw [← parts_sm] at hmono
  generalize massR R ⟨a, W, c, d⟩ = M2 at *
  rw [hP1] at hmono
  have hmono : 0 ≤ M2 := hmono
  refine sf_of types_ok mixed (l := [(17, awakeS), (19, tabS), (21, okSS), (23, strS), (24, _), (39, flashS)]) ⟨sf17', sf19, sf21, sf23, h24, sf39, trivial⟩ (es := []) trivial 4 Try.func12 rfl (by kernel_rfl) fun args h => ?_
  cases (show args = _ from h)
  refine ⟨rfl, ?_⟩
  repeat' first
    | refine ⟨?_, ?_⟩
    | refine fun h => absurd h (by decide)
    | (refine fun h => ?_; exfalso; simp only [hs, rowOf_rowL, ewl, ewm, ew4, ewb, hW, hE1, hE2, hR, hP1, hV1, hM2, ewd, cond_true, cond_false, Bool.not_true, Bool.not_false, Bool.not_not, Bool.and_true, Bool.true_and, Bool.and_false, Bool.false_and, Bool.or_true, Bool.true_or, Bool.or_false, Bool.false_or, beq_self_eq_true, bne_self_eq_false, Bool.true_eq_false, Bool.false_eq_true, reduceCtorEq, Bool.and_self, decide_true, decide_false] at h; done)
    | (refine fun h => ?_; exfalso; simp only [hs, rowOf_rowL, ewl, ewm, ew4, ewb, hW, hE1, hE2, hR, hP1, hV1, hM2, ewd, cond_true, cond_false, Bool.not_true, Bool.not_false, Bool.not_not, Bool.and_true, Bool.true_and, Bool.and_false, Bool.false_and, Bool.or_true, Bool.true_or, Bool.or_false, Bool.false_or, beq_self_eq_true, bne_self_eq_false, Bool.true_eq_false, Bool.false_eq_true, reduceCtorEq, Bool.and_self, decide_true, decide_false, Bool.not_eq_true', Bool.not_eq_false', decide_eq_true_eq, decide_eq_false_iff_not, beq_iff_eq, bne_iff_ne, ne_eq, beq_eq_false_iff_ne, bne_eq_false_iff_eq] at h; omega)
    | refine fun _ => ?_
    | refine ple_ok ?_
    | exact (rfl : @Eq (List PV) _ _)
  all_goals first
    | trivial
    | rfl
    | omega
    | (show @Eq Bool _ _; simp only [hs, rowOf_rowL, ewl, ewm, ew4, ewb, hW, hE1, hE2, hR, hP1, hV1, hM2, ewd, cond_true, cond_false, Bool.not_true, Bool.not_false, Bool.not_not, Bool.and_true, Bool.true_and, Bool.and_false, Bool.false_and, Bool.or_true, Bool.true_or, Bool.or_false, Bool.false_or, beq_self_eq_true, bne_self_eq_false, Bool.true_eq_false, Bool.false_eq_true, reduceCtorEq, Bool.and_self, decide_true, decide_false]; done)
    | exact .mk t (by omega) rfl
    | (simp only [hs, rowOf_rowL, ewl, ewm, ew4, ewb, hW, hE1, hE2, hR, hP1, hV1, hM2, ewd, cond_true, cond_false, Bool.not_true, Bool.not_false, Bool.not_not, Bool.and_true, Bool.true_and, Bool.and_false, Bool.false_and, Bool.or_true, Bool.true_or, Bool.or_false, Bool.false_or, beq_self_eq_true, bne_self_eq_false, Bool.true_eq_false, Bool.false_eq_true, reduceCtorEq, Bool.and_self, decide_true, decide_false]; omega)
    | skip
set_option maxRecDepth 100000 in
set_option maxHeartbeats 8000000 in
theorem moreD (n : Nat) (t : Nat → Row) (lv a b c d more : Int) (hn : n ≤ 9223372036854775807) (hlv : 0 ≤ lv ∧ lv ≤ 255) (hmo : 0 ≤ more ∧ more ≤ 4294967295) (hT : okTb n t = true) (hs : decide (okS ⟨a, b, c, d⟩) = true) (R : Row) (hR : t (lv.tmod n).toNat = R) (ws sc : Int) (hP1 : partsV R ⟨a, b, c, d⟩ = ⟨a, b, 0, d, 0, 0, ws, 0, 0, sc⟩) (ha : 0 < a) (hb : a * R.V ≤ b) : SF Try.prog 12 (V.atS [tab n t, .int .u8 lv, encS ⟨a, b, c, d⟩, .int .u32 more] (.bool true)) := by
  have hok : okT n t := @of_decide_eq_true _ (Classical.propDecidable _) hT
  have hn2 := hok.1
  have hn20 := hok.2.1
  have hs' := of_decide_eq_true hs
  have hs2 := hs'
  simp only [okS] at hs2
  have hl0 : 0 ≤ lv.tmod n := Int.tmod_nonneg _ (by omega)
  have hl1 : lv.tmod n < n := Int.tmod_lt_of_pos _ (by omega)
  have hrow : okR R := by rw [← hR]; exact (hok.2.2.all (lv.tmod n).toNat (by omega)).1
  have hrow2 := hrow
  simp only [okR] at hrow2
  have ewl : IntKind.i64.wrap lv = lv := w64 (by omega) (by omega)
  have ewm : IntKind.i64.wrap more = more := w64 (by omega) (by omega)
  have ew4 : IntKind.i64.wrap (4000 * a) = 4000 * a := w64 (by omega) (by omega)
  have ewb : IntKind.i64.wrap (b + more) = b + more := w64 (by omega) (by omega)
  have ewd : IntKind.i64.wrap (R.V - R.L) = R.V - R.L := w64 (by omega) (by omega)
  have h24 : SF Try.prog 24 (V.atS [tab n t] (.bool true)) := sf_at sf24L (isTabL.mk t (by omega) rfl) (by show PV.bool (okTb n t) = _; rw [hT])
  generalize hW : (if b + more < 4000 * a then b + more else 4000 * a) = W
  have hWb : b ≤ W ∧ W ≤ 4000 * a := by rw [← hW]; split <;> omega
  have hx2 : okS ⟨a, W, c, d⟩ := by simp only [okS]; omega
  have he1 : err1 n t (lv.tmod n) = 0 := by unfold err1; rw [hT, if_pos (by omega)]; rfl
  have hE1 : flE n t (lv.tmod n) ⟨a, b, c, d⟩ = 0 := by unfold flE; rw [if_pos he1, if_pos hs']
  have hE2 : flE n t (lv.tmod n) ⟨a, W, c, d⟩ = 0 := by unfold flE; rw [if_pos he1, if_pos hx2]
  have hV1 : flV n t (lv.tmod n) ⟨a, b, c, d⟩ = partsV R ⟨a, b, c, d⟩ := by unfold flV; rw [if_pos hE1, hR]
  have hM2 : (flV n t (lv.tmod n) ⟨a, W, c, d⟩).sm = massR R ⟨a, W, c, d⟩ := by unfold flV; rw [if_pos hE2, hR, parts_sm]
  have hmono : massR R ⟨a, b, c, d⟩ ≤ massR R ⟨a, W, c, d⟩ := mass_mono hrow hx2 rfl hWb.1
  rw [← parts_sm] at hmono
  generalize massR R ⟨a, W, c, d⟩ = M2 at *
  rw [hP1] at hmono
  have hmono : a ≤ M2 := hmono
  have hav := Int.mul_nonneg (show 0 ≤ a by omega) (show 0 ≤ R.V by omega)
  have ewv : IntKind.i64.wrap (a * R.V) = a * R.V := w64 (by omega) (by omega)
  refine sf_of types_ok mixed (l := [(17, awakeS), (19, tabS), (21, okSS), (23, strS), (24, _), (39, flashS)]) ⟨sf17', sf19, sf21, sf23, h24, sf39, trivial⟩ (es := []) trivial 4 Try.func12 rfl (by kernel_rfl) fun args h => ?_
  cases (show args = _ from h)
  refine ⟨rfl, ?_⟩
  repeat' first
    | refine ⟨?_, ?_⟩
    | refine fun h => absurd h (by decide)
    | (refine fun h => ?_; exfalso; simp only [hs, rowOf_rowL, ewl, ewm, ew4, ewb, hW, hE1, hE2, hR, hP1, hV1, hM2, ewd, ewv, cond_true, cond_false, Bool.not_true, Bool.not_false, Bool.not_not, Bool.and_true, Bool.true_and, Bool.and_false, Bool.false_and, Bool.or_true, Bool.true_or, Bool.or_false, Bool.false_or, beq_self_eq_true, bne_self_eq_false, Bool.true_eq_false, Bool.false_eq_true, reduceCtorEq, Bool.and_self, decide_true, decide_false] at h; done)
    | (refine fun h => ?_; exfalso; simp only [hs, rowOf_rowL, ewl, ewm, ew4, ewb, hW, hE1, hE2, hR, hP1, hV1, hM2, ewd, ewv, cond_true, cond_false, Bool.not_true, Bool.not_false, Bool.not_not, Bool.and_true, Bool.true_and, Bool.and_false, Bool.false_and, Bool.or_true, Bool.true_or, Bool.or_false, Bool.false_or, beq_self_eq_true, bne_self_eq_false, Bool.true_eq_false, Bool.false_eq_true, reduceCtorEq, Bool.and_self, decide_true, decide_false, Bool.not_eq_true', Bool.not_eq_false', decide_eq_true_eq, decide_eq_false_iff_not, beq_iff_eq, bne_iff_ne, ne_eq, beq_eq_false_iff_ne, bne_eq_false_iff_eq] at h; omega)
    | refine fun _ => ?_
    | refine ple_ok ?_
    | exact (rfl : @Eq (List PV) _ _)
  all_goals first
    | trivial
    | rfl
    | omega
    | (show @Eq Bool _ _; simp only [hs, rowOf_rowL, ewl, ewm, ew4, ewb, hW, hE1, hE2, hR, hP1, hV1, hM2, ewd, ewv, cond_true, cond_false, Bool.not_true, Bool.not_false, Bool.not_not, Bool.and_true, Bool.true_and, Bool.and_false, Bool.false_and, Bool.or_true, Bool.true_or, Bool.or_false, Bool.false_or, beq_self_eq_true, bne_self_eq_false, Bool.true_eq_false, Bool.false_eq_true, reduceCtorEq, Bool.and_self, decide_true, decide_false]; done)
    | exact .mk t (by omega) rfl
    | (simp only [hs, rowOf_rowL, ewl, ewm, ew4, ewb, hW, hE1, hE2, hR, hP1, hV1, hM2, ewd, ewv, cond_true, cond_false, Bool.not_true, Bool.not_false, Bool.not_not, Bool.and_true, Bool.true_and, Bool.and_false, Bool.false_and, Bool.or_true, Bool.true_or, Bool.or_false, Bool.false_or, beq_self_eq_true, bne_self_eq_false, Bool.true_eq_false, Bool.false_eq_true, reduceCtorEq, Bool.and_self, decide_true, decide_false]; omega)
    | skip
set_option maxRecDepth 100000 in
set_option maxHeartbeats 8000000 in
theorem moreE (n : Nat) (t : Nat → Row) (lv a b c d more : Int) (hn : n ≤ 9223372036854775807) (hlv : 0 ≤ lv ∧ lv ≤ 255) (hmo : 0 ≤ more ∧ more ≤ 4294967295) (hT : okTb n t = true) (hs : decide (okS ⟨a, b, c, d⟩) = true) (R : Row) (hR : t (lv.tmod n).toNat = R) (q ws rs sc : Int) (hP1 : partsV R ⟨a, b, c, d⟩ = ⟨q, q * R.V, 0, d, a - q, b - q * R.V, ws, 0, rs, sc⟩) (hq : 0 < q ∧ q < a) (hrs : 0 ≤ rs ∧ rs < R.V - R.L) (hh : b - q * R.V = (a - q) * R.L + rs) (hws : ws ≤ (a - q) * R.S) : SF Try.prog 12 (V.atS [tab n t, .int .u8 lv, encS ⟨a, b, c, d⟩, .int .u32 more] (.bool true)) := by
  have hok : okT n t := @of_decide_eq_true _ (Classical.propDecidable _) hT
  have hn2 := hok.1
  have hn20 := hok.2.1
  have hs' := of_decide_eq_true hs
  have hs2 := hs'
  simp only [okS] at hs2
  have hl0 : 0 ≤ lv.tmod n := Int.tmod_nonneg _ (by omega)
  have hl1 : lv.tmod n < n := Int.tmod_lt_of_pos _ (by omega)
  have hrow : okR R := by rw [← hR]; exact (hok.2.2.all (lv.tmod n).toNat (by omega)).1
  have hrow2 := hrow
  simp only [okR] at hrow2
  have ewl : IntKind.i64.wrap lv = lv := w64 (by omega) (by omega)
  have ewm : IntKind.i64.wrap more = more := w64 (by omega) (by omega)
  have ew4 : IntKind.i64.wrap (4000 * a) = 4000 * a := w64 (by omega) (by omega)
  have ewb : IntKind.i64.wrap (b + more) = b + more := w64 (by omega) (by omega)
  have ewd : IntKind.i64.wrap (R.V - R.L) = R.V - R.L := w64 (by omega) (by omega)
  have h24 : SF Try.prog 24 (V.atS [tab n t] (.bool true)) := sf_at sf24L (isTabL.mk t (by omega) rfl) (by show PV.bool (okTb n t) = _; rw [hT])
  generalize hW : (if b + more < 4000 * a then b + more else 4000 * a) = W
  have hWb : b ≤ W ∧ W ≤ 4000 * a := by rw [← hW]; split <;> omega
  have hx2 : okS ⟨a, W, c, d⟩ := by simp only [okS]; omega
  have he1 : err1 n t (lv.tmod n) = 0 := by unfold err1; rw [hT, if_pos (by omega)]; rfl
  have hE1 : flE n t (lv.tmod n) ⟨a, b, c, d⟩ = 0 := by unfold flE; rw [if_pos he1, if_pos hs']
  have hE2 : flE n t (lv.tmod n) ⟨a, W, c, d⟩ = 0 := by unfold flE; rw [if_pos he1, if_pos hx2]
  have hV1 : flV n t (lv.tmod n) ⟨a, b, c, d⟩ = partsV R ⟨a, b, c, d⟩ := by unfold flV; rw [if_pos hE1, hR]
  have hM2 : (flV n t (lv.tmod n) ⟨a, W, c, d⟩).sm = massR R ⟨a, W, c, d⟩ := by unfold flV; rw [if_pos hE2, hR, parts_sm]
  have hmono : massR R ⟨a, b, c, d⟩ ≤ massR R ⟨a, W, c, d⟩ := mass_mono hrow hx2 rfl hWb.1
  rw [← parts_sm] at hmono
  generalize massR R ⟨a, W, c, d⟩ = M2 at *
  rw [hP1] at hmono
  have hmono : q ≤ M2 := hmono
  have b1 := Int.mul_nonneg (show 0 ≤ q by omega) (show 0 ≤ R.V by omega)
  have b2 := Int.mul_nonneg (show 0 ≤ a - q by omega) (show 0 ≤ R.L by omega)
  have b3 := Int.mul_nonneg (show 0 ≤ a - q by omega) (show 0 ≤ R.S by omega)
  have b4 := Int.mul_le_mul (show q ≤ 1000000 by omega) (show R.V ≤ 4000 by omega) (by omega) (by omega)
  have b5 := Int.mul_le_mul (show a - q ≤ 1000000 by omega) (show R.L ≤ 4000 by omega) (by omega) (by omega)
  have b6 := Int.mul_le_mul (show a - q ≤ 1000000 by omega) (show R.S ≤ 2000 by omega) (by omega) (by omega)
  have ew1 : IntKind.i64.wrap (q * R.V) = q * R.V := w64 (by omega) (by omega)
  have ew2 : IntKind.i64.wrap ((a - q) * R.L) = (a - q) * R.L := w64 (by omega) (by omega)
  have ew3 : IntKind.i64.wrap ((a - q) * R.L + rs) = (a - q) * R.L + rs := w64 (by omega) (by omega)
  have ew5 : IntKind.i64.wrap ((a - q) * R.S) = (a - q) * R.S := w64 (by omega) (by omega)
  refine sf_of types_ok mixed (l := [(17, awakeS), (19, tabS), (21, okSS), (23, strS), (24, _), (39, flashS)]) ⟨sf17', sf19, sf21, sf23, h24, sf39, trivial⟩ (es := []) trivial 4 Try.func12 rfl (by kernel_rfl) fun args h => ?_
  cases (show args = _ from h)
  refine ⟨rfl, ?_⟩
  repeat' first
    | refine ⟨?_, ?_⟩
    | refine fun h => absurd h (by decide)
    | (refine fun h => ?_; exfalso; simp only [hs, rowOf_rowL, ewl, ewm, ew4, ewb, hW, hE1, hE2, hR, hP1, hV1, hM2, ewd, ew1, ew2, ew3, ew5, hh, cond_true, cond_false, Bool.not_true, Bool.not_false, Bool.not_not, Bool.and_true, Bool.true_and, Bool.and_false, Bool.false_and, Bool.or_true, Bool.true_or, Bool.or_false, Bool.false_or, beq_self_eq_true, bne_self_eq_false, Bool.true_eq_false, Bool.false_eq_true, reduceCtorEq, Bool.and_self, decide_true, decide_false] at h; done)
    | (refine fun h => ?_; exfalso; simp only [hs, rowOf_rowL, ewl, ewm, ew4, ewb, hW, hE1, hE2, hR, hP1, hV1, hM2, ewd, ew1, ew2, ew3, ew5, hh, cond_true, cond_false, Bool.not_true, Bool.not_false, Bool.not_not, Bool.and_true, Bool.true_and, Bool.and_false, Bool.false_and, Bool.or_true, Bool.true_or, Bool.or_false, Bool.false_or, beq_self_eq_true, bne_self_eq_false, Bool.true_eq_false, Bool.false_eq_true, reduceCtorEq, Bool.and_self, decide_true, decide_false, Bool.not_eq_true', Bool.not_eq_false', decide_eq_true_eq, decide_eq_false_iff_not, beq_iff_eq, bne_iff_ne, ne_eq, beq_eq_false_iff_ne, bne_eq_false_iff_eq] at h; omega)
    | refine fun _ => ?_
    | refine ple_ok ?_
    | exact (rfl : @Eq (List PV) _ _)
  all_goals first
    | trivial
    | rfl
    | omega
    | (show @Eq Bool _ _; simp only [hs, rowOf_rowL, ewl, ewm, ew4, ewb, hW, hE1, hE2, hR, hP1, hV1, hM2, ewd, ew1, ew2, ew3, ew5, hh, cond_true, cond_false, Bool.not_true, Bool.not_false, Bool.not_not, Bool.and_true, Bool.true_and, Bool.and_false, Bool.false_and, Bool.or_true, Bool.true_or, Bool.or_false, Bool.false_or, beq_self_eq_true, bne_self_eq_false, Bool.true_eq_false, Bool.false_eq_true, reduceCtorEq, Bool.and_self, decide_true, decide_false]; done)
    | exact .mk t (by omega) rfl
    | (simp only [hs, rowOf_rowL, ewl, ewm, ew4, ewb, hW, hE1, hE2, hR, hP1, hV1, hM2, ewd, ew1, ew2, ew3, ew5, hh, cond_true, cond_false, Bool.not_true, Bool.not_false, Bool.not_not, Bool.and_true, Bool.true_and, Bool.and_false, Bool.false_and, Bool.or_true, Bool.true_or, Bool.or_false, Bool.false_or, beq_self_eq_true, bne_self_eq_false, Bool.true_eq_false, Bool.false_eq_true, reduceCtorEq, Bool.and_self, decide_true, decide_false]; omega)
    | skip
end Go.Proofs.Ytiidjohhcappdaa
