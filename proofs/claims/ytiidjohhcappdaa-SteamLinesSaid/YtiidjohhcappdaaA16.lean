/- Layer 1: the law on lines. -/
import Derived.Test.YtiidjohhcappdaaM16
import Derived.Test.YtiidjohhcappdaaS22
import Derived.Test.YtiidjohhcappdaaVq
import Derived.Test.YtiidjohhcappdaaX2
namespace Go.Proofs.Ytiidjohhcappdaa
open Go.V
set_option linter.unusedSimpArgs false

def awakeS : V.Spec := V.atS [] (.bool true)
theorem sf17' : SF Try.prog 17 awakeS := sf17
def noS : V.Spec := fun _ => (some False, .junk)
theorem sf_no {f : Nat} (h : HasBody Try.prog f) : SF Try.prog f noS := ⟨fun _ _ _ _ _ _ _ h => h.elim, h⟩
theorem w32 {x : Int} (h : 0 ≤ x ∧ x ≤ 65535) : IntKind.u32.wrap x = x := by
  unfold IntKind.wrap
  simp only [show IntKind.u32.bits = 32 from rfl, show IntKind.u32.signed = false from rfl, Bool.false_and, Bool.false_eq_true, if_false]
  have e : ((2 : Int) ^ 32) = 4294967296 := by decide
  rw [e]
  omega

set_option maxRecDepth 100000 in
set_option maxHeartbeats 8000000 in
theorem linesA (n : Nat) (t : Nat → Row) (lv u v : Int) (hn : n ≤ 9223372036854775807) (hT : okTb n t = false) : SF Try.prog 16 (V.atS [tab n t, .int .u8 lv, .int .u16 u, .int .u16 v] (.bool true)) := by
  have h24 : SF Try.prog 24 (V.atS [tab n t] (.bool false)) := sf_at sf24L (isTabL.mk t (by omega) rfl) (by show PV.bool (okTb n t) = _; rw [hT])
  refine sf_of types_ok mixed (l := [(17, awakeS), (18, noS), (19, noS), (20, noS), (24, _), (54, noS), (55, noS)]) ⟨sf17', sf_no sf18.2, sf_no sf19.2, sf_no sf20.2, h24, sf_no sf54.2, sf_no sf55.2, trivial⟩ (es := []) trivial 4 Try.func16 rfl (by kernel_rfl) fun args h => ?_
  cases (show args = _ from h)
  refine ⟨rfl, ?_⟩
  repeat' first
    | refine ⟨?_, ?_⟩
    | refine fun h => absurd h (by decide)
    | (refine fun h => ?_; exfalso; simp only [cond_true, cond_false, Bool.not_true, Bool.not_false, Bool.not_not, Bool.and_true, Bool.true_and, Bool.and_false, Bool.false_and, Bool.or_true, Bool.true_or, Bool.or_false, Bool.false_or, beq_self_eq_true, bne_self_eq_false, Bool.true_eq_false, Bool.false_eq_true, reduceCtorEq, Bool.and_self, decide_true, decide_false] at h; done)
    | (refine fun h => ?_; exfalso; simp only [cond_true, cond_false, Bool.not_true, Bool.not_false, Bool.not_not, Bool.and_true, Bool.true_and, Bool.and_false, Bool.false_and, Bool.or_true, Bool.true_or, Bool.or_false, Bool.false_or, beq_self_eq_true, bne_self_eq_false, Bool.true_eq_false, Bool.false_eq_true, reduceCtorEq, Bool.and_self, decide_true, decide_false, Bool.not_eq_true', Bool.not_eq_false', decide_eq_true_eq, decide_eq_false_iff_not, beq_iff_eq, bne_iff_ne, ne_eq, beq_eq_false_iff_ne, bne_eq_false_iff_eq] at h; omega)
    | refine fun _ => ?_
    | refine ple_ok ?_
    | exact (rfl : @Eq (List PV) _ _)
  all_goals first
    | trivial
    | rfl
    | omega
    | (show @Eq Bool _ _; simp only [cond_true, cond_false, Bool.not_true, Bool.not_false, Bool.not_not, Bool.and_true, Bool.true_and, Bool.and_false, Bool.false_and, Bool.or_true, Bool.true_or, Bool.or_false, Bool.false_or, beq_self_eq_true, bne_self_eq_false, Bool.true_eq_false, Bool.false_eq_true, reduceCtorEq, Bool.and_self, decide_true, decide_false]; done)
    | exact isTab.mk t (by omega) rfl
    | (simp only [cond_true, cond_false, Bool.not_true, Bool.not_false, Bool.not_not, Bool.and_true, Bool.true_and, Bool.and_false, Bool.false_and, Bool.or_true, Bool.true_or, Bool.or_false, Bool.false_or, beq_self_eq_true, bne_self_eq_false, Bool.true_eq_false, Bool.false_eq_true, reduceCtorEq, Bool.and_self, decide_true, decide_false]; omega)
    | skip
set_option maxRecDepth 100000 in
set_option maxHeartbeats 8000000 in
theorem linesZE (n : Nat) (t : Nat → Row) (lv u v : Int) (hn : n ≤ 9223372036854775807) (hlv : 0 ≤ lv ∧ lv ≤ 255) (hu : 0 ≤ u ∧ u ≤ 65535) (hv : 0 ≤ v ∧ v ≤ 65535) (hT : okTb n t = true) (K : Nat) (hK : lv.tmod n = K) (hKn : K < n) (hK0 : K = 0) (A B : Int) (hA : (t 0).T + u.tmod ((t (n - 1)).T - (t 0).T + 1) = A) (hB : (t 0).T + v.tmod ((t (n - 1)).T - (t 0).T + 1) = B) (hab : A = B) : SF Try.prog 16 (V.atS [tab n t, .int .u8 lv, .int .u16 u, .int .u16 v] (.bool true)) := by
  have h24 : SF Try.prog 24 (V.atS [tab n t] (.bool true)) := sf_at sf24L (isTabL.mk t (by omega) rfl) (by show PV.bool (okTb n t) = _; rw [hT])
  have hok : okT n t := @of_decide_eq_true _ (Classical.propDecidable _) hT
  have hn2 := hok.1
  have hn20 := hok.2.1
  have ewl : IntKind.i64.wrap lv = lv := w64 (by omega) (by omega)
  have ewn : IntKind.i64.wrap ((n : Int) - 1) = ((n - 1 : Nat) : Int) := by rw [w64 (by omega) (by omega)]; omega
  have wu : IntKind.u32.wrap u = u := w32 hu
  have wv : IntKind.u32.wrap v = v := w32 hv
  have rK := (hok.2.2.all K hKn).1
  have r0 := (hok.2.2.all 0 (by omega)).1
  have rn := (hok.2.2.all (n - 1) (by omega)).1
  simp only [okR] at rK r0 rn
  have tmono : ∀ i j, i ≤ j → j < n → (t i).T ≤ (t j).T := by
    intro i j hij hj
    by_cases he : i = j
    · subst he; omega
    · have := T_lt hok j i (by omega) hj
      omega
  have t0K := tmono 0 K (by omega) hKn
  have tKn := tmono K (n - 1) (by omega) (by omega)
  have t0n := T_lt hok (n - 1) 0 (by omega) (by omega)
  have pA := pick_in (w := u) (show (t 0).T ≤ (t (n - 1)).T by omega) hu.1
  have pB := pick_in (w := v) (show (t 0).T ≤ (t (n - 1)).T by omega) hv.1
  rw [hA] at pA
  rw [hB] at pB
  have sat : ∀ x, (t 0).T ≤ x → x ≤ (t (n - 1)).T → satE n t x = 0 ∧ satV n t x = satB t x (nx t x 1 (n - 1)) := by
    intro x h1 h2
    have hE : satE n t x = 0 := by unfold satE; rw [hT, cond_true, if_pos ⟨h1, h2⟩]
    exact ⟨hE, if_pos hE⟩
  have sK := sat (t K).T t0K tKn
  have sKe := sK.1
  have sKv : satV n t (t K).T = ((t K).P, 1) := by rw [sK.2]; exact sat_at hok hKn rfl
  have lK : lev t (t K).P n = K := lev_mid hok (Int.le_refl _) (fun h => P_lt hok (K + 1) K (by omega) h) n hKn (Nat.le_refl _)
  have aK : atV n t (t K).P = K := by unfold atV; rw [hT, cond_true, lK, if_neg (by omega)]
  have aKe : atE n t (t K).P = 0 := by unfold atE; rw [hT, cond_true, lK, if_neg (by omega)]
  have ewp : IntKind.i64.wrap ((t K).P - 1) = (t K).P - 1 := w64 (by omega) (by omega)
  subst hK0
  have lB : lev t ((t 0).P - 1) n = -1 := lev_none hok (by omega) n (Nat.le_refl _)
  have aB : atV n t ((t 0).P - 1) = 0 := by unfold atV; rw [hT, cond_true, lB, if_pos rfl]
  have aBe : atE n t ((t 0).P - 1) = 7 := by unfold atE; rw [hT, cond_true, lB, if_pos rfl]
  have hK' : lv.tmod n = 0 := hK
  have sA := sat A (by omega) (by omega)
  have sAe := sA.1
  obtain ⟨k1, a1, d1, g1, i1', i2, i3, i4, i5, i6, i7, i8, i9, i10, i11, i12⟩ := sat_nums hok (x := A) (by omega) (by omega)
  have sAv : satV n t A = (((a1 / g1 : Nat) : Int), ((d1 / g1 : Nat) : Int)) := sA.2.trans i6
  obtain ⟨z1, z2, z3, z4, z5⟩ := sat_small i7 i8
  have za : a1 / g1 ≤ a1 := Nat.div_le_self _ _
  have zd : d1 / g1 ≤ d1 := Nat.div_le_self _ _
  generalize a1 / g1 = N1 at *
  generalize d1 / g1 = E1 at *
  have hgp : gcdP (N1 : Int) (E1 : Int) := .mk N1 E1 (by omega) (by omega) rfl rfl
  have c1 : decide ((E1 : Int) < 1) = false := decide_eq_false (by omega)
  have c2 : ((Nat.gcd N1 E1 : Nat) : Int) = 1 := by rw [z1]; rfl
  have c3 : ((Nat.gcd ((N1 : Int)).toNat ((E1 : Int)).toNat : Nat) : Int) = 1 := c2
  subst hab
  have e1 : (if A < A then A else A) = A := by split <;> rfl
  refine sf_of types_ok mixed (l := [(17, awakeS), (18, atS), (19, tabS), (20, satS), (24, _), (54, pickS), (55, gcdS)]) ⟨sf17', sf18, sf19, sf20, h24, sf54, sf55, trivial⟩ (es := []) trivial 4 Try.func16 rfl (by kernel_rfl) fun args h => ?_
  cases (show args = _ from h)
  refine ⟨rfl, ?_⟩
  repeat' first
    | refine ⟨?_, ?_⟩
    | refine fun h => absurd h (by decide)
    | (refine fun h => ?_; exfalso; simp only [rowOf_rowL, ewl, ewn, wu, wv, hK, toNat_self, toNat_zero, hA, hB, sKe, sKv, aK, aKe, ewp, aB, aBe, sAe, sAv, c1, c2, c3, e1, cond_true, cond_false, Bool.not_true, Bool.not_false, Bool.not_not, Bool.and_true, Bool.true_and, Bool.and_false, Bool.false_and, Bool.or_true, Bool.true_or, Bool.or_false, Bool.false_or, beq_self_eq_true, bne_self_eq_false, Bool.true_eq_false, Bool.false_eq_true, reduceCtorEq, Bool.and_self, decide_true, decide_false] at h; done)
    | (refine fun h => ?_; exfalso; simp only [rowOf_rowL, ewl, ewn, wu, wv, hK, toNat_self, toNat_zero, hA, hB, sKe, sKv, aK, aKe, ewp, aB, aBe, sAe, sAv, c1, c2, c3, e1, cond_true, cond_false, Bool.not_true, Bool.not_false, Bool.not_not, Bool.and_true, Bool.true_and, Bool.and_false, Bool.false_and, Bool.or_true, Bool.true_or, Bool.or_false, Bool.false_or, beq_self_eq_true, bne_self_eq_false, Bool.true_eq_false, Bool.false_eq_true, reduceCtorEq, Bool.and_self, decide_true, decide_false, Bool.not_eq_true', Bool.not_eq_false', decide_eq_true_eq, decide_eq_false_iff_not, beq_iff_eq, bne_iff_ne, ne_eq, beq_eq_false_iff_ne, bne_eq_false_iff_eq] at h; omega)
    | refine fun _ => ?_
    | refine ple_ok ?_
    | exact (rfl : @Eq (List PV) _ _)
  all_goals first
    | trivial
    | rfl
    | omega
    | (show @Eq Bool _ _; simp only [rowOf_rowL, ewl, ewn, wu, wv, hK, toNat_self, toNat_zero, hA, hB, sKe, sKv, aK, aKe, ewp, aB, aBe, sAe, sAv, c1, c2, c3, e1, cond_true, cond_false, Bool.not_true, Bool.not_false, Bool.not_not, Bool.and_true, Bool.true_and, Bool.and_false, Bool.false_and, Bool.or_true, Bool.true_or, Bool.or_false, Bool.false_or, beq_self_eq_true, bne_self_eq_false, Bool.true_eq_false, Bool.false_eq_true, reduceCtorEq, Bool.and_self, decide_true, decide_false]; done)
    | exact isTab.mk t (by omega) rfl
    | (simp only [toNat_zero, ewn, toNat_self, wu, wv]; exact pickP.mk (by omega) (by omega))
    | exact hgp
    | (simp only [rowOf_rowL, ewl, ewn, wu, wv, hK, toNat_self, toNat_zero, hA, hB, sKe, sKv, aK, aKe, ewp, aB, aBe, sAe, sAv, c1, c2, c3, e1, cond_true, cond_false, Bool.not_true, Bool.not_false, Bool.not_not, Bool.and_true, Bool.true_and, Bool.and_false, Bool.false_and, Bool.or_true, Bool.true_or, Bool.or_false, Bool.false_or, beq_self_eq_true, bne_self_eq_false, Bool.true_eq_false, Bool.false_eq_true, reduceCtorEq, Bool.and_self, decide_true, decide_false]; omega)
    | skip
set_option maxRecDepth 100000 in
set_option maxHeartbeats 8000000 in
theorem linesZL (n : Nat) (t : Nat → Row) (lv u v : Int) (hn : n ≤ 9223372036854775807) (hlv : 0 ≤ lv ∧ lv ≤ 255) (hu : 0 ≤ u ∧ u ≤ 65535) (hv : 0 ≤ v ∧ v ≤ 65535) (hT : okTb n t = true) (K : Nat) (hK : lv.tmod n = K) (hKn : K < n) (hK0 : K = 0) (A B : Int) (hA : (t 0).T + u.tmod ((t (n - 1)).T - (t 0).T + 1) = A) (hB : (t 0).T + v.tmod ((t (n - 1)).T - (t 0).T + 1) = B) (hab : A < B) : SF Try.prog 16 (V.atS [tab n t, .int .u8 lv, .int .u16 u, .int .u16 v] (.bool true)) := by
  have h24 : SF Try.prog 24 (V.atS [tab n t] (.bool true)) := sf_at sf24L (isTabL.mk t (by omega) rfl) (by show PV.bool (okTb n t) = _; rw [hT])
  have hok : okT n t := @of_decide_eq_true _ (Classical.propDecidable _) hT
  have hn2 := hok.1
  have hn20 := hok.2.1
  have ewl : IntKind.i64.wrap lv = lv := w64 (by omega) (by omega)
  have ewn : IntKind.i64.wrap ((n : Int) - 1) = ((n - 1 : Nat) : Int) := by rw [w64 (by omega) (by omega)]; omega
  have wu : IntKind.u32.wrap u = u := w32 hu
  have wv : IntKind.u32.wrap v = v := w32 hv
  have rK := (hok.2.2.all K hKn).1
  have r0 := (hok.2.2.all 0 (by omega)).1
  have rn := (hok.2.2.all (n - 1) (by omega)).1
  simp only [okR] at rK r0 rn
  have tmono : ∀ i j, i ≤ j → j < n → (t i).T ≤ (t j).T := by
    intro i j hij hj
    by_cases he : i = j
    · subst he; omega
    · have := T_lt hok j i (by omega) hj
      omega
  have t0K := tmono 0 K (by omega) hKn
  have tKn := tmono K (n - 1) (by omega) (by omega)
  have t0n := T_lt hok (n - 1) 0 (by omega) (by omega)
  have pA := pick_in (w := u) (show (t 0).T ≤ (t (n - 1)).T by omega) hu.1
  have pB := pick_in (w := v) (show (t 0).T ≤ (t (n - 1)).T by omega) hv.1
  rw [hA] at pA
  rw [hB] at pB
  have sat : ∀ x, (t 0).T ≤ x → x ≤ (t (n - 1)).T → satE n t x = 0 ∧ satV n t x = satB t x (nx t x 1 (n - 1)) := by
    intro x h1 h2
    have hE : satE n t x = 0 := by unfold satE; rw [hT, cond_true, if_pos ⟨h1, h2⟩]
    exact ⟨hE, if_pos hE⟩
  have sK := sat (t K).T t0K tKn
  have sKe := sK.1
  have sKv : satV n t (t K).T = ((t K).P, 1) := by rw [sK.2]; exact sat_at hok hKn rfl
  have lK : lev t (t K).P n = K := lev_mid hok (Int.le_refl _) (fun h => P_lt hok (K + 1) K (by omega) h) n hKn (Nat.le_refl _)
  have aK : atV n t (t K).P = K := by unfold atV; rw [hT, cond_true, lK, if_neg (by omega)]
  have aKe : atE n t (t K).P = 0 := by unfold atE; rw [hT, cond_true, lK, if_neg (by omega)]
  have ewp : IntKind.i64.wrap ((t K).P - 1) = (t K).P - 1 := w64 (by omega) (by omega)
  subst hK0
  have lB : lev t ((t 0).P - 1) n = -1 := lev_none hok (by omega) n (Nat.le_refl _)
  have aB : atV n t ((t 0).P - 1) = 0 := by unfold atV; rw [hT, cond_true, lB, if_pos rfl]
  have aBe : atE n t ((t 0).P - 1) = 7 := by unfold atE; rw [hT, cond_true, lB, if_pos rfl]
  have hK' : lv.tmod n = 0 := hK
  have sA := sat A (by omega) (by omega)
  have sAe := sA.1
  obtain ⟨k1, a1, d1, g1, i1', i2, i3, i4, i5, i6, i7, i8, i9, i10, i11, i12⟩ := sat_nums hok (x := A) (by omega) (by omega)
  have sAv : satV n t A = (((a1 / g1 : Nat) : Int), ((d1 / g1 : Nat) : Int)) := sA.2.trans i6
  obtain ⟨z1, z2, z3, z4, z5⟩ := sat_small i7 i8
  have za : a1 / g1 ≤ a1 := Nat.div_le_self _ _
  have zd : d1 / g1 ≤ d1 := Nat.div_le_self _ _
  have sB := sat B (by omega) (by omega)
  have sBe := sB.1
  obtain ⟨k2, a2, d2, g2, j1, j2, j3, j4, j5, j6, j7, j8, j9, j10, j11, j12⟩ := sat_nums hok (x := B) (by omega) (by omega)
  have sBv : satV n t B = (((a2 / g2 : Nat) : Int), ((d2 / g2 : Nat) : Int)) := sB.2.trans j6
  obtain ⟨y1, y2, y3, y4, y5⟩ := sat_small j7 j8
  have ya : a2 / g2 ≤ a2 := Nat.div_le_self _ _
  have yd : d2 / g2 ≤ d2 := Nat.div_le_self _ _
  have hlt := small_lt z3 z4 y3 y4 (sat_lt hok (x := A) (y := B) (by omega) i1' i2 i3 i5 j1 j2 j3 j4 j5 i11 i12 j11 j12)
  generalize a2 / g2 = N2 at *
  generalize d2 / g2 = E2 at *
  generalize a1 / g1 = N1 at *
  generalize d1 / g1 = E1 at *
  have hgp : gcdP (N1 : Int) (E1 : Int) := .mk N1 E1 (by omega) (by omega) rfl rfl
  have c1 : decide ((E1 : Int) < 1) = false := decide_eq_false (by omega)
  have c2 : ((Nat.gcd N1 E1 : Nat) : Int) = 1 := by rw [z1]; rfl
  have c3 : ((Nat.gcd ((N1 : Int)).toNat ((E1 : Int)).toNat : Nat) : Int) = 1 := c2
  have m1 : (if B < A then B else A) = A := by split <;> omega
  have m2 : (if B > A then B else A) = B := by split <;> omega
  have f4 : (A == B) = false := by rw [beq_eq_false_iff_ne]; omega
  have f5 : (A != B) = true := by rw [bne_iff_ne]; omega
  have c4 : decide ((E2 : Int) < 1) = false := decide_eq_false (by omega)
  have q1 := Int.mul_nonneg (show 0 ≤ (N1 : Int) by omega) (show 0 ≤ (E2 : Int) by omega)
  have q2 := Int.mul_nonneg (show 0 ≤ (N2 : Int) by omega) (show 0 ≤ (E1 : Int) by omega)
  have q3 := Int.mul_le_mul (show (N1 : Int) ≤ 8000000 by omega) (show (E2 : Int) ≤ 400 by omega) (by omega) (by omega)
  have q4 := Int.mul_le_mul (show (N2 : Int) ≤ 8000000 by omega) (show (E1 : Int) ≤ 400 by omega) (by omega) (by omega)
  have w1 : IntKind.i64.wrap ((N1 : Int) * (E2 : Int)) = (N1 : Int) * (E2 : Int) := w64 (by omega) (by omega)
  have w2 : IntKind.i64.wrap ((N2 : Int) * (E1 : Int)) = (N2 : Int) * (E1 : Int) := w64 (by omega) (by omega)
  have w3 : decide ((N1 : Int) * (E2 : Int) < (N2 : Int) * (E1 : Int)) = true := decide_eq_true hlt
  refine sf_of types_ok mixed (l := [(17, awakeS), (18, atS), (19, tabS), (20, satS), (24, _), (54, pickS), (55, gcdS)]) ⟨sf17', sf18, sf19, sf20, h24, sf54, sf55, trivial⟩ (es := []) trivial 4 Try.func16 rfl (by kernel_rfl) fun args h => ?_
  cases (show args = _ from h)
  refine ⟨rfl, ?_⟩
  repeat' first
    | refine ⟨?_, ?_⟩
    | refine fun h => absurd h (by decide)
    | (refine fun h => ?_; exfalso; simp only [rowOf_rowL, ewl, ewn, wu, wv, hK, toNat_self, toNat_zero, hA, hB, sKe, sKv, aK, aKe, ewp, aB, aBe, sAe, sAv, c1, c2, c3, m1, m2, f4, f5, sBe, sBv, c4, w1, w2, w3, cond_true, cond_false, Bool.not_true, Bool.not_false, Bool.not_not, Bool.and_true, Bool.true_and, Bool.and_false, Bool.false_and, Bool.or_true, Bool.true_or, Bool.or_false, Bool.false_or, beq_self_eq_true, bne_self_eq_false, Bool.true_eq_false, Bool.false_eq_true, reduceCtorEq, Bool.and_self, decide_true, decide_false] at h; done)
    | (refine fun h => ?_; exfalso; simp only [rowOf_rowL, ewl, ewn, wu, wv, hK, toNat_self, toNat_zero, hA, hB, sKe, sKv, aK, aKe, ewp, aB, aBe, sAe, sAv, c1, c2, c3, m1, m2, f4, f5, sBe, sBv, c4, w1, w2, w3, cond_true, cond_false, Bool.not_true, Bool.not_false, Bool.not_not, Bool.and_true, Bool.true_and, Bool.and_false, Bool.false_and, Bool.or_true, Bool.true_or, Bool.or_false, Bool.false_or, beq_self_eq_true, bne_self_eq_false, Bool.true_eq_false, Bool.false_eq_true, reduceCtorEq, Bool.and_self, decide_true, decide_false, Bool.not_eq_true', Bool.not_eq_false', decide_eq_true_eq, decide_eq_false_iff_not, beq_iff_eq, bne_iff_ne, ne_eq, beq_eq_false_iff_ne, bne_eq_false_iff_eq] at h; omega)
    | refine fun _ => ?_
    | refine ple_ok ?_
    | exact (rfl : @Eq (List PV) _ _)
  all_goals first
    | trivial
    | rfl
    | omega
    | (show @Eq Bool _ _; simp only [rowOf_rowL, ewl, ewn, wu, wv, hK, toNat_self, toNat_zero, hA, hB, sKe, sKv, aK, aKe, ewp, aB, aBe, sAe, sAv, c1, c2, c3, m1, m2, f4, f5, sBe, sBv, c4, w1, w2, w3, cond_true, cond_false, Bool.not_true, Bool.not_false, Bool.not_not, Bool.and_true, Bool.true_and, Bool.and_false, Bool.false_and, Bool.or_true, Bool.true_or, Bool.or_false, Bool.false_or, beq_self_eq_true, bne_self_eq_false, Bool.true_eq_false, Bool.false_eq_true, reduceCtorEq, Bool.and_self, decide_true, decide_false]; done)
    | exact isTab.mk t (by omega) rfl
    | (simp only [toNat_zero, ewn, toNat_self, wu, wv]; exact pickP.mk (by omega) (by omega))
    | exact hgp
    | (simp only [rowOf_rowL, ewl, ewn, wu, wv, hK, toNat_self, toNat_zero, hA, hB, sKe, sKv, aK, aKe, ewp, aB, aBe, sAe, sAv, c1, c2, c3, m1, m2, f4, f5, sBe, sBv, c4, w1, w2, w3, cond_true, cond_false, Bool.not_true, Bool.not_false, Bool.not_not, Bool.and_true, Bool.true_and, Bool.and_false, Bool.false_and, Bool.or_true, Bool.true_or, Bool.or_false, Bool.false_or, beq_self_eq_true, bne_self_eq_false, Bool.true_eq_false, Bool.false_eq_true, reduceCtorEq, Bool.and_self, decide_true, decide_false]; omega)
    | skip
set_option maxRecDepth 100000 in
set_option maxHeartbeats 8000000 in
theorem linesZG (n : Nat) (t : Nat → Row) (lv u v : Int) (hn : n ≤ 9223372036854775807) (hlv : 0 ≤ lv ∧ lv ≤ 255) (hu : 0 ≤ u ∧ u ≤ 65535) (hv : 0 ≤ v ∧ v ≤ 65535) (hT : okTb n t = true) (K : Nat) (hK : lv.tmod n = K) (hKn : K < n) (hK0 : K = 0) (A B : Int) (hA : (t 0).T + u.tmod ((t (n - 1)).T - (t 0).T + 1) = A) (hB : (t 0).T + v.tmod ((t (n - 1)).T - (t 0).T + 1) = B) (hab : B < A) : SF Try.prog 16 (V.atS [tab n t, .int .u8 lv, .int .u16 u, .int .u16 v] (.bool true)) := by
  have h24 : SF Try.prog 24 (V.atS [tab n t] (.bool true)) := sf_at sf24L (isTabL.mk t (by omega) rfl) (by show PV.bool (okTb n t) = _; rw [hT])
  have hok : okT n t := @of_decide_eq_true _ (Classical.propDecidable _) hT
  have hn2 := hok.1
  have hn20 := hok.2.1
  have ewl : IntKind.i64.wrap lv = lv := w64 (by omega) (by omega)
  have ewn : IntKind.i64.wrap ((n : Int) - 1) = ((n - 1 : Nat) : Int) := by rw [w64 (by omega) (by omega)]; omega
  have wu : IntKind.u32.wrap u = u := w32 hu
  have wv : IntKind.u32.wrap v = v := w32 hv
  have rK := (hok.2.2.all K hKn).1
  have r0 := (hok.2.2.all 0 (by omega)).1
  have rn := (hok.2.2.all (n - 1) (by omega)).1
  simp only [okR] at rK r0 rn
  have tmono : ∀ i j, i ≤ j → j < n → (t i).T ≤ (t j).T := by
    intro i j hij hj
    by_cases he : i = j
    · subst he; omega
    · have := T_lt hok j i (by omega) hj
      omega
  have t0K := tmono 0 K (by omega) hKn
  have tKn := tmono K (n - 1) (by omega) (by omega)
  have t0n := T_lt hok (n - 1) 0 (by omega) (by omega)
  have pA := pick_in (w := u) (show (t 0).T ≤ (t (n - 1)).T by omega) hu.1
  have pB := pick_in (w := v) (show (t 0).T ≤ (t (n - 1)).T by omega) hv.1
  rw [hA] at pA
  rw [hB] at pB
  have sat : ∀ x, (t 0).T ≤ x → x ≤ (t (n - 1)).T → satE n t x = 0 ∧ satV n t x = satB t x (nx t x 1 (n - 1)) := by
    intro x h1 h2
    have hE : satE n t x = 0 := by unfold satE; rw [hT, cond_true, if_pos ⟨h1, h2⟩]
    exact ⟨hE, if_pos hE⟩
  have sK := sat (t K).T t0K tKn
  have sKe := sK.1
  have sKv : satV n t (t K).T = ((t K).P, 1) := by rw [sK.2]; exact sat_at hok hKn rfl
  have lK : lev t (t K).P n = K := lev_mid hok (Int.le_refl _) (fun h => P_lt hok (K + 1) K (by omega) h) n hKn (Nat.le_refl _)
  have aK : atV n t (t K).P = K := by unfold atV; rw [hT, cond_true, lK, if_neg (by omega)]
  have aKe : atE n t (t K).P = 0 := by unfold atE; rw [hT, cond_true, lK, if_neg (by omega)]
  have ewp : IntKind.i64.wrap ((t K).P - 1) = (t K).P - 1 := w64 (by omega) (by omega)
  subst hK0
  have lB : lev t ((t 0).P - 1) n = -1 := lev_none hok (by omega) n (Nat.le_refl _)
  have aB : atV n t ((t 0).P - 1) = 0 := by unfold atV; rw [hT, cond_true, lB, if_pos rfl]
  have aBe : atE n t ((t 0).P - 1) = 7 := by unfold atE; rw [hT, cond_true, lB, if_pos rfl]
  have hK' : lv.tmod n = 0 := hK
  have sA := sat B (by omega) (by omega)
  have sAe := sA.1
  obtain ⟨k1, a1, d1, g1, i1', i2, i3, i4, i5, i6, i7, i8, i9, i10, i11, i12⟩ := sat_nums hok (x := B) (by omega) (by omega)
  have sAv : satV n t B = (((a1 / g1 : Nat) : Int), ((d1 / g1 : Nat) : Int)) := sA.2.trans i6
  obtain ⟨z1, z2, z3, z4, z5⟩ := sat_small i7 i8
  have za : a1 / g1 ≤ a1 := Nat.div_le_self _ _
  have zd : d1 / g1 ≤ d1 := Nat.div_le_self _ _
  have sB := sat A (by omega) (by omega)
  have sBe := sB.1
  obtain ⟨k2, a2, d2, g2, j1, j2, j3, j4, j5, j6, j7, j8, j9, j10, j11, j12⟩ := sat_nums hok (x := A) (by omega) (by omega)
  have sBv : satV n t A = (((a2 / g2 : Nat) : Int), ((d2 / g2 : Nat) : Int)) := sB.2.trans j6
  obtain ⟨y1, y2, y3, y4, y5⟩ := sat_small j7 j8
  have ya : a2 / g2 ≤ a2 := Nat.div_le_self _ _
  have yd : d2 / g2 ≤ d2 := Nat.div_le_self _ _
  have hlt := small_lt z3 z4 y3 y4 (sat_lt hok (x := B) (y := A) (by omega) i1' i2 i3 i5 j1 j2 j3 j4 j5 i11 i12 j11 j12)
  generalize a2 / g2 = N2 at *
  generalize d2 / g2 = E2 at *
  generalize a1 / g1 = N1 at *
  generalize d1 / g1 = E1 at *
  have hgp : gcdP (N1 : Int) (E1 : Int) := .mk N1 E1 (by omega) (by omega) rfl rfl
  have c1 : decide ((E1 : Int) < 1) = false := decide_eq_false (by omega)
  have c2 : ((Nat.gcd N1 E1 : Nat) : Int) = 1 := by rw [z1]; rfl
  have c3 : ((Nat.gcd ((N1 : Int)).toNat ((E1 : Int)).toNat : Nat) : Int) = 1 := c2
  have m1 : (if B < A then B else A) = B := by split <;> omega
  have m2 : (if B > A then B else A) = A := by split <;> omega
  have f4 : (A == B) = false := by rw [beq_eq_false_iff_ne]; omega
  have f5 : (A != B) = true := by rw [bne_iff_ne]; omega
  have c4 : decide ((E2 : Int) < 1) = false := decide_eq_false (by omega)
  have q1 := Int.mul_nonneg (show 0 ≤ (N1 : Int) by omega) (show 0 ≤ (E2 : Int) by omega)
  have q2 := Int.mul_nonneg (show 0 ≤ (N2 : Int) by omega) (show 0 ≤ (E1 : Int) by omega)
  have q3 := Int.mul_le_mul (show (N1 : Int) ≤ 8000000 by omega) (show (E2 : Int) ≤ 400 by omega) (by omega) (by omega)
  have q4 := Int.mul_le_mul (show (N2 : Int) ≤ 8000000 by omega) (show (E1 : Int) ≤ 400 by omega) (by omega) (by omega)
  have w1 : IntKind.i64.wrap ((N1 : Int) * (E2 : Int)) = (N1 : Int) * (E2 : Int) := w64 (by omega) (by omega)
  have w2 : IntKind.i64.wrap ((N2 : Int) * (E1 : Int)) = (N2 : Int) * (E1 : Int) := w64 (by omega) (by omega)
  have w3 : decide ((N1 : Int) * (E2 : Int) < (N2 : Int) * (E1 : Int)) = true := decide_eq_true hlt
  refine sf_of types_ok mixed (l := [(17, awakeS), (18, atS), (19, tabS), (20, satS), (24, _), (54, pickS), (55, gcdS)]) ⟨sf17', sf18, sf19, sf20, h24, sf54, sf55, trivial⟩ (es := []) trivial 4 Try.func16 rfl (by kernel_rfl) fun args h => ?_
  cases (show args = _ from h)
  refine ⟨rfl, ?_⟩
  repeat' first
    | refine ⟨?_, ?_⟩
    | refine fun h => absurd h (by decide)
    | (refine fun h => ?_; exfalso; simp only [rowOf_rowL, ewl, ewn, wu, wv, hK, toNat_self, toNat_zero, hA, hB, sKe, sKv, aK, aKe, ewp, aB, aBe, sAe, sAv, c1, c2, c3, m1, m2, f4, f5, sBe, sBv, c4, w1, w2, w3, cond_true, cond_false, Bool.not_true, Bool.not_false, Bool.not_not, Bool.and_true, Bool.true_and, Bool.and_false, Bool.false_and, Bool.or_true, Bool.true_or, Bool.or_false, Bool.false_or, beq_self_eq_true, bne_self_eq_false, Bool.true_eq_false, Bool.false_eq_true, reduceCtorEq, Bool.and_self, decide_true, decide_false] at h; done)
    | (refine fun h => ?_; exfalso; simp only [rowOf_rowL, ewl, ewn, wu, wv, hK, toNat_self, toNat_zero, hA, hB, sKe, sKv, aK, aKe, ewp, aB, aBe, sAe, sAv, c1, c2, c3, m1, m2, f4, f5, sBe, sBv, c4, w1, w2, w3, cond_true, cond_false, Bool.not_true, Bool.not_false, Bool.not_not, Bool.and_true, Bool.true_and, Bool.and_false, Bool.false_and, Bool.or_true, Bool.true_or, Bool.or_false, Bool.false_or, beq_self_eq_true, bne_self_eq_false, Bool.true_eq_false, Bool.false_eq_true, reduceCtorEq, Bool.and_self, decide_true, decide_false, Bool.not_eq_true', Bool.not_eq_false', decide_eq_true_eq, decide_eq_false_iff_not, beq_iff_eq, bne_iff_ne, ne_eq, beq_eq_false_iff_ne, bne_eq_false_iff_eq] at h; omega)
    | refine fun _ => ?_
    | refine ple_ok ?_
    | exact (rfl : @Eq (List PV) _ _)
  all_goals first
    | trivial
    | rfl
    | omega
    | (show @Eq Bool _ _; simp only [rowOf_rowL, ewl, ewn, wu, wv, hK, toNat_self, toNat_zero, hA, hB, sKe, sKv, aK, aKe, ewp, aB, aBe, sAe, sAv, c1, c2, c3, m1, m2, f4, f5, sBe, sBv, c4, w1, w2, w3, cond_true, cond_false, Bool.not_true, Bool.not_false, Bool.not_not, Bool.and_true, Bool.true_and, Bool.and_false, Bool.false_and, Bool.or_true, Bool.true_or, Bool.or_false, Bool.false_or, beq_self_eq_true, bne_self_eq_false, Bool.true_eq_false, Bool.false_eq_true, reduceCtorEq, Bool.and_self, decide_true, decide_false]; done)
    | exact isTab.mk t (by omega) rfl
    | (simp only [toNat_zero, ewn, toNat_self, wu, wv]; exact pickP.mk (by omega) (by omega))
    | exact hgp
    | (simp only [rowOf_rowL, ewl, ewn, wu, wv, hK, toNat_self, toNat_zero, hA, hB, sKe, sKv, aK, aKe, ewp, aB, aBe, sAe, sAv, c1, c2, c3, m1, m2, f4, f5, sBe, sBv, c4, w1, w2, w3, cond_true, cond_false, Bool.not_true, Bool.not_false, Bool.not_not, Bool.and_true, Bool.true_and, Bool.and_false, Bool.false_and, Bool.or_true, Bool.true_or, Bool.or_false, Bool.false_or, beq_self_eq_true, bne_self_eq_false, Bool.true_eq_false, Bool.false_eq_true, reduceCtorEq, Bool.and_self, decide_true, decide_false]; omega)
    | skip
set_option maxRecDepth 100000 in
set_option maxHeartbeats 8000000 in
theorem linesPE (n : Nat) (t : Nat → Row) (lv u v : Int) (hn : n ≤ 9223372036854775807) (hlv : 0 ≤ lv ∧ lv ≤ 255) (hu : 0 ≤ u ∧ u ≤ 65535) (hv : 0 ≤ v ∧ v ≤ 65535) (hT : okTb n t = true) (K : Nat) (hK : lv.tmod n = K) (hKn : K < n) (hK0 : 0 < K) (A B : Int) (hA : (t 0).T + u.tmod ((t (n - 1)).T - (t 0).T + 1) = A) (hB : (t 0).T + v.tmod ((t (n - 1)).T - (t 0).T + 1) = B) (hab : A = B) : SF Try.prog 16 (V.atS [tab n t, .int .u8 lv, .int .u16 u, .int .u16 v] (.bool true)) := by
  have h24 : SF Try.prog 24 (V.atS [tab n t] (.bool true)) := sf_at sf24L (isTabL.mk t (by omega) rfl) (by show PV.bool (okTb n t) = _; rw [hT])
  have hok : okT n t := @of_decide_eq_true _ (Classical.propDecidable _) hT
  have hn2 := hok.1
  have hn20 := hok.2.1
  have ewl : IntKind.i64.wrap lv = lv := w64 (by omega) (by omega)
  have ewn : IntKind.i64.wrap ((n : Int) - 1) = ((n - 1 : Nat) : Int) := by rw [w64 (by omega) (by omega)]; omega
  have wu : IntKind.u32.wrap u = u := w32 hu
  have wv : IntKind.u32.wrap v = v := w32 hv
  have rK := (hok.2.2.all K hKn).1
  have r0 := (hok.2.2.all 0 (by omega)).1
  have rn := (hok.2.2.all (n - 1) (by omega)).1
  simp only [okR] at rK r0 rn
  have tmono : ∀ i j, i ≤ j → j < n → (t i).T ≤ (t j).T := by
    intro i j hij hj
    by_cases he : i = j
    · subst he; omega
    · have := T_lt hok j i (by omega) hj
      omega
  have t0K := tmono 0 K (by omega) hKn
  have tKn := tmono K (n - 1) (by omega) (by omega)
  have t0n := T_lt hok (n - 1) 0 (by omega) (by omega)
  have pA := pick_in (w := u) (show (t 0).T ≤ (t (n - 1)).T by omega) hu.1
  have pB := pick_in (w := v) (show (t 0).T ≤ (t (n - 1)).T by omega) hv.1
  rw [hA] at pA
  rw [hB] at pB
  have sat : ∀ x, (t 0).T ≤ x → x ≤ (t (n - 1)).T → satE n t x = 0 ∧ satV n t x = satB t x (nx t x 1 (n - 1)) := by
    intro x h1 h2
    have hE : satE n t x = 0 := by unfold satE; rw [hT, cond_true, if_pos ⟨h1, h2⟩]
    exact ⟨hE, if_pos hE⟩
  have sK := sat (t K).T t0K tKn
  have sKe := sK.1
  have sKv : satV n t (t K).T = ((t K).P, 1) := by rw [sK.2]; exact sat_at hok hKn rfl
  have lK : lev t (t K).P n = K := lev_mid hok (Int.le_refl _) (fun h => P_lt hok (K + 1) K (by omega) h) n hKn (Nat.le_refl _)
  have aK : atV n t (t K).P = K := by unfold atV; rw [hT, cond_true, lK, if_neg (by omega)]
  have aKe : atE n t (t K).P = 0 := by unfold atE; rw [hT, cond_true, lK, if_neg (by omega)]
  have ewp : IntKind.i64.wrap ((t K).P - 1) = (t K).P - 1 := w64 (by omega) (by omega)
  obtain ⟨J, rfl⟩ : ∃ J, K = J + 1 := ⟨K - 1, by omega⟩
  have pJ := P_lt hok (J + 1) J (by omega) hKn
  have lB : lev t ((t (J + 1)).P - 1) n = J := lev_mid hok (by omega) (fun _ => by omega) n (by omega) (Nat.le_refl _)
  have aB : atV n t ((t (J + 1)).P - 1) = J := by unfold atV; rw [hT, cond_true, lB, if_neg (by omega)]
  have aBe : atE n t ((t (J + 1)).P - 1) = 0 := by unfold atE; rw [hT, cond_true, lB, if_neg (by omega)]
  have f1 : (((J + 1 : Nat) : Int) == 0) = false := by rw [beq_eq_false_iff_ne]; omega
  have f2 : decide (0 < ((J + 1 : Nat) : Int)) = true := decide_eq_true (by omega)
  have f3 : IntKind.i64.wrap (((J + 1 : Nat) : Int) - 1) = (J : Int) := by rw [w64 (by omega) (by omega)]; omega
  have sA := sat A (by omega) (by omega)
  have sAe := sA.1
  obtain ⟨k1, a1, d1, g1, i1', i2, i3, i4, i5, i6, i7, i8, i9, i10, i11, i12⟩ := sat_nums hok (x := A) (by omega) (by omega)
  have sAv : satV n t A = (((a1 / g1 : Nat) : Int), ((d1 / g1 : Nat) : Int)) := sA.2.trans i6
  obtain ⟨z1, z2, z3, z4, z5⟩ := sat_small i7 i8
  have za : a1 / g1 ≤ a1 := Nat.div_le_self _ _
  have zd : d1 / g1 ≤ d1 := Nat.div_le_self _ _
  generalize a1 / g1 = N1 at *
  generalize d1 / g1 = E1 at *
  have hgp : gcdP (N1 : Int) (E1 : Int) := .mk N1 E1 (by omega) (by omega) rfl rfl
  have c1 : decide ((E1 : Int) < 1) = false := decide_eq_false (by omega)
  have c2 : ((Nat.gcd N1 E1 : Nat) : Int) = 1 := by rw [z1]; rfl
  have c3 : ((Nat.gcd ((N1 : Int)).toNat ((E1 : Int)).toNat : Nat) : Int) = 1 := c2
  subst hab
  have e1 : (if A < A then A else A) = A := by split <;> rfl
  refine sf_of types_ok mixed (l := [(17, awakeS), (18, atS), (19, tabS), (20, satS), (24, _), (54, pickS), (55, gcdS)]) ⟨sf17', sf18, sf19, sf20, h24, sf54, sf55, trivial⟩ (es := []) trivial 4 Try.func16 rfl (by kernel_rfl) fun args h => ?_
  cases (show args = _ from h)
  refine ⟨rfl, ?_⟩
  repeat' first
    | refine ⟨?_, ?_⟩
    | refine fun h => absurd h (by decide)
    | (refine fun h => ?_; exfalso; simp only [rowOf_rowL, ewl, ewn, wu, wv, hK, toNat_self, toNat_zero, hA, hB, sKe, sKv, aK, aKe, ewp, aB, aBe, sAe, sAv, c1, c2, c3, f1, f2, f3, e1, cond_true, cond_false, Bool.not_true, Bool.not_false, Bool.not_not, Bool.and_true, Bool.true_and, Bool.and_false, Bool.false_and, Bool.or_true, Bool.true_or, Bool.or_false, Bool.false_or, beq_self_eq_true, bne_self_eq_false, Bool.true_eq_false, Bool.false_eq_true, reduceCtorEq, Bool.and_self, decide_true, decide_false] at h; done)
    | (refine fun h => ?_; exfalso; simp only [rowOf_rowL, ewl, ewn, wu, wv, hK, toNat_self, toNat_zero, hA, hB, sKe, sKv, aK, aKe, ewp, aB, aBe, sAe, sAv, c1, c2, c3, f1, f2, f3, e1, cond_true, cond_false, Bool.not_true, Bool.not_false, Bool.not_not, Bool.and_true, Bool.true_and, Bool.and_false, Bool.false_and, Bool.or_true, Bool.true_or, Bool.or_false, Bool.false_or, beq_self_eq_true, bne_self_eq_false, Bool.true_eq_false, Bool.false_eq_true, reduceCtorEq, Bool.and_self, decide_true, decide_false, Bool.not_eq_true', Bool.not_eq_false', decide_eq_true_eq, decide_eq_false_iff_not, beq_iff_eq, bne_iff_ne, ne_eq, beq_eq_false_iff_ne, bne_eq_false_iff_eq] at h; omega)
    | refine fun _ => ?_
    | refine ple_ok ?_
    | exact (rfl : @Eq (List PV) _ _)
  all_goals first
    | trivial
    | rfl
    | omega
    | (show @Eq Bool _ _; simp only [rowOf_rowL, ewl, ewn, wu, wv, hK, toNat_self, toNat_zero, hA, hB, sKe, sKv, aK, aKe, ewp, aB, aBe, sAe, sAv, c1, c2, c3, f1, f2, f3, e1, cond_true, cond_false, Bool.not_true, Bool.not_false, Bool.not_not, Bool.and_true, Bool.true_and, Bool.and_false, Bool.false_and, Bool.or_true, Bool.true_or, Bool.or_false, Bool.false_or, beq_self_eq_true, bne_self_eq_false, Bool.true_eq_false, Bool.false_eq_true, reduceCtorEq, Bool.and_self, decide_true, decide_false]; done)
    | exact isTab.mk t (by omega) rfl
    | (simp only [toNat_zero, ewn, toNat_self, wu, wv]; exact pickP.mk (by omega) (by omega))
    | exact hgp
    | (simp only [rowOf_rowL, ewl, ewn, wu, wv, hK, toNat_self, toNat_zero, hA, hB, sKe, sKv, aK, aKe, ewp, aB, aBe, sAe, sAv, c1, c2, c3, f1, f2, f3, e1, cond_true, cond_false, Bool.not_true, Bool.not_false, Bool.not_not, Bool.and_true, Bool.true_and, Bool.and_false, Bool.false_and, Bool.or_true, Bool.true_or, Bool.or_false, Bool.false_or, beq_self_eq_true, bne_self_eq_false, Bool.true_eq_false, Bool.false_eq_true, reduceCtorEq, Bool.and_self, decide_true, decide_false]; omega)
    | skip
set_option maxRecDepth 100000 in
set_option maxHeartbeats 8000000 in
theorem linesPL (n : Nat) (t : Nat → Row) (lv u v : Int) (hn : n ≤ 9223372036854775807) (hlv : 0 ≤ lv ∧ lv ≤ 255) (hu : 0 ≤ u ∧ u ≤ 65535) (hv : 0 ≤ v ∧ v ≤ 65535) (hT : okTb n t = true) (K : Nat) (hK : lv.tmod n = K) (hKn : K < n) (hK0 : 0 < K) (A B : Int) (hA : (t 0).T + u.tmod ((t (n - 1)).T - (t 0).T + 1) = A) (hB : (t 0).T + v.tmod ((t (n - 1)).T - (t 0).T + 1) = B) (hab : A < B) : SF Try.prog 16 (V.atS [tab n t, .int .u8 lv, .int .u16 u, .int .u16 v] (.bool true)) := by
  have h24 : SF Try.prog 24 (V.atS [tab n t] (.bool true)) := sf_at sf24L (isTabL.mk t (by omega) rfl) (by show PV.bool (okTb n t) = _; rw [hT])
  have hok : okT n t := @of_decide_eq_true _ (Classical.propDecidable _) hT
  have hn2 := hok.1
  have hn20 := hok.2.1
  have ewl : IntKind.i64.wrap lv = lv := w64 (by omega) (by omega)
  have ewn : IntKind.i64.wrap ((n : Int) - 1) = ((n - 1 : Nat) : Int) := by rw [w64 (by omega) (by omega)]; omega
  have wu : IntKind.u32.wrap u = u := w32 hu
  have wv : IntKind.u32.wrap v = v := w32 hv
  have rK := (hok.2.2.all K hKn).1
  have r0 := (hok.2.2.all 0 (by omega)).1
  have rn := (hok.2.2.all (n - 1) (by omega)).1
  simp only [okR] at rK r0 rn
  have tmono : ∀ i j, i ≤ j → j < n → (t i).T ≤ (t j).T := by
    intro i j hij hj
    by_cases he : i = j
    · subst he; omega
    · have := T_lt hok j i (by omega) hj
      omega
  have t0K := tmono 0 K (by omega) hKn
  have tKn := tmono K (n - 1) (by omega) (by omega)
  have t0n := T_lt hok (n - 1) 0 (by omega) (by omega)
  have pA := pick_in (w := u) (show (t 0).T ≤ (t (n - 1)).T by omega) hu.1
  have pB := pick_in (w := v) (show (t 0).T ≤ (t (n - 1)).T by omega) hv.1
  rw [hA] at pA
  rw [hB] at pB
  have sat : ∀ x, (t 0).T ≤ x → x ≤ (t (n - 1)).T → satE n t x = 0 ∧ satV n t x = satB t x (nx t x 1 (n - 1)) := by
    intro x h1 h2
    have hE : satE n t x = 0 := by unfold satE; rw [hT, cond_true, if_pos ⟨h1, h2⟩]
    exact ⟨hE, if_pos hE⟩
  have sK := sat (t K).T t0K tKn
  have sKe := sK.1
  have sKv : satV n t (t K).T = ((t K).P, 1) := by rw [sK.2]; exact sat_at hok hKn rfl
  have lK : lev t (t K).P n = K := lev_mid hok (Int.le_refl _) (fun h => P_lt hok (K + 1) K (by omega) h) n hKn (Nat.le_refl _)
  have aK : atV n t (t K).P = K := by unfold atV; rw [hT, cond_true, lK, if_neg (by omega)]
  have aKe : atE n t (t K).P = 0 := by unfold atE; rw [hT, cond_true, lK, if_neg (by omega)]
  have ewp : IntKind.i64.wrap ((t K).P - 1) = (t K).P - 1 := w64 (by omega) (by omega)
  obtain ⟨J, rfl⟩ : ∃ J, K = J + 1 := ⟨K - 1, by omega⟩
  have pJ := P_lt hok (J + 1) J (by omega) hKn
  have lB : lev t ((t (J + 1)).P - 1) n = J := lev_mid hok (by omega) (fun _ => by omega) n (by omega) (Nat.le_refl _)
  have aB : atV n t ((t (J + 1)).P - 1) = J := by unfold atV; rw [hT, cond_true, lB, if_neg (by omega)]
  have aBe : atE n t ((t (J + 1)).P - 1) = 0 := by unfold atE; rw [hT, cond_true, lB, if_neg (by omega)]
  have f1 : (((J + 1 : Nat) : Int) == 0) = false := by rw [beq_eq_false_iff_ne]; omega
  have f2 : decide (0 < ((J + 1 : Nat) : Int)) = true := decide_eq_true (by omega)
  have f3 : IntKind.i64.wrap (((J + 1 : Nat) : Int) - 1) = (J : Int) := by rw [w64 (by omega) (by omega)]; omega
  have sA := sat A (by omega) (by omega)
  have sAe := sA.1
  obtain ⟨k1, a1, d1, g1, i1', i2, i3, i4, i5, i6, i7, i8, i9, i10, i11, i12⟩ := sat_nums hok (x := A) (by omega) (by omega)
  have sAv : satV n t A = (((a1 / g1 : Nat) : Int), ((d1 / g1 : Nat) : Int)) := sA.2.trans i6
  obtain ⟨z1, z2, z3, z4, z5⟩ := sat_small i7 i8
  have za : a1 / g1 ≤ a1 := Nat.div_le_self _ _
  have zd : d1 / g1 ≤ d1 := Nat.div_le_self _ _
  have sB := sat B (by omega) (by omega)
  have sBe := sB.1
  obtain ⟨k2, a2, d2, g2, j1, j2, j3, j4, j5, j6, j7, j8, j9, j10, j11, j12⟩ := sat_nums hok (x := B) (by omega) (by omega)
  have sBv : satV n t B = (((a2 / g2 : Nat) : Int), ((d2 / g2 : Nat) : Int)) := sB.2.trans j6
  obtain ⟨y1, y2, y3, y4, y5⟩ := sat_small j7 j8
  have ya : a2 / g2 ≤ a2 := Nat.div_le_self _ _
  have yd : d2 / g2 ≤ d2 := Nat.div_le_self _ _
  have hlt := small_lt z3 z4 y3 y4 (sat_lt hok (x := A) (y := B) (by omega) i1' i2 i3 i5 j1 j2 j3 j4 j5 i11 i12 j11 j12)
  generalize a2 / g2 = N2 at *
  generalize d2 / g2 = E2 at *
  generalize a1 / g1 = N1 at *
  generalize d1 / g1 = E1 at *
  have hgp : gcdP (N1 : Int) (E1 : Int) := .mk N1 E1 (by omega) (by omega) rfl rfl
  have c1 : decide ((E1 : Int) < 1) = false := decide_eq_false (by omega)
  have c2 : ((Nat.gcd N1 E1 : Nat) : Int) = 1 := by rw [z1]; rfl
  have c3 : ((Nat.gcd ((N1 : Int)).toNat ((E1 : Int)).toNat : Nat) : Int) = 1 := c2
  have m1 : (if B < A then B else A) = A := by split <;> omega
  have m2 : (if B > A then B else A) = B := by split <;> omega
  have f4 : (A == B) = false := by rw [beq_eq_false_iff_ne]; omega
  have f5 : (A != B) = true := by rw [bne_iff_ne]; omega
  have c4 : decide ((E2 : Int) < 1) = false := decide_eq_false (by omega)
  have q1 := Int.mul_nonneg (show 0 ≤ (N1 : Int) by omega) (show 0 ≤ (E2 : Int) by omega)
  have q2 := Int.mul_nonneg (show 0 ≤ (N2 : Int) by omega) (show 0 ≤ (E1 : Int) by omega)
  have q3 := Int.mul_le_mul (show (N1 : Int) ≤ 8000000 by omega) (show (E2 : Int) ≤ 400 by omega) (by omega) (by omega)
  have q4 := Int.mul_le_mul (show (N2 : Int) ≤ 8000000 by omega) (show (E1 : Int) ≤ 400 by omega) (by omega) (by omega)
  have w1 : IntKind.i64.wrap ((N1 : Int) * (E2 : Int)) = (N1 : Int) * (E2 : Int) := w64 (by omega) (by omega)
  have w2 : IntKind.i64.wrap ((N2 : Int) * (E1 : Int)) = (N2 : Int) * (E1 : Int) := w64 (by omega) (by omega)
  have w3 : decide ((N1 : Int) * (E2 : Int) < (N2 : Int) * (E1 : Int)) = true := decide_eq_true hlt
  refine sf_of types_ok mixed (l := [(17, awakeS), (18, atS), (19, tabS), (20, satS), (24, _), (54, pickS), (55, gcdS)]) ⟨sf17', sf18, sf19, sf20, h24, sf54, sf55, trivial⟩ (es := []) trivial 4 Try.func16 rfl (by kernel_rfl) fun args h => ?_
  cases (show args = _ from h)
  refine ⟨rfl, ?_⟩
  repeat' first
    | refine ⟨?_, ?_⟩
    | refine fun h => absurd h (by decide)
    | (refine fun h => ?_; exfalso; simp only [rowOf_rowL, ewl, ewn, wu, wv, hK, toNat_self, toNat_zero, hA, hB, sKe, sKv, aK, aKe, ewp, aB, aBe, sAe, sAv, c1, c2, c3, f1, f2, f3, m1, m2, f4, f5, sBe, sBv, c4, w1, w2, w3, cond_true, cond_false, Bool.not_true, Bool.not_false, Bool.not_not, Bool.and_true, Bool.true_and, Bool.and_false, Bool.false_and, Bool.or_true, Bool.true_or, Bool.or_false, Bool.false_or, beq_self_eq_true, bne_self_eq_false, Bool.true_eq_false, Bool.false_eq_true, reduceCtorEq, Bool.and_self, decide_true, decide_false] at h; done)
    | (refine fun h => ?_; exfalso; simp only [rowOf_rowL, ewl, ewn, wu, wv, hK, toNat_self, toNat_zero, hA, hB, sKe, sKv, aK, aKe, ewp, aB, aBe, sAe, sAv, c1, c2, c3, f1, f2, f3, m1, m2, f4, f5, sBe, sBv, c4, w1, w2, w3, cond_true, cond_false, Bool.not_true, Bool.not_false, Bool.not_not, Bool.and_true, Bool.true_and, Bool.and_false, Bool.false_and, Bool.or_true, Bool.true_or, Bool.or_false, Bool.false_or, beq_self_eq_true, bne_self_eq_false, Bool.true_eq_false, Bool.false_eq_true, reduceCtorEq, Bool.and_self, decide_true, decide_false, Bool.not_eq_true', Bool.not_eq_false', decide_eq_true_eq, decide_eq_false_iff_not, beq_iff_eq, bne_iff_ne, ne_eq, beq_eq_false_iff_ne, bne_eq_false_iff_eq] at h; omega)
    | refine fun _ => ?_
    | refine ple_ok ?_
    | exact (rfl : @Eq (List PV) _ _)
  all_goals first
    | trivial
    | rfl
    | omega
    | (show @Eq Bool _ _; simp only [rowOf_rowL, ewl, ewn, wu, wv, hK, toNat_self, toNat_zero, hA, hB, sKe, sKv, aK, aKe, ewp, aB, aBe, sAe, sAv, c1, c2, c3, f1, f2, f3, m1, m2, f4, f5, sBe, sBv, c4, w1, w2, w3, cond_true, cond_false, Bool.not_true, Bool.not_false, Bool.not_not, Bool.and_true, Bool.true_and, Bool.and_false, Bool.false_and, Bool.or_true, Bool.true_or, Bool.or_false, Bool.false_or, beq_self_eq_true, bne_self_eq_false, Bool.true_eq_false, Bool.false_eq_true, reduceCtorEq, Bool.and_self, decide_true, decide_false]; done)
    | exact isTab.mk t (by omega) rfl
    | (simp only [toNat_zero, ewn, toNat_self, wu, wv]; exact pickP.mk (by omega) (by omega))
    | exact hgp
    | (simp only [rowOf_rowL, ewl, ewn, wu, wv, hK, toNat_self, toNat_zero, hA, hB, sKe, sKv, aK, aKe, ewp, aB, aBe, sAe, sAv, c1, c2, c3, f1, f2, f3, m1, m2, f4, f5, sBe, sBv, c4, w1, w2, w3, cond_true, cond_false, Bool.not_true, Bool.not_false, Bool.not_not, Bool.and_true, Bool.true_and, Bool.and_false, Bool.false_and, Bool.or_true, Bool.true_or, Bool.or_false, Bool.false_or, beq_self_eq_true, bne_self_eq_false, Bool.true_eq_false, Bool.false_eq_true, reduceCtorEq, Bool.and_self, decide_true, decide_false]; omega)
    | skip
set_option maxRecDepth 100000 in
set_option maxHeartbeats 8000000 in
theorem linesPG (n : Nat) (t : Nat → Row) (lv u v : Int) (hn : n ≤ 9223372036854775807) (hlv : 0 ≤ lv ∧ lv ≤ 255) (hu : 0 ≤ u ∧ u ≤ 65535) (hv : 0 ≤ v ∧ v ≤ 65535) (hT : okTb n t = true) (K : Nat) (hK : lv.tmod n = K) (hKn : K < n) (hK0 : 0 < K) (A B : Int) (hA : (t 0).T + u.tmod ((t (n - 1)).T - (t 0).T + 1) = A) (hB : (t 0).T + v.tmod ((t (n - 1)).T - (t 0).T + 1) = B) (hab : B < A) : SF Try.prog 16 (V.atS [tab n t, .int .u8 lv, .int .u16 u, .int .u16 v] (.bool true)) := by
  have h24 : SF Try.prog 24 (V.atS [tab n t] (.bool true)) := sf_at sf24L (isTabL.mk t (by omega) rfl) (by show PV.bool (okTb n t) = _; rw [hT])
  have hok : okT n t := @of_decide_eq_true _ (Classical.propDecidable _) hT
  have hn2 := hok.1
  have hn20 := hok.2.1
  have ewl : IntKind.i64.wrap lv = lv := w64 (by omega) (by omega)
  have ewn : IntKind.i64.wrap ((n : Int) - 1) = ((n - 1 : Nat) : Int) := by rw [w64 (by omega) (by omega)]; omega
  have wu : IntKind.u32.wrap u = u := w32 hu
  have wv : IntKind.u32.wrap v = v := w32 hv
  have rK := (hok.2.2.all K hKn).1
  have r0 := (hok.2.2.all 0 (by omega)).1
  have rn := (hok.2.2.all (n - 1) (by omega)).1
  simp only [okR] at rK r0 rn
  have tmono : ∀ i j, i ≤ j → j < n → (t i).T ≤ (t j).T := by
    intro i j hij hj
    by_cases he : i = j
    · subst he; omega
    · have := T_lt hok j i (by omega) hj
      omega
  have t0K := tmono 0 K (by omega) hKn
  have tKn := tmono K (n - 1) (by omega) (by omega)
  have t0n := T_lt hok (n - 1) 0 (by omega) (by omega)
  have pA := pick_in (w := u) (show (t 0).T ≤ (t (n - 1)).T by omega) hu.1
  have pB := pick_in (w := v) (show (t 0).T ≤ (t (n - 1)).T by omega) hv.1
  rw [hA] at pA
  rw [hB] at pB
  have sat : ∀ x, (t 0).T ≤ x → x ≤ (t (n - 1)).T → satE n t x = 0 ∧ satV n t x = satB t x (nx t x 1 (n - 1)) := by
    intro x h1 h2
    have hE : satE n t x = 0 := by unfold satE; rw [hT, cond_true, if_pos ⟨h1, h2⟩]
    exact ⟨hE, if_pos hE⟩
  have sK := sat (t K).T t0K tKn
  have sKe := sK.1
  have sKv : satV n t (t K).T = ((t K).P, 1) := by rw [sK.2]; exact sat_at hok hKn rfl
  have lK : lev t (t K).P n = K := lev_mid hok (Int.le_refl _) (fun h => P_lt hok (K + 1) K (by omega) h) n hKn (Nat.le_refl _)
  have aK : atV n t (t K).P = K := by unfold atV; rw [hT, cond_true, lK, if_neg (by omega)]
  have aKe : atE n t (t K).P = 0 := by unfold atE; rw [hT, cond_true, lK, if_neg (by omega)]
  have ewp : IntKind.i64.wrap ((t K).P - 1) = (t K).P - 1 := w64 (by omega) (by omega)
  obtain ⟨J, rfl⟩ : ∃ J, K = J + 1 := ⟨K - 1, by omega⟩
  have pJ := P_lt hok (J + 1) J (by omega) hKn
  have lB : lev t ((t (J + 1)).P - 1) n = J := lev_mid hok (by omega) (fun _ => by omega) n (by omega) (Nat.le_refl _)
  have aB : atV n t ((t (J + 1)).P - 1) = J := by unfold atV; rw [hT, cond_true, lB, if_neg (by omega)]
  have aBe : atE n t ((t (J + 1)).P - 1) = 0 := by unfold atE; rw [hT, cond_true, lB, if_neg (by omega)]
  have f1 : (((J + 1 : Nat) : Int) == 0) = false := by rw [beq_eq_false_iff_ne]; omega
  have f2 : decide (0 < ((J + 1 : Nat) : Int)) = true := decide_eq_true (by omega)
  have f3 : IntKind.i64.wrap (((J + 1 : Nat) : Int) - 1) = (J : Int) := by rw [w64 (by omega) (by omega)]; omega
  have sA := sat B (by omega) (by omega)
  have sAe := sA.1
  obtain ⟨k1, a1, d1, g1, i1', i2, i3, i4, i5, i6, i7, i8, i9, i10, i11, i12⟩ := sat_nums hok (x := B) (by omega) (by omega)
  have sAv : satV n t B = (((a1 / g1 : Nat) : Int), ((d1 / g1 : Nat) : Int)) := sA.2.trans i6
  obtain ⟨z1, z2, z3, z4, z5⟩ := sat_small i7 i8
  have za : a1 / g1 ≤ a1 := Nat.div_le_self _ _
  have zd : d1 / g1 ≤ d1 := Nat.div_le_self _ _
  have sB := sat A (by omega) (by omega)
  have sBe := sB.1
  obtain ⟨k2, a2, d2, g2, j1, j2, j3, j4, j5, j6, j7, j8, j9, j10, j11, j12⟩ := sat_nums hok (x := A) (by omega) (by omega)
  have sBv : satV n t A = (((a2 / g2 : Nat) : Int), ((d2 / g2 : Nat) : Int)) := sB.2.trans j6
  obtain ⟨y1, y2, y3, y4, y5⟩ := sat_small j7 j8
  have ya : a2 / g2 ≤ a2 := Nat.div_le_self _ _
  have yd : d2 / g2 ≤ d2 := Nat.div_le_self _ _
  have hlt := small_lt z3 z4 y3 y4 (sat_lt hok (x := B) (y := A) (by omega) i1' i2 i3 i5 j1 j2 j3 j4 j5 i11 i12 j11 j12)
  generalize a2 / g2 = N2 at *
  generalize d2 / g2 = E2 at *
  generalize a1 / g1 = N1 at *
  generalize d1 / g1 = E1 at *
  have hgp : gcdP (N1 : Int) (E1 : Int) := .mk N1 E1 (by omega) (by omega) rfl rfl
  have c1 : decide ((E1 : Int) < 1) = false := decide_eq_false (by omega)
  have c2 : ((Nat.gcd N1 E1 : Nat) : Int) = 1 := by rw [z1]; rfl
  have c3 : ((Nat.gcd ((N1 : Int)).toNat ((E1 : Int)).toNat : Nat) : Int) = 1 := c2
  have m1 : (if B < A then B else A) = B := by split <;> omega
  have m2 : (if B > A then B else A) = A := by split <;> omega
  have f4 : (A == B) = false := by rw [beq_eq_false_iff_ne]; omega
  have f5 : (A != B) = true := by rw [bne_iff_ne]; omega
  have c4 : decide ((E2 : Int) < 1) = false := decide_eq_false (by omega)
  have q1 := Int.mul_nonneg (show 0 ≤ (N1 : Int) by omega) (show 0 ≤ (E2 : Int) by omega)
  have q2 := Int.mul_nonneg (show 0 ≤ (N2 : Int) by omega) (show 0 ≤ (E1 : Int) by omega)
  have q3 := Int.mul_le_mul (show (N1 : Int) ≤ 8000000 by omega) (show (E2 : Int) ≤ 400 by omega) (by omega) (by omega)
  have q4 := Int.mul_le_mul (show (N2 : Int) ≤ 8000000 by omega) (show (E1 : Int) ≤ 400 by omega) (by omega) (by omega)
  have w1 : IntKind.i64.wrap ((N1 : Int) * (E2 : Int)) = (N1 : Int) * (E2 : Int) := w64 (by omega) (by omega)
  have w2 : IntKind.i64.wrap ((N2 : Int) * (E1 : Int)) = (N2 : Int) * (E1 : Int) := w64 (by omega) (by omega)
  have w3 : decide ((N1 : Int) * (E2 : Int) < (N2 : Int) * (E1 : Int)) = true := decide_eq_true hlt
  refine sf_of types_ok mixed (l := [(17, awakeS), (18, atS), (19, tabS), (20, satS), (24, _), (54, pickS), (55, gcdS)]) ⟨sf17', sf18, sf19, sf20, h24, sf54, sf55, trivial⟩ (es := []) trivial 4 Try.func16 rfl (by kernel_rfl) fun args h => ?_
  cases (show args = _ from h)
  refine ⟨rfl, ?_⟩
  repeat' first
    | refine ⟨?_, ?_⟩
    | refine fun h => absurd h (by decide)
    | (refine fun h => ?_; exfalso; simp only [rowOf_rowL, ewl, ewn, wu, wv, hK, toNat_self, toNat_zero, hA, hB, sKe, sKv, aK, aKe, ewp, aB, aBe, sAe, sAv, c1, c2, c3, f1, f2, f3, m1, m2, f4, f5, sBe, sBv, c4, w1, w2, w3, cond_true, cond_false, Bool.not_true, Bool.not_false, Bool.not_not, Bool.and_true, Bool.true_and, Bool.and_false, Bool.false_and, Bool.or_true, Bool.true_or, Bool.or_false, Bool.false_or, beq_self_eq_true, bne_self_eq_false, Bool.true_eq_false, Bool.false_eq_true, reduceCtorEq, Bool.and_self, decide_true, decide_false] at h; done)
    | (refine fun h => ?_; exfalso; simp only [rowOf_rowL, ewl, ewn, wu, wv, hK, toNat_self, toNat_zero, hA, hB, sKe, sKv, aK, aKe, ewp, aB, aBe, sAe, sAv, c1, c2, c3, f1, f2, f3, m1, m2, f4, f5, sBe, sBv, c4, w1, w2, w3, cond_true, cond_false, Bool.not_true, Bool.not_false, Bool.not_not, Bool.and_true, Bool.true_and, Bool.and_false, Bool.false_and, Bool.or_true, Bool.true_or, Bool.or_false, Bool.false_or, beq_self_eq_true, bne_self_eq_false, Bool.true_eq_false, Bool.false_eq_true, reduceCtorEq, Bool.and_self, decide_true, decide_false, Bool.not_eq_true', Bool.not_eq_false', decide_eq_true_eq, decide_eq_false_iff_not, beq_iff_eq, bne_iff_ne, ne_eq, beq_eq_false_iff_ne, bne_eq_false_iff_eq] at h; omega)
    | refine fun _ => ?_
    | refine ple_ok ?_
    | exact (rfl : @Eq (List PV) _ _)
  all_goals first
    | trivial
    | rfl
    | omega
    | (show @Eq Bool _ _; simp only [rowOf_rowL, ewl, ewn, wu, wv, hK, toNat_self, toNat_zero, hA, hB, sKe, sKv, aK, aKe, ewp, aB, aBe, sAe, sAv, c1, c2, c3, f1, f2, f3, m1, m2, f4, f5, sBe, sBv, c4, w1, w2, w3, cond_true, cond_false, Bool.not_true, Bool.not_false, Bool.not_not, Bool.and_true, Bool.true_and, Bool.and_false, Bool.false_and, Bool.or_true, Bool.true_or, Bool.or_false, Bool.false_or, beq_self_eq_true, bne_self_eq_false, Bool.true_eq_false, Bool.false_eq_true, reduceCtorEq, Bool.and_self, decide_true, decide_false]; done)
    | exact isTab.mk t (by omega) rfl
    | (simp only [toNat_zero, ewn, toNat_self, wu, wv]; exact pickP.mk (by omega) (by omega))
    | exact hgp
    | (simp only [rowOf_rowL, ewl, ewn, wu, wv, hK, toNat_self, toNat_zero, hA, hB, sKe, sKv, aK, aKe, ewp, aB, aBe, sAe, sAv, c1, c2, c3, f1, f2, f3, m1, m2, f4, f5, sBe, sBv, c4, w1, w2, w3, cond_true, cond_false, Bool.not_true, Bool.not_false, Bool.not_not, Bool.and_true, Bool.true_and, Bool.and_false, Bool.false_and, Bool.or_true, Bool.true_or, Bool.or_false, Bool.false_or, beq_self_eq_true, bne_self_eq_false, Bool.true_eq_false, Bool.false_eq_true, reduceCtorEq, Bool.and_self, decide_true, decide_false]; omega)
    | skip
end Go.Proofs.Ytiidjohhcappdaa
