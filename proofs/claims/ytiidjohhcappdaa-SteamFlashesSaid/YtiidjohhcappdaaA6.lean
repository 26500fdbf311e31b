/- Layer 1: the law on flashes and trains. -/
import Derived.Test.YtiidjohhcappdaaS27
import Derived.Test.YtiidjohhcappdaaS9c
import Derived.Test.YtiidjohhcappdaaX2
namespace Go.Proofs.Ytiidjohhcappdaa
open Go.V
set_option linter.unusedSimpArgs false

def awakeS : V.Spec := V.atS [] (.bool true)
theorem sf17' : SF Try.prog 17 awakeS := sf17
def noS : V.Spec := fun _ => (some False, .junk)
theorem sf_no {f : Nat} (h : HasBody Try.prog f) : SF Try.prog f noS := ⟨fun _ _ _ _ _ _ _ h => h.elim, h⟩

/-- The errors, by the document's words. -/
theorem lv_tr {n : Nat} {t : Nat → Row} {m : Nat} {l : Nat → Int} {x : Stream} (hT : okTb n t = true) : trE n t m l x = bif lvB (n : Int) m l then (if okS x then 0 else 1) else 2 := by
  unfold trE chkLE
  rw [hT]
  cases hL : lvB (n : Int) m l with
  | true =>
    obtain ⟨h1, h20, hu⟩ := lvB_get hL
    have hc : (allB m fun i => 0 ≤ l i ∧ l i ≤ (n : Int) - 1) = true := allB_t ⟨fun i hi => ⟨(hu.all i hi).1, (hu.all i hi).2.1⟩⟩
    rw [hc, trB_t h1 h20 ⟨fun i hi => (hu.all i hi).2.2⟩]
    rfl
  | false =>
    cases hc : (allB m fun i => 0 ≤ l i ∧ l i ≤ (n : Int) - 1) with
    | false => rfl
    | true =>
      cases ht : trB m l with
      | false => rfl
      | true =>
        obtain ⟨h1, h20, hu⟩ := trB_len ht
        rw [lvB_t h1 h20 ⟨fun i hi => ⟨((allB_get hc).all i hi).1, ((allB_get hc).all i hi).2, hu.all i hi⟩⟩] at hL
        cases hL
theorem tr_bad {n : Nat} {t : Nat → Row} {m : Nat} {l : Nat → Int} {x : Stream} (hT : okTb n t = false) : trE n t m l x = 1 := by
  unfold trE chkLE
  rw [hT]; rfl
set_option maxRecDepth 100000 in
set_option maxHeartbeats 8000000 in
theorem flA (n : Nat) (t : Nat → Row) (lv : Int) (m : Nat) (l : Nat → Int) (a b c d : Int) (hn : n ≤ 9223372036854775807) (h30 : 30 < n) : SF Try.prog 6 (V.atS [tab n t, I lv, .slice none m (fun i => intL (l i)), encS ⟨a, b, c, d⟩] (.bool true)) := by
  have g1 : decide ((30 : Int) < (n : Int)) = true := decide_eq_true (by omega)
  refine sf_of types_ok mixed (l := [(17, awakeS), (19, noS), (21, noS), (23, noS), (24, noS), (27, noS), (39, noS), (40, noS), (41, noS), (42, noS), (43, noS), (44, noS)]) ⟨sf17', sf_no sf19.2, sf_no sf21.2, sf_no sf23.2, sf_no sf24L.2, sf_no sf27.2, sf_no sf39.2, sf_no sf40s.2, sf_no sf41.2, sf_no sf42.2, sf_no sf43.2, sf_no sf44.2, trivial⟩ (es := []) trivial 4 Try.func6 rfl (by kernel_rfl) fun args h => ?_
  cases (show args = _ from h)
  refine ⟨rfl, ?_⟩
  repeat' first
    | refine ⟨?_, ?_⟩
    | refine fun h => absurd h (by decide)
    | (refine fun h => ?_; exfalso; simp only [g1, cond_true, cond_false, Bool.not_true, Bool.not_false, Bool.not_not, Bool.and_true, Bool.true_and, Bool.and_false, Bool.false_and, Bool.or_true, Bool.true_or, Bool.or_false, Bool.false_or, beq_self_eq_true, bne_self_eq_false, Bool.true_eq_false, Bool.false_eq_true, reduceCtorEq, Bool.and_self, decide_true, decide_false] at h; done)
    | refine fun _ => ?_
    | refine ple_ok ?_
    | exact (rfl : @Eq (List PV) _ _)
  all_goals first
    | trivial
    | rfl
    | omega
    | exact isTab.mk t (by omega) rfl
    | (show @Eq Bool _ _; simp only [g1, cond_true, cond_false, Bool.not_true, Bool.not_false, Bool.not_not, Bool.and_true, Bool.true_and, Bool.and_false, Bool.false_and, Bool.or_true, Bool.true_or, Bool.or_false, Bool.false_or, beq_self_eq_true, bne_self_eq_false, Bool.true_eq_false, Bool.false_eq_true, reduceCtorEq, Bool.and_self, decide_true, decide_false]; done)
    | skip
set_option maxRecDepth 100000 in
set_option maxHeartbeats 8000000 in
theorem flB (n : Nat) (t : Nat → Row) (lv : Int) (m : Nat) (l : Nat → Int) (a b c d : Int) (hn : n ≤ 9223372036854775807) (h30 : n ≤ 30) (hm : 30 < m) : SF Try.prog 6 (V.atS [tab n t, I lv, .slice none m (fun i => intL (l i)), encS ⟨a, b, c, d⟩] (.bool true)) := by
  have g1 : decide ((30 : Int) < (n : Int)) = false := decide_eq_false (by omega)
  have g2 : decide ((30 : Int) < (m : Int)) = true := decide_eq_true (by omega)
  refine sf_of types_ok mixed (l := [(17, awakeS), (19, noS), (21, noS), (23, noS), (24, noS), (27, noS), (39, noS), (40, noS), (41, noS), (42, noS), (43, noS), (44, noS)]) ⟨sf17', sf_no sf19.2, sf_no sf21.2, sf_no sf23.2, sf_no sf24L.2, sf_no sf27.2, sf_no sf39.2, sf_no sf40s.2, sf_no sf41.2, sf_no sf42.2, sf_no sf43.2, sf_no sf44.2, trivial⟩ (es := []) trivial 4 Try.func6 rfl (by kernel_rfl) fun args h => ?_
  cases (show args = _ from h)
  refine ⟨rfl, ?_⟩
  repeat' first
    | refine ⟨?_, ?_⟩
    | refine fun h => absurd h (by decide)
    | (refine fun h => ?_; exfalso; simp only [g1, g2, cond_true, cond_false, Bool.not_true, Bool.not_false, Bool.not_not, Bool.and_true, Bool.true_and, Bool.and_false, Bool.false_and, Bool.or_true, Bool.true_or, Bool.or_false, Bool.false_or, beq_self_eq_true, bne_self_eq_false, Bool.true_eq_false, Bool.false_eq_true, reduceCtorEq, Bool.and_self, decide_true, decide_false] at h; done)
    | refine fun _ => ?_
    | refine ple_ok ?_
    | exact (rfl : @Eq (List PV) _ _)
  all_goals first
    | trivial
    | rfl
    | omega
    | exact isTab.mk t (by omega) rfl
    | (show @Eq Bool _ _; simp only [g1, g2, cond_true, cond_false, Bool.not_true, Bool.not_false, Bool.not_not, Bool.and_true, Bool.true_and, Bool.and_false, Bool.false_and, Bool.or_true, Bool.true_or, Bool.or_false, Bool.false_or, beq_self_eq_true, bne_self_eq_false, Bool.true_eq_false, Bool.false_eq_true, reduceCtorEq, Bool.and_self, decide_true, decide_false]; done)
    | skip
set_option maxRecDepth 100000 in
set_option maxHeartbeats 8000000 in
theorem flC (n : Nat) (t : Nat → Row) (lv : Int) (m : Nat) (l : Nat → Int) (a b c d : Int) (hn : n ≤ 9223372036854775807) (h30 : n ≤ 30) (hm : m ≤ 30) (hT : okTb n t = false) : SF Try.prog 6 (V.atS [tab n t, I lv, .slice none m (fun i => intL (l i)), encS ⟨a, b, c, d⟩] (.bool true)) := by
  have g1 : decide ((30 : Int) < (n : Int)) = false := decide_eq_false (by omega)
  have g2 : decide ((30 : Int) < (m : Int)) = false := decide_eq_false (by omega)
  have h24 : SF Try.prog 24 (V.atS [tab n t] (.bool false)) := sf_at sf24L (isTabL.mk t (by omega) rfl) (by show PV.bool (okTb n t) = _; rw [hT])
  have he1 : err1 n t lv = 1 := by unfold err1; rw [hT]; rfl
  have hE : flE n t lv ⟨a, b, c, d⟩ = 1 := by unfold flE; rw [if_neg (by rw [he1]; decide), he1]
  have hV : flV n t lv ⟨a, b, c, d⟩ = zeroP := if_neg (by rw [hE]; decide)
  have hTE := tr_bad (m := m) (l := l) (x := ⟨a, b, c, d⟩) hT
  have hN : trN n t m l ⟨a, b, c, d⟩ = 0 := if_neg (by rw [hTE]; decide)
  have h39 : SF Try.prog 39 (V.atS [tab n t, I lv, encS ⟨a, b, c, d⟩] (.tup [encP (zeroP), I (1)])) := by
    refine sf_at sf39 (isTab.mk t (by omega) rfl) ?_
    show PV.tup [encP (flV n t lv ⟨a, b, c, d⟩), I (flE n t lv ⟨a, b, c, d⟩)] = _
    rw [hV, hE]
  have h40 : SF Try.prog 40 (V.atS [tab n t, .slice none m (fun i => intL (l i)), encS ⟨a, b, c, d⟩] (.tup [.slice none 0 (fun i => partL (trP t l ⟨a, b, c, d⟩ i)), I (1)])) := by
    refine sf_at sf40s (.mk t l (by omega) (by omega) rfl rfl) ?_
    show PV.tup [.slice none (trN n t m l ⟨a, b, c, d⟩) (fun i => partL (trP t l ⟨a, b, c, d⟩ i)), I (trE n t m l ⟨a, b, c, d⟩)] = _
    rw [hN, hTE]
  refine sf_of types_ok mixed (l := [(17, awakeS), (19, tabS), (21, noS), (23, strS), (24, _), (27, noS), (39, _), (40, _), (41, noS), (42, noS), (43, noS), (44, noS)]) ⟨sf17', sf19, sf_no sf21.2, sf23, h24, sf_no sf27.2, h39, h40, sf_no sf41.2, sf_no sf42.2, sf_no sf43.2, sf_no sf44.2, trivial⟩ (es := []) trivial 4 Try.func6 rfl (by kernel_rfl) fun args h => ?_
  cases (show args = _ from h)
  refine ⟨rfl, ?_⟩
  repeat' first
    | refine ⟨?_, ?_⟩
    | refine fun h => absurd h (by decide)
    | (refine fun h => ?_; exfalso; simp only [g1, g2, cond_true, cond_false, Bool.not_true, Bool.not_false, Bool.not_not, Bool.and_true, Bool.true_and, Bool.and_false, Bool.false_and, Bool.or_true, Bool.true_or, Bool.or_false, Bool.false_or, beq_self_eq_true, bne_self_eq_false, Bool.true_eq_false, Bool.false_eq_true, reduceCtorEq, Bool.and_self, decide_true, decide_false] at h; done)
    | refine fun _ => ?_
    | refine ple_ok ?_
    | exact (rfl : @Eq (List PV) _ _)
  all_goals first
    | trivial
    | rfl
    | omega
    | exact isTab.mk t (by omega) rfl
    | (show m * 8 ≤ 140737488355328; omega)
    | (show @Eq Bool _ _; simp only [g1, g2, cond_true, cond_false, Bool.not_true, Bool.not_false, Bool.not_not, Bool.and_true, Bool.true_and, Bool.and_false, Bool.false_and, Bool.or_true, Bool.true_or, Bool.or_false, Bool.false_or, beq_self_eq_true, bne_self_eq_false, Bool.true_eq_false, Bool.false_eq_true, reduceCtorEq, Bool.and_self, decide_true, decide_false]; done)
    | skip
set_option maxRecDepth 100000 in
set_option maxHeartbeats 8000000 in
theorem fl000 (n : Nat) (t : Nat → Row) (lv : Int) (m : Nat) (l : Nat → Int) (a b c d : Int) (hn : n ≤ 9223372036854775807) (h30 : n ≤ 30) (hm : m ≤ 30) (hT : okTb n t = true) (hl : decide (0 ≤ lv ∧ lv ≤ (n : Int) - 1) = false) (hL : lvB n m l = false) (hx : decide (okS ⟨a, b, c, d⟩) = false) : SF Try.prog 6 (V.atS [tab n t, I lv, .slice none m (fun i => intL (l i)), encS ⟨a, b, c, d⟩] (.bool true)) := by
  have g1 : decide ((30 : Int) < (n : Int)) = false := decide_eq_false (by omega)
  have g2 : decide ((30 : Int) < (m : Int)) = false := decide_eq_false (by omega)
  have h24 : SF Try.prog 24 (V.atS [tab n t] (.bool true)) := sf_at sf24L (isTabL.mk t (by omega) rfl) (by show PV.bool (okTb n t) = _; rw [hT])
  have hok : okT n t := @of_decide_eq_true _ (Classical.propDecidable _) hT
  have hn2 := hok.1
  have hn20 := hok.2.1
  have ew : IntKind.i64.wrap ((n : Int) - 1) = (n : Int) - 1 := w64 (by omega) (by omega)
  have htr := lv_tr (m := m) (l := l) (x := ⟨a, b, c, d⟩) hT
  have h41 : SF Try.prog 41 (V.atS [I n, .slice none m (fun i => intL (l i))] (.bool false)) := sf_at sf41 (isLv.mk l (by omega) (by omega) (by omega) rfl) (by show PV.bool (lvB n m l) = _; rw [hL])
  have hl' := of_decide_eq_false hl
  have hx' := of_decide_eq_false hx
  have he1 : err1 n t lv = 2 := by unfold err1; rw [hT, if_neg hl']; rfl
  have hE : flE n t lv ⟨a, b, c, d⟩ = 2 := by unfold flE; rw [if_neg (by rw [he1]; decide), he1]
  have hV : flV n t lv ⟨a, b, c, d⟩ = zeroP := if_neg (by rw [hE]; decide)
  have hTE : trE n t m l ⟨a, b, c, d⟩ = 2 := by rw [htr, hL]; rfl
  have hN : trN n t m l ⟨a, b, c, d⟩ = 0 := if_neg (by rw [hTE]; decide)
  have h39 : SF Try.prog 39 (V.atS [tab n t, I lv, encS ⟨a, b, c, d⟩] (.tup [encP (zeroP), I (2)])) := by
    refine sf_at sf39 (isTab.mk t (by omega) rfl) ?_
    show PV.tup [encP (flV n t lv ⟨a, b, c, d⟩), I (flE n t lv ⟨a, b, c, d⟩)] = _
    rw [hV, hE]
  have h40 : SF Try.prog 40 (V.atS [tab n t, .slice none m (fun i => intL (l i)), encS ⟨a, b, c, d⟩] (.tup [.slice none 0 (fun i => partL (trP t l ⟨a, b, c, d⟩ i)), I (2)])) := by
    refine sf_at sf40s (.mk t l (by omega) (by omega) rfl rfl) ?_
    show PV.tup [.slice none (trN n t m l ⟨a, b, c, d⟩) (fun i => partL (trP t l ⟨a, b, c, d⟩ i)), I (trE n t m l ⟨a, b, c, d⟩)] = _
    rw [hN, hTE]
  refine sf_of types_ok mixed (l := [(17, awakeS), (19, tabS), (21, okSS), (23, strS), (24, _), (27, inS), (39, _), (40, _), (41, _), (42, noS), (43, noS), (44, noS)]) ⟨sf17', sf19, sf21, sf23, h24, sf27, h39, h40, h41, sf_no sf42.2, sf_no sf43.2, sf_no sf44.2, trivial⟩ (es := []) trivial 4 Try.func6 rfl (by kernel_rfl) fun args h => ?_
  cases (show args = _ from h)
  refine ⟨rfl, ?_⟩
  repeat' first
    | refine ⟨?_, ?_⟩
    | refine fun h => absurd h (by decide)
    | (refine fun h => ?_; exfalso; simp only [g1, g2, ew, hl, hx, cond_true, cond_false, Bool.not_true, Bool.not_false, Bool.not_not, Bool.and_true, Bool.true_and, Bool.and_false, Bool.false_and, Bool.or_true, Bool.true_or, Bool.or_false, Bool.false_or, beq_self_eq_true, bne_self_eq_false, Bool.true_eq_false, Bool.false_eq_true, reduceCtorEq, Bool.and_self, decide_true, decide_false] at h; done)
    | refine fun _ => ?_
    | refine ple_ok ?_
    | exact (rfl : @Eq (List PV) _ _)
  all_goals first
    | trivial
    | rfl
    | omega
    | exact isTab.mk t (by omega) rfl
    | (show m * 8 ≤ 140737488355328; omega)
    | (show @Eq Bool _ _; simp only [g1, g2, ew, hl, hx, cond_true, cond_false, Bool.not_true, Bool.not_false, Bool.not_not, Bool.and_true, Bool.true_and, Bool.and_false, Bool.false_and, Bool.or_true, Bool.true_or, Bool.or_false, Bool.false_or, beq_self_eq_true, bne_self_eq_false, Bool.true_eq_false, Bool.false_eq_true, reduceCtorEq, Bool.and_self, decide_true, decide_false]; done)
    | skip
set_option maxRecDepth 100000 in
set_option maxHeartbeats 8000000 in
theorem fl001 (n : Nat) (t : Nat → Row) (lv : Int) (m : Nat) (l : Nat → Int) (a b c d : Int) (hn : n ≤ 9223372036854775807) (h30 : n ≤ 30) (hm : m ≤ 30) (hT : okTb n t = true) (hl : decide (0 ≤ lv ∧ lv ≤ (n : Int) - 1) = false) (hL : lvB n m l = false) (hx : decide (okS ⟨a, b, c, d⟩) = true) : SF Try.prog 6 (V.atS [tab n t, I lv, .slice none m (fun i => intL (l i)), encS ⟨a, b, c, d⟩] (.bool true)) := by
  have g1 : decide ((30 : Int) < (n : Int)) = false := decide_eq_false (by omega)
  have g2 : decide ((30 : Int) < (m : Int)) = false := decide_eq_false (by omega)
  have h24 : SF Try.prog 24 (V.atS [tab n t] (.bool true)) := sf_at sf24L (isTabL.mk t (by omega) rfl) (by show PV.bool (okTb n t) = _; rw [hT])
  have hok : okT n t := @of_decide_eq_true _ (Classical.propDecidable _) hT
  have hn2 := hok.1
  have hn20 := hok.2.1
  have ew : IntKind.i64.wrap ((n : Int) - 1) = (n : Int) - 1 := w64 (by omega) (by omega)
  have htr := lv_tr (m := m) (l := l) (x := ⟨a, b, c, d⟩) hT
  have h41 : SF Try.prog 41 (V.atS [I n, .slice none m (fun i => intL (l i))] (.bool false)) := sf_at sf41 (isLv.mk l (by omega) (by omega) (by omega) rfl) (by show PV.bool (lvB n m l) = _; rw [hL])
  have hl' := of_decide_eq_false hl
  have hx' := of_decide_eq_true hx
  have he1 : err1 n t lv = 2 := by unfold err1; rw [hT, if_neg hl']; rfl
  have hE : flE n t lv ⟨a, b, c, d⟩ = 2 := by unfold flE; rw [if_neg (by rw [he1]; decide), he1]
  have hV : flV n t lv ⟨a, b, c, d⟩ = zeroP := if_neg (by rw [hE]; decide)
  have hTE : trE n t m l ⟨a, b, c, d⟩ = 2 := by rw [htr, hL]; rfl
  have hN : trN n t m l ⟨a, b, c, d⟩ = 0 := if_neg (by rw [hTE]; decide)
  have h39 : SF Try.prog 39 (V.atS [tab n t, I lv, encS ⟨a, b, c, d⟩] (.tup [encP (zeroP), I (2)])) := by
    refine sf_at sf39 (isTab.mk t (by omega) rfl) ?_
    show PV.tup [encP (flV n t lv ⟨a, b, c, d⟩), I (flE n t lv ⟨a, b, c, d⟩)] = _
    rw [hV, hE]
  have h40 : SF Try.prog 40 (V.atS [tab n t, .slice none m (fun i => intL (l i)), encS ⟨a, b, c, d⟩] (.tup [.slice none 0 (fun i => partL (trP t l ⟨a, b, c, d⟩ i)), I (2)])) := by
    refine sf_at sf40s (.mk t l (by omega) (by omega) rfl rfl) ?_
    show PV.tup [.slice none (trN n t m l ⟨a, b, c, d⟩) (fun i => partL (trP t l ⟨a, b, c, d⟩ i)), I (trE n t m l ⟨a, b, c, d⟩)] = _
    rw [hN, hTE]
  refine sf_of types_ok mixed (l := [(17, awakeS), (19, tabS), (21, okSS), (23, strS), (24, _), (27, inS), (39, _), (40, _), (41, _), (42, noS), (43, noS), (44, noS)]) ⟨sf17', sf19, sf21, sf23, h24, sf27, h39, h40, h41, sf_no sf42.2, sf_no sf43.2, sf_no sf44.2, trivial⟩ (es := []) trivial 4 Try.func6 rfl (by kernel_rfl) fun args h => ?_
  cases (show args = _ from h)
  refine ⟨rfl, ?_⟩
  repeat' first
    | refine ⟨?_, ?_⟩
    | refine fun h => absurd h (by decide)
    | (refine fun h => ?_; exfalso; simp only [g1, g2, ew, hl, hx, cond_true, cond_false, Bool.not_true, Bool.not_false, Bool.not_not, Bool.and_true, Bool.true_and, Bool.and_false, Bool.false_and, Bool.or_true, Bool.true_or, Bool.or_false, Bool.false_or, beq_self_eq_true, bne_self_eq_false, Bool.true_eq_false, Bool.false_eq_true, reduceCtorEq, Bool.and_self, decide_true, decide_false] at h; done)
    | refine fun _ => ?_
    | refine ple_ok ?_
    | exact (rfl : @Eq (List PV) _ _)
  all_goals first
    | trivial
    | rfl
    | omega
    | exact isTab.mk t (by omega) rfl
    | (show m * 8 ≤ 140737488355328; omega)
    | (show @Eq Bool _ _; simp only [g1, g2, ew, hl, hx, cond_true, cond_false, Bool.not_true, Bool.not_false, Bool.not_not, Bool.and_true, Bool.true_and, Bool.and_false, Bool.false_and, Bool.or_true, Bool.true_or, Bool.or_false, Bool.false_or, beq_self_eq_true, bne_self_eq_false, Bool.true_eq_false, Bool.false_eq_true, reduceCtorEq, Bool.and_self, decide_true, decide_false]; done)
    | skip
set_option maxRecDepth 100000 in
set_option maxHeartbeats 8000000 in
theorem fl010 (n : Nat) (t : Nat → Row) (lv : Int) (m : Nat) (l : Nat → Int) (a b c d : Int) (hn : n ≤ 9223372036854775807) (h30 : n ≤ 30) (hm : m ≤ 30) (hT : okTb n t = true) (hl : decide (0 ≤ lv ∧ lv ≤ (n : Int) - 1) = false) (hL : lvB n m l = true) (hx : decide (okS ⟨a, b, c, d⟩) = false) : SF Try.prog 6 (V.atS [tab n t, I lv, .slice none m (fun i => intL (l i)), encS ⟨a, b, c, d⟩] (.bool true)) := by
  have g1 : decide ((30 : Int) < (n : Int)) = false := decide_eq_false (by omega)
  have g2 : decide ((30 : Int) < (m : Int)) = false := decide_eq_false (by omega)
  have h24 : SF Try.prog 24 (V.atS [tab n t] (.bool true)) := sf_at sf24L (isTabL.mk t (by omega) rfl) (by show PV.bool (okTb n t) = _; rw [hT])
  have hok : okT n t := @of_decide_eq_true _ (Classical.propDecidable _) hT
  have hn2 := hok.1
  have hn20 := hok.2.1
  have ew : IntKind.i64.wrap ((n : Int) - 1) = (n : Int) - 1 := w64 (by omega) (by omega)
  have htr := lv_tr (m := m) (l := l) (x := ⟨a, b, c, d⟩) hT
  have h41 : SF Try.prog 41 (V.atS [I n, .slice none m (fun i => intL (l i))] (.bool true)) := sf_at sf41 (isLv.mk l (by omega) (by omega) (by omega) rfl) (by show PV.bool (lvB n m l) = _; rw [hL])
  have hl' := of_decide_eq_false hl
  have hx' := of_decide_eq_false hx
  have he1 : err1 n t lv = 2 := by unfold err1; rw [hT, if_neg hl']; rfl
  have hE : flE n t lv ⟨a, b, c, d⟩ = 2 := by unfold flE; rw [if_neg (by rw [he1]; decide), he1]
  have hV : flV n t lv ⟨a, b, c, d⟩ = zeroP := if_neg (by rw [hE]; decide)
  have hTE : trE n t m l ⟨a, b, c, d⟩ = 1 := by rw [htr, hL]; exact if_neg hx'
  have hN : trN n t m l ⟨a, b, c, d⟩ = 0 := if_neg (by rw [hTE]; decide)
  have h39 : SF Try.prog 39 (V.atS [tab n t, I lv, encS ⟨a, b, c, d⟩] (.tup [encP (zeroP), I (2)])) := by
    refine sf_at sf39 (isTab.mk t (by omega) rfl) ?_
    show PV.tup [encP (flV n t lv ⟨a, b, c, d⟩), I (flE n t lv ⟨a, b, c, d⟩)] = _
    rw [hV, hE]
  have h40 : SF Try.prog 40 (V.atS [tab n t, .slice none m (fun i => intL (l i)), encS ⟨a, b, c, d⟩] (.tup [.slice none 0 (fun i => partL (trP t l ⟨a, b, c, d⟩ i)), I (1)])) := by
    refine sf_at sf40s (.mk t l (by omega) (by omega) rfl rfl) ?_
    show PV.tup [.slice none (trN n t m l ⟨a, b, c, d⟩) (fun i => partL (trP t l ⟨a, b, c, d⟩ i)), I (trE n t m l ⟨a, b, c, d⟩)] = _
    rw [hN, hTE]
  refine sf_of types_ok mixed (l := [(17, awakeS), (19, tabS), (21, okSS), (23, strS), (24, _), (27, inS), (39, _), (40, _), (41, _), (42, noS), (43, noS), (44, noS)]) ⟨sf17', sf19, sf21, sf23, h24, sf27, h39, h40, h41, sf_no sf42.2, sf_no sf43.2, sf_no sf44.2, trivial⟩ (es := []) trivial 4 Try.func6 rfl (by kernel_rfl) fun args h => ?_
  cases (show args = _ from h)
  refine ⟨rfl, ?_⟩
  repeat' first
    | refine ⟨?_, ?_⟩
    | refine fun h => absurd h (by decide)
    | (refine fun h => ?_; exfalso; simp only [g1, g2, ew, hl, hx, cond_true, cond_false, Bool.not_true, Bool.not_false, Bool.not_not, Bool.and_true, Bool.true_and, Bool.and_false, Bool.false_and, Bool.or_true, Bool.true_or, Bool.or_false, Bool.false_or, beq_self_eq_true, bne_self_eq_false, Bool.true_eq_false, Bool.false_eq_true, reduceCtorEq, Bool.and_self, decide_true, decide_false] at h; done)
    | refine fun _ => ?_
    | refine ple_ok ?_
    | exact (rfl : @Eq (List PV) _ _)
  all_goals first
    | trivial
    | rfl
    | omega
    | exact isTab.mk t (by omega) rfl
    | (show m * 8 ≤ 140737488355328; omega)
    | (show @Eq Bool _ _; simp only [g1, g2, ew, hl, hx, cond_true, cond_false, Bool.not_true, Bool.not_false, Bool.not_not, Bool.and_true, Bool.true_and, Bool.and_false, Bool.false_and, Bool.or_true, Bool.true_or, Bool.or_false, Bool.false_or, beq_self_eq_true, bne_self_eq_false, Bool.true_eq_false, Bool.false_eq_true, reduceCtorEq, Bool.and_self, decide_true, decide_false]; done)
    | skip
set_option maxRecDepth 100000 in
set_option maxHeartbeats 8000000 in
theorem fl011 (n : Nat) (t : Nat → Row) (lv : Int) (m : Nat) (l : Nat → Int) (a b c d : Int) (hn : n ≤ 9223372036854775807) (h30 : n ≤ 30) (hm : m ≤ 30) (hT : okTb n t = true) (hl : decide (0 ≤ lv ∧ lv ≤ (n : Int) - 1) = false) (hL : lvB n m l = true) (hx : decide (okS ⟨a, b, c, d⟩) = true) : SF Try.prog 6 (V.atS [tab n t, I lv, .slice none m (fun i => intL (l i)), encS ⟨a, b, c, d⟩] (.bool true)) := by
  have g1 : decide ((30 : Int) < (n : Int)) = false := decide_eq_false (by omega)
  have g2 : decide ((30 : Int) < (m : Int)) = false := decide_eq_false (by omega)
  have h24 : SF Try.prog 24 (V.atS [tab n t] (.bool true)) := sf_at sf24L (isTabL.mk t (by omega) rfl) (by show PV.bool (okTb n t) = _; rw [hT])
  have hok : okT n t := @of_decide_eq_true _ (Classical.propDecidable _) hT
  have hn2 := hok.1
  have hn20 := hok.2.1
  have ew : IntKind.i64.wrap ((n : Int) - 1) = (n : Int) - 1 := w64 (by omega) (by omega)
  have htr := lv_tr (m := m) (l := l) (x := ⟨a, b, c, d⟩) hT
  have h41 : SF Try.prog 41 (V.atS [I n, .slice none m (fun i => intL (l i))] (.bool true)) := sf_at sf41 (isLv.mk l (by omega) (by omega) (by omega) rfl) (by show PV.bool (lvB n m l) = _; rw [hL])
  have hl' := of_decide_eq_false hl
  have hx' := of_decide_eq_true hx
  have he1 : err1 n t lv = 2 := by unfold err1; rw [hT, if_neg hl']; rfl
  have hE : flE n t lv ⟨a, b, c, d⟩ = 2 := by unfold flE; rw [if_neg (by rw [he1]; decide), he1]
  have hV : flV n t lv ⟨a, b, c, d⟩ = zeroP := if_neg (by rw [hE]; decide)
  have hTE : trE n t m l ⟨a, b, c, d⟩ = 0 := by rw [htr, hL]; exact if_pos hx'
  have hN : trN n t m l ⟨a, b, c, d⟩ = m := if_pos hTE
  have h39 : SF Try.prog 39 (V.atS [tab n t, I lv, encS ⟨a, b, c, d⟩] (.tup [encP (zeroP), I (2)])) := by
    refine sf_at sf39 (isTab.mk t (by omega) rfl) ?_
    show PV.tup [encP (flV n t lv ⟨a, b, c, d⟩), I (flE n t lv ⟨a, b, c, d⟩)] = _
    rw [hV, hE]
  have h40 : SF Try.prog 40 (V.atS [tab n t, .slice none m (fun i => intL (l i)), encS ⟨a, b, c, d⟩] (.tup [.slice none m (fun i => partL (trP t l ⟨a, b, c, d⟩ i)), I (0)])) := by
    refine sf_at sf40s (.mk t l (by omega) (by omega) rfl rfl) ?_
    show PV.tup [.slice none (trN n t m l ⟨a, b, c, d⟩) (fun i => partL (trP t l ⟨a, b, c, d⟩ i)), I (trE n t m l ⟨a, b, c, d⟩)] = _
    rw [hN, hTE]
  obtain ⟨m1, m20, hu⟩ := lvB_get hL
  have h44 : SF Try.prog 44 (V.atS [tab n t, .slice none m (fun i => intL (l i)), encS ⟨a, b, c, d⟩] (.slice none m (fun i => partL (trP t l ⟨a, b, c, d⟩ i)))) := sf_at sf44 (.mk t l hok m20 ⟨fun i hi => ⟨(hu.all i hi).1, (hu.all i hi).2.1⟩⟩ hx' rfl rfl) rfl
  refine sf_of types_ok mixed (l := [(17, awakeS), (19, tabS), (21, okSS), (23, strS), (24, _), (27, inS), (39, _), (40, _), (41, _), (42, pPS), (43, noS), (44, _)]) ⟨sf17', sf19, sf21, sf23, h24, sf27, h39, h40, h41, sf42, sf_no sf43.2, h44, trivial⟩ (es := []) trivial 4 Try.func6 rfl (by kernel_rfl) fun args h => ?_
  cases (show args = _ from h)
  refine ⟨rfl, ?_⟩
  repeat' first
    | refine ⟨?_, ?_⟩
    | refine fun h => absurd h (by decide)
    | (refine fun h => ?_; exfalso; simp only [g1, g2, ew, hl, hx, cond_true, cond_false, Bool.not_true, Bool.not_false, Bool.not_not, Bool.and_true, Bool.true_and, Bool.and_false, Bool.false_and, Bool.or_true, Bool.true_or, Bool.or_false, Bool.false_or, beq_self_eq_true, bne_self_eq_false, Bool.true_eq_false, Bool.false_eq_true, reduceCtorEq, Bool.and_self, decide_true, decide_false] at h; done)
    | refine fun _ => ?_
    | refine ple_ok ?_
    | exact (rfl : @Eq (List PV) _ _)
  all_goals first
    | trivial
    | rfl
    | omega
    | exact isTab.mk t (by omega) rfl
    | (show m * 8 ≤ 140737488355328; omega)
    | (show @Eq Bool _ _; simp only [g1, g2, ew, hl, hx, cond_true, cond_false, Bool.not_true, Bool.not_false, Bool.not_not, Bool.and_true, Bool.true_and, Bool.and_false, Bool.false_and, Bool.or_true, Bool.true_or, Bool.or_false, Bool.false_or, beq_self_eq_true, bne_self_eq_false, Bool.true_eq_false, Bool.false_eq_true, reduceCtorEq, Bool.and_self, decide_true, decide_false]; done)
    | skip
  refine .mk ⟨[11, 15, 16], [], fun st => ∃ i : Nat, i ≤ m ∧ st = mkSt ([11, 15, 16].zip [.slice none m fun i => partL (trP t l ⟨a, b, c, d⟩ i), .slice none m fun i => partL (trP t l ⟨a, b, c, d⟩ i), I i]) [],
    fun st => m - (match st.slots 16 with | .int _ k => k.toNat | _ => 0), ?_, ?_⟩
  · exact ⟨_, sle_head (live := [11, 15, 16]) [.slice none m fun i => partL (trP t l ⟨a, b, c, d⟩ i), .slice none m fun i => partL (trP t l ⟨a, b, c, d⟩ i), I (0 : Nat)] [] (.cons (.refl _) (.cons (.refl _) (.cons (.refl _) .nil))) .nil, 0, Nat.zero_le _, rfl⟩
  · rintro st ⟨i, hi, rfl⟩
    refine ⟨fun p1 => ?_, fun p1 => ?_⟩
    · have hlt : i < m := by simpa using p1
      clear p1
      repeat' first
        | refine ⟨?_, ?_⟩
        | refine fun h => absurd h (by decide)
        | (refine fun h => ?_; exfalso; simp only [toNat_self, cond_true, cond_false, Bool.not_true, Bool.not_false, Bool.not_not, Bool.and_true, Bool.true_and, Bool.and_false, Bool.false_and, Bool.or_true, Bool.true_or, Bool.or_false, Bool.false_or, beq_self_eq_true, bne_self_eq_false, Bool.true_eq_false, Bool.false_eq_true, reduceCtorEq, Bool.and_self, decide_true, decide_false] at h; done)
        | refine fun _ => ?_
        | refine ple_ok ?_
        | exact (rfl : @Eq (List PV) _ _)
        | refine Halt.mk ⟨_, sle_head (live := [11, 15, 16]) [.slice none m fun i => partL (trP t l ⟨a, b, c, d⟩ i), .slice none m fun i => partL (trP t l ⟨a, b, c, d⟩ i), I (i + 1 : Nat)] [] (.cons (.refl _) (.cons (.refl _) (.cons (ple_ok ?_) .nil))) .nil, ⟨i + 1, ?_, rfl⟩, ?_⟩
      all_goals first
        | trivial
        | rfl
        | omega
        | exact isTab.mk t (by omega) rfl
        | (show IntKind.i64.wrap ((i : Int) + 1) = ((i + 1 : Nat) : Int); rw [w64 (by omega) (by omega)]; omega)
        | (show m - (i + 1) < m - i; omega)
        | (show @Eq Bool _ _; simp only [toNat_self, cond_true, cond_false, Bool.not_true, Bool.not_false, Bool.not_not, Bool.and_true, Bool.true_and, Bool.and_false, Bool.false_and, Bool.or_true, Bool.true_or, Bool.or_false, Bool.false_or, beq_self_eq_true, bne_self_eq_false, Bool.true_eq_false, Bool.false_eq_true, reduceCtorEq, Bool.and_self, decide_true, decide_false]; done)
        | skip
    · have : i = m := by
        have := of_decide_eq_false p1
        omega
      subst this
      repeat' first
        | refine ⟨?_, ?_⟩
        | refine fun h => absurd h (by decide)
        | (refine fun h => ?_; exfalso; simp only [cond_true, cond_false, Bool.not_true, Bool.not_false, Bool.not_not, Bool.and_true, Bool.true_and, Bool.and_false, Bool.false_and, Bool.or_true, Bool.true_or, Bool.or_false, Bool.false_or, beq_self_eq_true, bne_self_eq_false, Bool.true_eq_false, Bool.false_eq_true, reduceCtorEq, Bool.and_self, decide_true, decide_false] at h; done)
        | refine fun _ => ?_
        | refine ple_ok ?_
        | exact (rfl : @Eq (List PV) _ _)
      all_goals first
        | trivial
        | rfl
        | omega
        | exact isTab.mk t (by omega) rfl
        | (show @Eq Bool _ _; simp only [cond_true, cond_false, Bool.not_true, Bool.not_false, Bool.not_not, Bool.and_true, Bool.true_and, Bool.and_false, Bool.false_and, Bool.or_true, Bool.true_or, Bool.or_false, Bool.false_or, beq_self_eq_true, bne_self_eq_false, Bool.true_eq_false, Bool.false_eq_true, reduceCtorEq, Bool.and_self, decide_true, decide_false]; done)
        | skip
set_option maxRecDepth 100000 in
set_option maxHeartbeats 8000000 in
theorem fl100 (n : Nat) (t : Nat → Row) (lv : Int) (m : Nat) (l : Nat → Int) (a b c d : Int) (hn : n ≤ 9223372036854775807) (h30 : n ≤ 30) (hm : m ≤ 30) (hT : okTb n t = true) (hl : decide (0 ≤ lv ∧ lv ≤ (n : Int) - 1) = true) (hL : lvB n m l = false) (hx : decide (okS ⟨a, b, c, d⟩) = false) : SF Try.prog 6 (V.atS [tab n t, I lv, .slice none m (fun i => intL (l i)), encS ⟨a, b, c, d⟩] (.bool true)) := by
  have g1 : decide ((30 : Int) < (n : Int)) = false := decide_eq_false (by omega)
  have g2 : decide ((30 : Int) < (m : Int)) = false := decide_eq_false (by omega)
  have h24 : SF Try.prog 24 (V.atS [tab n t] (.bool true)) := sf_at sf24L (isTabL.mk t (by omega) rfl) (by show PV.bool (okTb n t) = _; rw [hT])
  have hok : okT n t := @of_decide_eq_true _ (Classical.propDecidable _) hT
  have hn2 := hok.1
  have hn20 := hok.2.1
  have ew : IntKind.i64.wrap ((n : Int) - 1) = (n : Int) - 1 := w64 (by omega) (by omega)
  have htr := lv_tr (m := m) (l := l) (x := ⟨a, b, c, d⟩) hT
  have h41 : SF Try.prog 41 (V.atS [I n, .slice none m (fun i => intL (l i))] (.bool false)) := sf_at sf41 (isLv.mk l (by omega) (by omega) (by omega) rfl) (by show PV.bool (lvB n m l) = _; rw [hL])
  have hl' := of_decide_eq_true hl
  have hx' := of_decide_eq_false hx
  have he1 : err1 n t lv = 0 := by unfold err1; rw [hT, if_pos hl']; rfl
  have hE : flE n t lv ⟨a, b, c, d⟩ = 1 := by unfold flE; rw [if_pos he1, if_neg hx']
  have hV : flV n t lv ⟨a, b, c, d⟩ = zeroP := if_neg (by rw [hE]; decide)
  have hTE : trE n t m l ⟨a, b, c, d⟩ = 2 := by rw [htr, hL]; rfl
  have hN : trN n t m l ⟨a, b, c, d⟩ = 0 := if_neg (by rw [hTE]; decide)
  have h39 : SF Try.prog 39 (V.atS [tab n t, I lv, encS ⟨a, b, c, d⟩] (.tup [encP (zeroP), I (1)])) := by
    refine sf_at sf39 (isTab.mk t (by omega) rfl) ?_
    show PV.tup [encP (flV n t lv ⟨a, b, c, d⟩), I (flE n t lv ⟨a, b, c, d⟩)] = _
    rw [hV, hE]
  have h40 : SF Try.prog 40 (V.atS [tab n t, .slice none m (fun i => intL (l i)), encS ⟨a, b, c, d⟩] (.tup [.slice none 0 (fun i => partL (trP t l ⟨a, b, c, d⟩ i)), I (2)])) := by
    refine sf_at sf40s (.mk t l (by omega) (by omega) rfl rfl) ?_
    show PV.tup [.slice none (trN n t m l ⟨a, b, c, d⟩) (fun i => partL (trP t l ⟨a, b, c, d⟩ i)), I (trE n t m l ⟨a, b, c, d⟩)] = _
    rw [hN, hTE]
  refine sf_of types_ok mixed (l := [(17, awakeS), (19, tabS), (21, okSS), (23, strS), (24, _), (27, inS), (39, _), (40, _), (41, _), (42, noS), (43, noS), (44, noS)]) ⟨sf17', sf19, sf21, sf23, h24, sf27, h39, h40, h41, sf_no sf42.2, sf_no sf43.2, sf_no sf44.2, trivial⟩ (es := []) trivial 4 Try.func6 rfl (by kernel_rfl) fun args h => ?_
  cases (show args = _ from h)
  refine ⟨rfl, ?_⟩
  repeat' first
    | refine ⟨?_, ?_⟩
    | refine fun h => absurd h (by decide)
    | (refine fun h => ?_; exfalso; simp only [g1, g2, ew, hl, hx, cond_true, cond_false, Bool.not_true, Bool.not_false, Bool.not_not, Bool.and_true, Bool.true_and, Bool.and_false, Bool.false_and, Bool.or_true, Bool.true_or, Bool.or_false, Bool.false_or, beq_self_eq_true, bne_self_eq_false, Bool.true_eq_false, Bool.false_eq_true, reduceCtorEq, Bool.and_self, decide_true, decide_false] at h; done)
    | refine fun _ => ?_
    | refine ple_ok ?_
    | exact (rfl : @Eq (List PV) _ _)
  all_goals first
    | trivial
    | rfl
    | omega
    | exact isTab.mk t (by omega) rfl
    | (show m * 8 ≤ 140737488355328; omega)
    | (show @Eq Bool _ _; simp only [g1, g2, ew, hl, hx, cond_true, cond_false, Bool.not_true, Bool.not_false, Bool.not_not, Bool.and_true, Bool.true_and, Bool.and_false, Bool.false_and, Bool.or_true, Bool.true_or, Bool.or_false, Bool.false_or, beq_self_eq_true, bne_self_eq_false, Bool.true_eq_false, Bool.false_eq_true, reduceCtorEq, Bool.and_self, decide_true, decide_false]; done)
    | skip
set_option maxRecDepth 100000 in
set_option maxHeartbeats 8000000 in
theorem fl101 (n : Nat) (t : Nat → Row) (lv : Int) (m : Nat) (l : Nat → Int) (a b c d : Int) (hn : n ≤ 9223372036854775807) (h30 : n ≤ 30) (hm : m ≤ 30) (hT : okTb n t = true) (hl : decide (0 ≤ lv ∧ lv ≤ (n : Int) - 1) = true) (hL : lvB n m l = false) (hx : decide (okS ⟨a, b, c, d⟩) = true) : SF Try.prog 6 (V.atS [tab n t, I lv, .slice none m (fun i => intL (l i)), encS ⟨a, b, c, d⟩] (.bool true)) := by
  have g1 : decide ((30 : Int) < (n : Int)) = false := decide_eq_false (by omega)
  have g2 : decide ((30 : Int) < (m : Int)) = false := decide_eq_false (by omega)
  have h24 : SF Try.prog 24 (V.atS [tab n t] (.bool true)) := sf_at sf24L (isTabL.mk t (by omega) rfl) (by show PV.bool (okTb n t) = _; rw [hT])
  have hok : okT n t := @of_decide_eq_true _ (Classical.propDecidable _) hT
  have hn2 := hok.1
  have hn20 := hok.2.1
  have ew : IntKind.i64.wrap ((n : Int) - 1) = (n : Int) - 1 := w64 (by omega) (by omega)
  have htr := lv_tr (m := m) (l := l) (x := ⟨a, b, c, d⟩) hT
  have h41 : SF Try.prog 41 (V.atS [I n, .slice none m (fun i => intL (l i))] (.bool false)) := sf_at sf41 (isLv.mk l (by omega) (by omega) (by omega) rfl) (by show PV.bool (lvB n m l) = _; rw [hL])
  have hl' := of_decide_eq_true hl
  have hx' := of_decide_eq_true hx
  have he1 : err1 n t lv = 0 := by unfold err1; rw [hT, if_pos hl']; rfl
  have hE : flE n t lv ⟨a, b, c, d⟩ = 0 := by unfold flE; rw [if_pos he1, if_pos hx']
  have hV : flV n t lv ⟨a, b, c, d⟩ = partsV (t lv.toNat) ⟨a, b, c, d⟩ := if_pos hE
  have hTE : trE n t m l ⟨a, b, c, d⟩ = 2 := by rw [htr, hL]; rfl
  have hN : trN n t m l ⟨a, b, c, d⟩ = 0 := if_neg (by rw [hTE]; decide)
  have h39 : SF Try.prog 39 (V.atS [tab n t, I lv, encS ⟨a, b, c, d⟩] (.tup [encP (partsV (t lv.toNat) ⟨a, b, c, d⟩), I (0)])) := by
    refine sf_at sf39 (isTab.mk t (by omega) rfl) ?_
    show PV.tup [encP (flV n t lv ⟨a, b, c, d⟩), I (flE n t lv ⟨a, b, c, d⟩)] = _
    rw [hV, hE]
  have h40 : SF Try.prog 40 (V.atS [tab n t, .slice none m (fun i => intL (l i)), encS ⟨a, b, c, d⟩] (.tup [.slice none 0 (fun i => partL (trP t l ⟨a, b, c, d⟩ i)), I (2)])) := by
    refine sf_at sf40s (.mk t l (by omega) (by omega) rfl rfl) ?_
    show PV.tup [.slice none (trN n t m l ⟨a, b, c, d⟩) (fun i => partL (trP t l ⟨a, b, c, d⟩ i)), I (trE n t m l ⟨a, b, c, d⟩)] = _
    rw [hN, hTE]
  have hrow : okR (t lv.toNat) := (hok.2.2.all lv.toNat (by omega)).1
  have h43 : SF Try.prog 43 (V.atS [.agg (rowL (t lv.toNat)), encS ⟨a, b, c, d⟩] (encP (partsV (t lv.toNat) ⟨a, b, c, d⟩))) := sf_at sf43 (.mk hrow hx') rfl
  refine sf_of types_ok mixed (l := [(17, awakeS), (19, tabS), (21, okSS), (23, strS), (24, _), (27, inS), (39, _), (40, _), (41, _), (42, pPS), (43, _), (44, noS)]) ⟨sf17', sf19, sf21, sf23, h24, sf27, h39, h40, h41, sf42, h43, sf_no sf44.2, trivial⟩ (es := []) trivial 4 Try.func6 rfl (by kernel_rfl) fun args h => ?_
  cases (show args = _ from h)
  refine ⟨rfl, ?_⟩
  repeat' first
    | refine ⟨?_, ?_⟩
    | refine fun h => absurd h (by decide)
    | (refine fun h => ?_; exfalso; simp only [g1, g2, ew, hl, hx, cond_true, cond_false, Bool.not_true, Bool.not_false, Bool.not_not, Bool.and_true, Bool.true_and, Bool.and_false, Bool.false_and, Bool.or_true, Bool.true_or, Bool.or_false, Bool.false_or, beq_self_eq_true, bne_self_eq_false, Bool.true_eq_false, Bool.false_eq_true, reduceCtorEq, Bool.and_self, decide_true, decide_false] at h; done)
    | refine fun _ => ?_
    | refine ple_ok ?_
    | exact (rfl : @Eq (List PV) _ _)
  all_goals first
    | trivial
    | rfl
    | omega
    | exact isTab.mk t (by omega) rfl
    | (show m * 8 ≤ 140737488355328; omega)
    | (show @Eq Bool _ _; simp only [g1, g2, ew, hl, hx, cond_true, cond_false, Bool.not_true, Bool.not_false, Bool.not_not, Bool.and_true, Bool.true_and, Bool.and_false, Bool.false_and, Bool.or_true, Bool.true_or, Bool.or_false, Bool.false_or, beq_self_eq_true, bne_self_eq_false, Bool.true_eq_false, Bool.false_eq_true, reduceCtorEq, Bool.and_self, decide_true, decide_false]; done)
    | skip
set_option maxRecDepth 100000 in
set_option maxHeartbeats 8000000 in
theorem fl110 (n : Nat) (t : Nat → Row) (lv : Int) (m : Nat) (l : Nat → Int) (a b c d : Int) (hn : n ≤ 9223372036854775807) (h30 : n ≤ 30) (hm : m ≤ 30) (hT : okTb n t = true) (hl : decide (0 ≤ lv ∧ lv ≤ (n : Int) - 1) = true) (hL : lvB n m l = true) (hx : decide (okS ⟨a, b, c, d⟩) = false) : SF Try.prog 6 (V.atS [tab n t, I lv, .slice none m (fun i => intL (l i)), encS ⟨a, b, c, d⟩] (.bool true)) := by
  have g1 : decide ((30 : Int) < (n : Int)) = false := decide_eq_false (by omega)
  have g2 : decide ((30 : Int) < (m : Int)) = false := decide_eq_false (by omega)
  have h24 : SF Try.prog 24 (V.atS [tab n t] (.bool true)) := sf_at sf24L (isTabL.mk t (by omega) rfl) (by show PV.bool (okTb n t) = _; rw [hT])
  have hok : okT n t := @of_decide_eq_true _ (Classical.propDecidable _) hT
  have hn2 := hok.1
  have hn20 := hok.2.1
  have ew : IntKind.i64.wrap ((n : Int) - 1) = (n : Int) - 1 := w64 (by omega) (by omega)
  have htr := lv_tr (m := m) (l := l) (x := ⟨a, b, c, d⟩) hT
  have h41 : SF Try.prog 41 (V.atS [I n, .slice none m (fun i => intL (l i))] (.bool true)) := sf_at sf41 (isLv.mk l (by omega) (by omega) (by omega) rfl) (by show PV.bool (lvB n m l) = _; rw [hL])
  have hl' := of_decide_eq_true hl
  have hx' := of_decide_eq_false hx
  have he1 : err1 n t lv = 0 := by unfold err1; rw [hT, if_pos hl']; rfl
  have hE : flE n t lv ⟨a, b, c, d⟩ = 1 := by unfold flE; rw [if_pos he1, if_neg hx']
  have hV : flV n t lv ⟨a, b, c, d⟩ = zeroP := if_neg (by rw [hE]; decide)
  have hTE : trE n t m l ⟨a, b, c, d⟩ = 1 := by rw [htr, hL]; exact if_neg hx'
  have hN : trN n t m l ⟨a, b, c, d⟩ = 0 := if_neg (by rw [hTE]; decide)
  have h39 : SF Try.prog 39 (V.atS [tab n t, I lv, encS ⟨a, b, c, d⟩] (.tup [encP (zeroP), I (1)])) := by
    refine sf_at sf39 (isTab.mk t (by omega) rfl) ?_
    show PV.tup [encP (flV n t lv ⟨a, b, c, d⟩), I (flE n t lv ⟨a, b, c, d⟩)] = _
    rw [hV, hE]
  have h40 : SF Try.prog 40 (V.atS [tab n t, .slice none m (fun i => intL (l i)), encS ⟨a, b, c, d⟩] (.tup [.slice none 0 (fun i => partL (trP t l ⟨a, b, c, d⟩ i)), I (1)])) := by
    refine sf_at sf40s (.mk t l (by omega) (by omega) rfl rfl) ?_
    show PV.tup [.slice none (trN n t m l ⟨a, b, c, d⟩) (fun i => partL (trP t l ⟨a, b, c, d⟩ i)), I (trE n t m l ⟨a, b, c, d⟩)] = _
    rw [hN, hTE]
  refine sf_of types_ok mixed (l := [(17, awakeS), (19, tabS), (21, okSS), (23, strS), (24, _), (27, inS), (39, _), (40, _), (41, _), (42, noS), (43, noS), (44, noS)]) ⟨sf17', sf19, sf21, sf23, h24, sf27, h39, h40, h41, sf_no sf42.2, sf_no sf43.2, sf_no sf44.2, trivial⟩ (es := []) trivial 4 Try.func6 rfl (by kernel_rfl) fun args h => ?_
  cases (show args = _ from h)
  refine ⟨rfl, ?_⟩
  repeat' first
    | refine ⟨?_, ?_⟩
    | refine fun h => absurd h (by decide)
    | (refine fun h => ?_; exfalso; simp only [g1, g2, ew, hl, hx, cond_true, cond_false, Bool.not_true, Bool.not_false, Bool.not_not, Bool.and_true, Bool.true_and, Bool.and_false, Bool.false_and, Bool.or_true, Bool.true_or, Bool.or_false, Bool.false_or, beq_self_eq_true, bne_self_eq_false, Bool.true_eq_false, Bool.false_eq_true, reduceCtorEq, Bool.and_self, decide_true, decide_false] at h; done)
    | refine fun _ => ?_
    | refine ple_ok ?_
    | exact (rfl : @Eq (List PV) _ _)
  all_goals first
    | trivial
    | rfl
    | omega
    | exact isTab.mk t (by omega) rfl
    | (show m * 8 ≤ 140737488355328; omega)
    | (show @Eq Bool _ _; simp only [g1, g2, ew, hl, hx, cond_true, cond_false, Bool.not_true, Bool.not_false, Bool.not_not, Bool.and_true, Bool.true_and, Bool.and_false, Bool.false_and, Bool.or_true, Bool.true_or, Bool.or_false, Bool.false_or, beq_self_eq_true, bne_self_eq_false, Bool.true_eq_false, Bool.false_eq_true, reduceCtorEq, Bool.and_self, decide_true, decide_false]; done)
    | skip
set_option maxRecDepth 100000 in
set_option maxHeartbeats 8000000 in
theorem fl111 (n : Nat) (t : Nat → Row) (lv : Int) (m : Nat) (l : Nat → Int) (a b c d : Int) (hn : n ≤ 9223372036854775807) (h30 : n ≤ 30) (hm : m ≤ 30) (hT : okTb n t = true) (hl : decide (0 ≤ lv ∧ lv ≤ (n : Int) - 1) = true) (hL : lvB n m l = true) (hx : decide (okS ⟨a, b, c, d⟩) = true) : SF Try.prog 6 (V.atS [tab n t, I lv, .slice none m (fun i => intL (l i)), encS ⟨a, b, c, d⟩] (.bool true)) := by
  have g1 : decide ((30 : Int) < (n : Int)) = false := decide_eq_false (by omega)
  have g2 : decide ((30 : Int) < (m : Int)) = false := decide_eq_false (by omega)
  have h24 : SF Try.prog 24 (V.atS [tab n t] (.bool true)) := sf_at sf24L (isTabL.mk t (by omega) rfl) (by show PV.bool (okTb n t) = _; rw [hT])
  have hok : okT n t := @of_decide_eq_true _ (Classical.propDecidable _) hT
  have hn2 := hok.1
  have hn20 := hok.2.1
  have ew : IntKind.i64.wrap ((n : Int) - 1) = (n : Int) - 1 := w64 (by omega) (by omega)
  have htr := lv_tr (m := m) (l := l) (x := ⟨a, b, c, d⟩) hT
  have h41 : SF Try.prog 41 (V.atS [I n, .slice none m (fun i => intL (l i))] (.bool true)) := sf_at sf41 (isLv.mk l (by omega) (by omega) (by omega) rfl) (by show PV.bool (lvB n m l) = _; rw [hL])
  have hl' := of_decide_eq_true hl
  have hx' := of_decide_eq_true hx
  have he1 : err1 n t lv = 0 := by unfold err1; rw [hT, if_pos hl']; rfl
  have hE : flE n t lv ⟨a, b, c, d⟩ = 0 := by unfold flE; rw [if_pos he1, if_pos hx']
  have hV : flV n t lv ⟨a, b, c, d⟩ = partsV (t lv.toNat) ⟨a, b, c, d⟩ := if_pos hE
  have hTE : trE n t m l ⟨a, b, c, d⟩ = 0 := by rw [htr, hL]; exact if_pos hx'
  have hN : trN n t m l ⟨a, b, c, d⟩ = m := if_pos hTE
  have h39 : SF Try.prog 39 (V.atS [tab n t, I lv, encS ⟨a, b, c, d⟩] (.tup [encP (partsV (t lv.toNat) ⟨a, b, c, d⟩), I (0)])) := by
    refine sf_at sf39 (isTab.mk t (by omega) rfl) ?_
    show PV.tup [encP (flV n t lv ⟨a, b, c, d⟩), I (flE n t lv ⟨a, b, c, d⟩)] = _
    rw [hV, hE]
  have h40 : SF Try.prog 40 (V.atS [tab n t, .slice none m (fun i => intL (l i)), encS ⟨a, b, c, d⟩] (.tup [.slice none m (fun i => partL (trP t l ⟨a, b, c, d⟩ i)), I (0)])) := by
    refine sf_at sf40s (.mk t l (by omega) (by omega) rfl rfl) ?_
    show PV.tup [.slice none (trN n t m l ⟨a, b, c, d⟩) (fun i => partL (trP t l ⟨a, b, c, d⟩ i)), I (trE n t m l ⟨a, b, c, d⟩)] = _
    rw [hN, hTE]
  have hrow : okR (t lv.toNat) := (hok.2.2.all lv.toNat (by omega)).1
  have h43 : SF Try.prog 43 (V.atS [.agg (rowL (t lv.toNat)), encS ⟨a, b, c, d⟩] (encP (partsV (t lv.toNat) ⟨a, b, c, d⟩))) := sf_at sf43 (.mk hrow hx') rfl
  obtain ⟨m1, m20, hu⟩ := lvB_get hL
  have h44 : SF Try.prog 44 (V.atS [tab n t, .slice none m (fun i => intL (l i)), encS ⟨a, b, c, d⟩] (.slice none m (fun i => partL (trP t l ⟨a, b, c, d⟩ i)))) := sf_at sf44 (.mk t l hok m20 ⟨fun i hi => ⟨(hu.all i hi).1, (hu.all i hi).2.1⟩⟩ hx' rfl rfl) rfl
  refine sf_of types_ok mixed (l := [(17, awakeS), (19, tabS), (21, okSS), (23, strS), (24, _), (27, inS), (39, _), (40, _), (41, _), (42, pPS), (43, _), (44, _)]) ⟨sf17', sf19, sf21, sf23, h24, sf27, h39, h40, h41, sf42, h43, h44, trivial⟩ (es := []) trivial 4 Try.func6 rfl (by kernel_rfl) fun args h => ?_
  cases (show args = _ from h)
  refine ⟨rfl, ?_⟩
  repeat' first
    | refine ⟨?_, ?_⟩
    | refine fun h => absurd h (by decide)
    | (refine fun h => ?_; exfalso; simp only [g1, g2, ew, hl, hx, cond_true, cond_false, Bool.not_true, Bool.not_false, Bool.not_not, Bool.and_true, Bool.true_and, Bool.and_false, Bool.false_and, Bool.or_true, Bool.true_or, Bool.or_false, Bool.false_or, beq_self_eq_true, bne_self_eq_false, Bool.true_eq_false, Bool.false_eq_true, reduceCtorEq, Bool.and_self, decide_true, decide_false] at h; done)
    | refine fun _ => ?_
    | refine ple_ok ?_
    | exact (rfl : @Eq (List PV) _ _)
  all_goals first
    | trivial
    | rfl
    | omega
    | exact isTab.mk t (by omega) rfl
    | (show m * 8 ≤ 140737488355328; omega)
    | (show @Eq Bool _ _; simp only [g1, g2, ew, hl, hx, cond_true, cond_false, Bool.not_true, Bool.not_false, Bool.not_not, Bool.and_true, Bool.true_and, Bool.and_false, Bool.false_and, Bool.or_true, Bool.true_or, Bool.or_false, Bool.false_or, beq_self_eq_true, bne_self_eq_false, Bool.true_eq_false, Bool.false_eq_true, reduceCtorEq, Bool.and_self, decide_true, decide_false]; done)
    | skip
  refine .mk ⟨[11, 15, 16], [], fun st => ∃ i : Nat, i ≤ m ∧ st = mkSt ([11, 15, 16].zip [.slice none m fun i => partL (trP t l ⟨a, b, c, d⟩ i), .slice none m fun i => partL (trP t l ⟨a, b, c, d⟩ i), I i]) [],
    fun st => m - (match st.slots 16 with | .int _ k => k.toNat | _ => 0), ?_, ?_⟩
  · exact ⟨_, sle_head (live := [11, 15, 16]) [.slice none m fun i => partL (trP t l ⟨a, b, c, d⟩ i), .slice none m fun i => partL (trP t l ⟨a, b, c, d⟩ i), I (0 : Nat)] [] (.cons (.refl _) (.cons (.refl _) (.cons (.refl _) .nil))) .nil, 0, Nat.zero_le _, rfl⟩
  · rintro st ⟨i, hi, rfl⟩
    refine ⟨fun p1 => ?_, fun p1 => ?_⟩
    · have hlt : i < m := by simpa using p1
      clear p1
      repeat' first
        | refine ⟨?_, ?_⟩
        | refine fun h => absurd h (by decide)
        | (refine fun h => ?_; exfalso; simp only [toNat_self, cond_true, cond_false, Bool.not_true, Bool.not_false, Bool.not_not, Bool.and_true, Bool.true_and, Bool.and_false, Bool.false_and, Bool.or_true, Bool.true_or, Bool.or_false, Bool.false_or, beq_self_eq_true, bne_self_eq_false, Bool.true_eq_false, Bool.false_eq_true, reduceCtorEq, Bool.and_self, decide_true, decide_false] at h; done)
        | refine fun _ => ?_
        | refine ple_ok ?_
        | exact (rfl : @Eq (List PV) _ _)
        | refine Halt.mk ⟨_, sle_head (live := [11, 15, 16]) [.slice none m fun i => partL (trP t l ⟨a, b, c, d⟩ i), .slice none m fun i => partL (trP t l ⟨a, b, c, d⟩ i), I (i + 1 : Nat)] [] (.cons (.refl _) (.cons (.refl _) (.cons (ple_ok ?_) .nil))) .nil, ⟨i + 1, ?_, rfl⟩, ?_⟩
      all_goals first
        | trivial
        | rfl
        | omega
        | exact isTab.mk t (by omega) rfl
        | (show IntKind.i64.wrap ((i : Int) + 1) = ((i + 1 : Nat) : Int); rw [w64 (by omega) (by omega)]; omega)
        | (show m - (i + 1) < m - i; omega)
        | (show @Eq Bool _ _; simp only [toNat_self, cond_true, cond_false, Bool.not_true, Bool.not_false, Bool.not_not, Bool.and_true, Bool.true_and, Bool.and_false, Bool.false_and, Bool.or_true, Bool.true_or, Bool.or_false, Bool.false_or, beq_self_eq_true, bne_self_eq_false, Bool.true_eq_false, Bool.false_eq_true, reduceCtorEq, Bool.and_self, decide_true, decide_false]; done)
        | skip
    · have : i = m := by
        have := of_decide_eq_false p1
        omega
      subst this
      repeat' first
        | refine ⟨?_, ?_⟩
        | refine fun h => absurd h (by decide)
        | (refine fun h => ?_; exfalso; simp only [cond_true, cond_false, Bool.not_true, Bool.not_false, Bool.not_not, Bool.and_true, Bool.true_and, Bool.and_false, Bool.false_and, Bool.or_true, Bool.true_or, Bool.or_false, Bool.false_or, beq_self_eq_true, bne_self_eq_false, Bool.true_eq_false, Bool.false_eq_true, reduceCtorEq, Bool.and_self, decide_true, decide_false] at h; done)
        | refine fun _ => ?_
        | refine ple_ok ?_
        | exact (rfl : @Eq (List PV) _ _)
      all_goals first
        | trivial
        | rfl
        | omega
        | exact isTab.mk t (by omega) rfl
        | (show @Eq Bool _ _; simp only [cond_true, cond_false, Bool.not_true, Bool.not_false, Bool.not_not, Bool.and_true, Bool.true_and, Bool.and_false, Bool.false_and, Bool.or_true, Bool.true_or, Bool.or_false, Bool.false_or, beq_self_eq_true, bne_self_eq_false, Bool.true_eq_false, Bool.false_eq_true, reduceCtorEq, Bool.and_self, decide_true, decide_false]; done)
        | skip
end Go.Proofs.Ytiidjohhcappdaa
