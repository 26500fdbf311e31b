/- Layer 1: the law on tables. -/
import Derived.Test.YtiidjohhcappdaaS21
import Derived.Test.YtiidjohhcappdaaS9b
import Derived.Test.YtiidjohhcappdaaVq
import Derived.Test.YtiidjohhcappdaaX2
namespace Go.Proofs.Ytiidjohhcappdaa
open Go.V
set_option linter.unusedSimpArgs false

def awakeS : V.Spec := V.atS [] (.bool true)
theorem sf17' : SF Try.prog 17 awakeS := sf17
def noS : V.Spec := fun _ => (some False, .junk)
theorem sf_no {f : Nat} (h : HasBody Try.prog f) : SF Try.prog f noS := ⟨fun _ _ _ _ _ _ _ h => h.elim, h⟩
set_option maxRecDepth 100000 in
set_option maxHeartbeats 4000000 in
theorem tablesA (n : Nat) (t : Nat → Row) (a b c d p x : Int) (hn : 30 < n) : SF Try.prog 3 (V.atS [tab n t, encS ⟨a, b, c, d⟩, I p, I x] (.bool true)) := by
  have hg : decide ((30 : Int) < (n : Int)) = true := decide_eq_true (by omega)
  have h18 : SF Try.prog 18 noS := sf_no sf18.2
  have h20 : SF Try.prog 20 noS := sf_no sf20.2
  have h22 : SF Try.prog 22 noS := sf_no sf22.2
  have h24 : SF Try.prog 24 noS := sf_no sf24.2
  have h25 : SF Try.prog 25 noS := sf_no sf25.2
  have h26 : SF Try.prog 26 noS := sf_no sf26.2
  have h28 : SF Try.prog 28 noS := sf_no sf28.2
  refine sf_of types_ok mixed (l := [(17, awakeS), (18, _), (19, tabS), (20, _), (21, okSS), (22, _), (23, strS), (24, _), (25, _), (26, _), (27, inS), (28, _)]) ⟨sf17', h18, sf19, h20, sf21, h22, sf23, h24, h25, h26, sf27, h28, trivial⟩ (es := []) trivial 4 Try.func3 rfl (by kernel_rfl) fun args h => ?_
  cases (show args = _ from h)
  refine ⟨rfl, ?_⟩
  repeat' first
    | refine ⟨?_, ?_⟩
    | refine fun h => absurd h (by decide)
    | (refine fun h => ?_; exfalso; simp only [hg, cond_true, cond_false, Bool.not_true, Bool.not_false, Bool.not_not, Bool.and_true, Bool.true_and, Bool.and_false, Bool.false_and, Bool.or_true, Bool.true_or, Bool.or_false, Bool.false_or, beq_self_eq_true, bne_self_eq_false, Bool.true_eq_false, Bool.false_eq_true, reduceCtorEq, Bool.and_self, decide_true, decide_false] at h; done)
    | refine fun _ => ?_
    | refine ple_ok ?_
    | exact (rfl : @Eq (List PV) _ _)
  all_goals first
    | trivial
    | rfl
    | omega
    | (show @Eq Bool _ _; simp only [hg, cond_true, cond_false, Bool.not_true, Bool.not_false, Bool.not_not, Bool.and_true, Bool.true_and, Bool.and_false, Bool.false_and, Bool.or_true, Bool.true_or, Bool.or_false, Bool.false_or, beq_self_eq_true, bne_self_eq_false, Bool.true_eq_false, Bool.false_eq_true, reduceCtorEq, Bool.and_self, decide_true, decide_false]; done)
    | exact .mk t (by omega) rfl
    | (simp only [hg, cond_true, cond_false, Bool.not_true, Bool.not_false, Bool.not_not, Bool.and_true, Bool.true_and, Bool.and_false, Bool.false_and, Bool.or_true, Bool.true_or, Bool.or_false, Bool.false_or, beq_self_eq_true, bne_self_eq_false, Bool.true_eq_false, Bool.false_eq_true, reduceCtorEq, Bool.and_self, decide_true, decide_false]; omega)
    | skip
set_option maxRecDepth 100000 in
set_option maxHeartbeats 4000000 in
theorem tablesBt (n : Nat) (t : Nat → Row) (a b c d p x : Int) (hn : n ≤ 30) (hT : okTb n t = false) (hs : decide (okS ⟨a, b, c, d⟩) = true) : SF Try.prog 3 (V.atS [tab n t, encS ⟨a, b, c, d⟩, I p, I x] (.bool true)) := by
  have hg : decide ((30 : Int) < (n : Int)) = false := decide_eq_false (by omega)
  have h18 : SF Try.prog 18 (V.atS [tab n t, I p] (.tup [I 0, I 1])) := sf_at sf18 (isTab.mk t (by omega) rfl) (by show PV.tup [I (atV n t p), I (atE n t p)] = _; simp only [atV, atE, hT, cond_false])
  have h20 : SF Try.prog 20 (V.atS [tab n t, I x] (.tup [.agg [I 0, I 0], I 1])) := sf_at sf20 (isTab.mk t (by omega) rfl) (by show PV.tup [.agg [I (satV n t x).1, I (satV n t x).2], I (satE n t x)] = _; simp only [satV, satE, hT, cond_false]; rfl)
  have h22 : SF Try.prog 22 (V.atS [encS ⟨a, b, c, d⟩] (I 0)) := sf_at sf22 trivial (by show errR (decide (okS ⟨a, b, c, d⟩)) = _; rw [hs]; rfl)
  have h24 : SF Try.prog 24 (V.atS [tab n t] (.bool false)) := sf_at sf24 (isTab.mk t (by omega) rfl) (by show PV.bool (okTb n t) = _; rw [hT])
  have h25 : SF Try.prog 25 (V.atS [tab n t] (I 1)) := sf_at sf25 (isTab.mk t (by omega) rfl) (by show I (bif okTb n t then 0 else 1) = _; rw [hT]; rfl)
  have h26 : SF Try.prog 26 noS := sf_no sf26.2
  have h28 : SF Try.prog 28 noS := sf_no sf28.2
  refine sf_of types_ok mixed (l := [(17, awakeS), (18, _), (19, tabS), (20, _), (21, okSS), (22, _), (23, strS), (24, _), (25, _), (26, _), (27, inS), (28, _)]) ⟨sf17', h18, sf19, h20, sf21, h22, sf23, h24, h25, h26, sf27, h28, trivial⟩ (es := []) trivial 4 Try.func3 rfl (by kernel_rfl) fun args h => ?_
  cases (show args = _ from h)
  refine ⟨rfl, ?_⟩
  repeat' first
    | refine ⟨?_, ?_⟩
    | refine fun h => absurd h (by decide)
    | (refine fun h => ?_; exfalso; simp only [hg, hs, cond_true, cond_false, Bool.not_true, Bool.not_false, Bool.not_not, Bool.and_true, Bool.true_and, Bool.and_false, Bool.false_and, Bool.or_true, Bool.true_or, Bool.or_false, Bool.false_or, beq_self_eq_true, bne_self_eq_false, Bool.true_eq_false, Bool.false_eq_true, reduceCtorEq, Bool.and_self, decide_true, decide_false] at h; done)
    | refine fun _ => ?_
    | refine ple_ok ?_
    | exact (rfl : @Eq (List PV) _ _)
  all_goals first
    | trivial
    | rfl
    | omega
    | (show @Eq Bool _ _; simp only [hg, hs, cond_true, cond_false, Bool.not_true, Bool.not_false, Bool.not_not, Bool.and_true, Bool.true_and, Bool.and_false, Bool.false_and, Bool.or_true, Bool.true_or, Bool.or_false, Bool.false_or, beq_self_eq_true, bne_self_eq_false, Bool.true_eq_false, Bool.false_eq_true, reduceCtorEq, Bool.and_self, decide_true, decide_false]; done)
    | exact .mk t (by omega) rfl
    | (simp only [hg, hs, cond_true, cond_false, Bool.not_true, Bool.not_false, Bool.not_not, Bool.and_true, Bool.true_and, Bool.and_false, Bool.false_and, Bool.or_true, Bool.true_or, Bool.or_false, Bool.false_or, beq_self_eq_true, bne_self_eq_false, Bool.true_eq_false, Bool.false_eq_true, reduceCtorEq, Bool.and_self, decide_true, decide_false]; omega)
    | skip
set_option maxRecDepth 100000 in
set_option maxHeartbeats 4000000 in
theorem tablesBf (n : Nat) (t : Nat → Row) (a b c d p x : Int) (hn : n ≤ 30) (hT : okTb n t = false) (hs : decide (okS ⟨a, b, c, d⟩) = false) : SF Try.prog 3 (V.atS [tab n t, encS ⟨a, b, c, d⟩, I p, I x] (.bool true)) := by
  have hg : decide ((30 : Int) < (n : Int)) = false := decide_eq_false (by omega)
  have h18 : SF Try.prog 18 (V.atS [tab n t, I p] (.tup [I 0, I 1])) := sf_at sf18 (isTab.mk t (by omega) rfl) (by show PV.tup [I (atV n t p), I (atE n t p)] = _; simp only [atV, atE, hT, cond_false])
  have h20 : SF Try.prog 20 (V.atS [tab n t, I x] (.tup [.agg [I 0, I 0], I 1])) := sf_at sf20 (isTab.mk t (by omega) rfl) (by show PV.tup [.agg [I (satV n t x).1, I (satV n t x).2], I (satE n t x)] = _; simp only [satV, satE, hT, cond_false]; rfl)
  have h22 : SF Try.prog 22 (V.atS [encS ⟨a, b, c, d⟩] (I 1)) := sf_at sf22 trivial (by show errR (decide (okS ⟨a, b, c, d⟩)) = _; rw [hs]; rfl)
  have h24 : SF Try.prog 24 (V.atS [tab n t] (.bool false)) := sf_at sf24 (isTab.mk t (by omega) rfl) (by show PV.bool (okTb n t) = _; rw [hT])
  have h25 : SF Try.prog 25 (V.atS [tab n t] (I 1)) := sf_at sf25 (isTab.mk t (by omega) rfl) (by show I (bif okTb n t then 0 else 1) = _; rw [hT]; rfl)
  have h26 : SF Try.prog 26 noS := sf_no sf26.2
  have h28 : SF Try.prog 28 noS := sf_no sf28.2
  refine sf_of types_ok mixed (l := [(17, awakeS), (18, _), (19, tabS), (20, _), (21, okSS), (22, _), (23, strS), (24, _), (25, _), (26, _), (27, inS), (28, _)]) ⟨sf17', h18, sf19, h20, sf21, h22, sf23, h24, h25, h26, sf27, h28, trivial⟩ (es := []) trivial 4 Try.func3 rfl (by kernel_rfl) fun args h => ?_
  cases (show args = _ from h)
  refine ⟨rfl, ?_⟩
  repeat' first
    | refine ⟨?_, ?_⟩
    | refine fun h => absurd h (by decide)
    | (refine fun h => ?_; exfalso; simp only [hg, hs, cond_true, cond_false, Bool.not_true, Bool.not_false, Bool.not_not, Bool.and_true, Bool.true_and, Bool.and_false, Bool.false_and, Bool.or_true, Bool.true_or, Bool.or_false, Bool.false_or, beq_self_eq_true, bne_self_eq_false, Bool.true_eq_false, Bool.false_eq_true, reduceCtorEq, Bool.and_self, decide_true, decide_false] at h; done)
    | refine fun _ => ?_
    | refine ple_ok ?_
    | exact (rfl : @Eq (List PV) _ _)
  all_goals first
    | trivial
    | rfl
    | omega
    | (show @Eq Bool _ _; simp only [hg, hs, cond_true, cond_false, Bool.not_true, Bool.not_false, Bool.not_not, Bool.and_true, Bool.true_and, Bool.and_false, Bool.false_and, Bool.or_true, Bool.true_or, Bool.or_false, Bool.false_or, beq_self_eq_true, bne_self_eq_false, Bool.true_eq_false, Bool.false_eq_true, reduceCtorEq, Bool.and_self, decide_true, decide_false]; done)
    | exact .mk t (by omega) rfl
    | (simp only [hg, hs, cond_true, cond_false, Bool.not_true, Bool.not_false, Bool.not_not, Bool.and_true, Bool.true_and, Bool.and_false, Bool.false_and, Bool.or_true, Bool.true_or, Bool.or_false, Bool.false_or, beq_self_eq_true, bne_self_eq_false, Bool.true_eq_false, Bool.false_eq_true, reduceCtorEq, Bool.and_self, decide_true, decide_false]; omega)
    | skip
set_option maxRecDepth 100000 in
set_option maxHeartbeats 4000000 in
theorem tablesCtmi (n : Nat) (t : Nat → Row) (a b c d p x : Int) (hn : n ≤ 30) (hT : okTb n t = true) (hs : decide (okS ⟨a, b, c, d⟩) = true) (hl : lev t p n = -1) (hx : ((t 0).T ≤ x ∧ x ≤ (t (n - 1)).T)) : SF Try.prog 3 (V.atS [tab n t, encS ⟨a, b, c, d⟩, I p, I x] (.bool true)) := by
  have hok : okT n t := @of_decide_eq_true _ (Classical.propDecidable _) hT
  have hn2 := hok.1
  have hn20 := hok.2.1
  have hg : decide ((30 : Int) < (n : Int)) = false := decide_eq_false (by omega)
  have ew : IntKind.i64.wrap ((n : Int) - 1) = ((n - 1 : Nat) : Int) := by rw [w64 (by omega) (by omega)]; omega
  have hR : decide ((t 0).T ≤ x ∧ x ≤ (t (n - 1)).T) = true := decide_eq_true hx
  have h18 : SF Try.prog 18 (V.atS [tab n t, I p] (.tup [I (0), I 7])) := sf_at sf18 (isTab.mk t (by omega) rfl) (by show PV.tup [I (atV n t p), I (atE n t p)] = _; simp only [atV, atE, hT, cond_true, if_pos hl])
  have h20 : SF Try.prog 20 (V.atS [tab n t, I x] (.tup [.agg [I (satB t x (nx t x 1 (n - 1))).1, I (satB t x (nx t x 1 (n - 1))).2], I 0])) := sf_at sf20 (isTab.mk t (by omega) rfl) (by
    have hE : satE n t x = 0 := by simp only [satE, hT, cond_true, if_pos hx]
    have hV : satV n t x = satB t x (nx t x 1 (n - 1)) := if_pos hE
    show PV.tup [.agg [I (satV n t x).1, I (satV n t x).2], I (satE n t x)] = _
    rw [hE, hV])
  have h22 : SF Try.prog 22 (V.atS [encS ⟨a, b, c, d⟩] (I 0)) := sf_at sf22 trivial (by show errR (decide (okS ⟨a, b, c, d⟩)) = _; rw [hs]; rfl)
  have h24 : SF Try.prog 24 (V.atS [tab n t] (.bool true)) := sf_at sf24 (isTab.mk t (by omega) rfl) (by show PV.bool (okTb n t) = _; rw [hT])
  have h25 : SF Try.prog 25 (V.atS [tab n t] (I 0)) := sf_at sf25 (isTab.mk t (by omega) rfl) (by show I (bif okTb n t then 0 else 1) = _; rw [hT]; rfl)
  have h26 : SF Try.prog 26 (V.atS [tab n t, I p] (I (-1))) := sf_at sf26 (isTab.mk t (by omega) rfl) (by show I (lev t p n) = _; rw [hl])
  have h28 : SF Try.prog 28 (V.atS [tab n t, I x] (.agg [I (satB t x (nx t x 1 (n - 1))).1, I (satB t x (nx t x 1 (n - 1))).2])) := sf_at sf28 (satP.mk t (by omega) rfl hok hx.1 hx.2) rfl
  refine sf_of types_ok mixed (l := [(17, awakeS), (18, _), (19, tabS), (20, _), (21, okSS), (22, _), (23, strS), (24, _), (25, _), (26, _), (27, inS), (28, _)]) ⟨sf17', h18, sf19, h20, sf21, h22, sf23, h24, h25, h26, sf27, h28, trivial⟩ (es := []) trivial 4 Try.func3 rfl (by kernel_rfl) fun args h => ?_
  cases (show args = _ from h)
  refine ⟨rfl, ?_⟩
  repeat' first
    | refine ⟨?_, ?_⟩
    | refine fun h => absurd h (by decide)
    | (refine fun h => ?_; exfalso; simp only [hg, hs, ew, toNat_self, toNat_zero, hR, cond_true, cond_false, Bool.not_true, Bool.not_false, Bool.not_not, Bool.and_true, Bool.true_and, Bool.and_false, Bool.false_and, Bool.or_true, Bool.true_or, Bool.or_false, Bool.false_or, beq_self_eq_true, bne_self_eq_false, Bool.true_eq_false, Bool.false_eq_true, reduceCtorEq, Bool.and_self, decide_true, decide_false] at h; done)
    | refine fun _ => ?_
    | refine ple_ok ?_
    | exact (rfl : @Eq (List PV) _ _)
  all_goals first
    | trivial
    | rfl
    | omega
    | (show @Eq Bool _ _; simp only [hg, hs, ew, toNat_self, toNat_zero, hR, cond_true, cond_false, Bool.not_true, Bool.not_false, Bool.not_not, Bool.and_true, Bool.true_and, Bool.and_false, Bool.false_and, Bool.or_true, Bool.true_or, Bool.or_false, Bool.false_or, beq_self_eq_true, bne_self_eq_false, Bool.true_eq_false, Bool.false_eq_true, reduceCtorEq, Bool.and_self, decide_true, decide_false]; done)
    | exact .mk t (by omega) rfl
    | (simp only [hg, hs, ew, toNat_self, toNat_zero, hR, cond_true, cond_false, Bool.not_true, Bool.not_false, Bool.not_not, Bool.and_true, Bool.true_and, Bool.and_false, Bool.false_and, Bool.or_true, Bool.true_or, Bool.or_false, Bool.false_or, beq_self_eq_true, bne_self_eq_false, Bool.true_eq_false, Bool.false_eq_true, reduceCtorEq, Bool.and_self, decide_true, decide_false]; omega)
    | skip
set_option maxRecDepth 100000 in
set_option maxHeartbeats 4000000 in
theorem tablesCtmo (n : Nat) (t : Nat → Row) (a b c d p x : Int) (hn : n ≤ 30) (hT : okTb n t = true) (hs : decide (okS ⟨a, b, c, d⟩) = true) (hl : lev t p n = -1) (hx : ¬ ((t 0).T ≤ x ∧ x ≤ (t (n - 1)).T)) : SF Try.prog 3 (V.atS [tab n t, encS ⟨a, b, c, d⟩, I p, I x] (.bool true)) := by
  have hok : okT n t := @of_decide_eq_true _ (Classical.propDecidable _) hT
  have hn2 := hok.1
  have hn20 := hok.2.1
  have hg : decide ((30 : Int) < (n : Int)) = false := decide_eq_false (by omega)
  have ew : IntKind.i64.wrap ((n : Int) - 1) = ((n - 1 : Nat) : Int) := by rw [w64 (by omega) (by omega)]; omega
  have hR : decide ((t 0).T ≤ x ∧ x ≤ (t (n - 1)).T) = false := decide_eq_false hx
  have h18 : SF Try.prog 18 (V.atS [tab n t, I p] (.tup [I (0), I 7])) := sf_at sf18 (isTab.mk t (by omega) rfl) (by show PV.tup [I (atV n t p), I (atE n t p)] = _; simp only [atV, atE, hT, cond_true, if_pos hl])
  have h20 : SF Try.prog 20 (V.atS [tab n t, I x] (.tup [.agg [I 0, I 0], I 2])) := sf_at sf20 (isTab.mk t (by omega) rfl) (by
    have hE : satE n t x = 2 := by simp only [satE, hT, cond_true, if_neg hx]
    have hV : satV n t x = (0, 0) := if_neg (by rw [hE]; decide)
    show PV.tup [.agg [I (satV n t x).1, I (satV n t x).2], I (satE n t x)] = _
    rw [hE, hV])
  have h22 : SF Try.prog 22 (V.atS [encS ⟨a, b, c, d⟩] (I 0)) := sf_at sf22 trivial (by show errR (decide (okS ⟨a, b, c, d⟩)) = _; rw [hs]; rfl)
  have h24 : SF Try.prog 24 (V.atS [tab n t] (.bool true)) := sf_at sf24 (isTab.mk t (by omega) rfl) (by show PV.bool (okTb n t) = _; rw [hT])
  have h25 : SF Try.prog 25 (V.atS [tab n t] (I 0)) := sf_at sf25 (isTab.mk t (by omega) rfl) (by show I (bif okTb n t then 0 else 1) = _; rw [hT]; rfl)
  have h26 : SF Try.prog 26 (V.atS [tab n t, I p] (I (-1))) := sf_at sf26 (isTab.mk t (by omega) rfl) (by show I (lev t p n) = _; rw [hl])
  have h28 : SF Try.prog 28 noS := sf_no sf28.2
  refine sf_of types_ok mixed (l := [(17, awakeS), (18, _), (19, tabS), (20, _), (21, okSS), (22, _), (23, strS), (24, _), (25, _), (26, _), (27, inS), (28, _)]) ⟨sf17', h18, sf19, h20, sf21, h22, sf23, h24, h25, h26, sf27, h28, trivial⟩ (es := []) trivial 4 Try.func3 rfl (by kernel_rfl) fun args h => ?_
  cases (show args = _ from h)
  refine ⟨rfl, ?_⟩
  repeat' first
    | refine ⟨?_, ?_⟩
    | refine fun h => absurd h (by decide)
    | (refine fun h => ?_; exfalso; simp only [hg, hs, ew, toNat_self, toNat_zero, hR, cond_true, cond_false, Bool.not_true, Bool.not_false, Bool.not_not, Bool.and_true, Bool.true_and, Bool.and_false, Bool.false_and, Bool.or_true, Bool.true_or, Bool.or_false, Bool.false_or, beq_self_eq_true, bne_self_eq_false, Bool.true_eq_false, Bool.false_eq_true, reduceCtorEq, Bool.and_self, decide_true, decide_false] at h; done)
    | refine fun _ => ?_
    | refine ple_ok ?_
    | exact (rfl : @Eq (List PV) _ _)
  all_goals first
    | trivial
    | rfl
    | omega
    | (show @Eq Bool _ _; simp only [hg, hs, ew, toNat_self, toNat_zero, hR, cond_true, cond_false, Bool.not_true, Bool.not_false, Bool.not_not, Bool.and_true, Bool.true_and, Bool.and_false, Bool.false_and, Bool.or_true, Bool.true_or, Bool.or_false, Bool.false_or, beq_self_eq_true, bne_self_eq_false, Bool.true_eq_false, Bool.false_eq_true, reduceCtorEq, Bool.and_self, decide_true, decide_false]; done)
    | exact .mk t (by omega) rfl
    | (simp only [hg, hs, ew, toNat_self, toNat_zero, hR, cond_true, cond_false, Bool.not_true, Bool.not_false, Bool.not_not, Bool.and_true, Bool.true_and, Bool.and_false, Bool.false_and, Bool.or_true, Bool.true_or, Bool.or_false, Bool.false_or, beq_self_eq_true, bne_self_eq_false, Bool.true_eq_false, Bool.false_eq_true, reduceCtorEq, Bool.and_self, decide_true, decide_false]; omega)
    | skip
set_option maxRecDepth 100000 in
set_option maxHeartbeats 4000000 in
theorem tablesCtpi (n : Nat) (t : Nat → Row) (a b c d p x : Int) (hn : n ≤ 30) (hT : okTb n t = true) (hs : decide (okS ⟨a, b, c, d⟩) = true) (hl : 0 ≤ lev t p n) (hx : ((t 0).T ≤ x ∧ x ≤ (t (n - 1)).T)) : SF Try.prog 3 (V.atS [tab n t, encS ⟨a, b, c, d⟩, I p, I x] (.bool true)) := by
  have hok : okT n t := @of_decide_eq_true _ (Classical.propDecidable _) hT
  have hn2 := hok.1
  have hn20 := hok.2.1
  have hg : decide ((30 : Int) < (n : Int)) = false := decide_eq_false (by omega)
  have ew : IntKind.i64.wrap ((n : Int) - 1) = ((n - 1 : Nat) : Int) := by rw [w64 (by omega) (by omega)]; omega
  have hR : decide ((t 0).T ≤ x ∧ x ≤ (t (n - 1)).T) = true := decide_eq_true hx
  have hl1 : decide (lev t p n < 0) = false := decide_eq_false (by omega)
  have hl2 : decide (0 ≤ lev t p n) = true := decide_eq_true hl
  have h18 : SF Try.prog 18 (V.atS [tab n t, I p] (.tup [I (lev t p n), I 0])) := sf_at sf18 (isTab.mk t (by omega) rfl) (by show PV.tup [I (atV n t p), I (atE n t p)] = _; simp only [atV, atE, hT, cond_true, if_neg (show ¬ lev t p n = -1 by omega)])
  have h20 : SF Try.prog 20 (V.atS [tab n t, I x] (.tup [.agg [I (satB t x (nx t x 1 (n - 1))).1, I (satB t x (nx t x 1 (n - 1))).2], I 0])) := sf_at sf20 (isTab.mk t (by omega) rfl) (by
    have hE : satE n t x = 0 := by simp only [satE, hT, cond_true, if_pos hx]
    have hV : satV n t x = satB t x (nx t x 1 (n - 1)) := if_pos hE
    show PV.tup [.agg [I (satV n t x).1, I (satV n t x).2], I (satE n t x)] = _
    rw [hE, hV])
  have h22 : SF Try.prog 22 (V.atS [encS ⟨a, b, c, d⟩] (I 0)) := sf_at sf22 trivial (by show errR (decide (okS ⟨a, b, c, d⟩)) = _; rw [hs]; rfl)
  have h24 : SF Try.prog 24 (V.atS [tab n t] (.bool true)) := sf_at sf24 (isTab.mk t (by omega) rfl) (by show PV.bool (okTb n t) = _; rw [hT])
  have h25 : SF Try.prog 25 (V.atS [tab n t] (I 0)) := sf_at sf25 (isTab.mk t (by omega) rfl) (by show I (bif okTb n t then 0 else 1) = _; rw [hT]; rfl)
  have h26 : SF Try.prog 26 (V.atS [tab n t, I p] (I (lev t p n))) := sf_at sf26 (isTab.mk t (by omega) rfl) (by show I (lev t p n) = _; rfl)
  have h28 : SF Try.prog 28 (V.atS [tab n t, I x] (.agg [I (satB t x (nx t x 1 (n - 1))).1, I (satB t x (nx t x 1 (n - 1))).2])) := sf_at sf28 (satP.mk t (by omega) rfl hok hx.1 hx.2) rfl
  refine sf_of types_ok mixed (l := [(17, awakeS), (18, _), (19, tabS), (20, _), (21, okSS), (22, _), (23, strS), (24, _), (25, _), (26, _), (27, inS), (28, _)]) ⟨sf17', h18, sf19, h20, sf21, h22, sf23, h24, h25, h26, sf27, h28, trivial⟩ (es := []) trivial 4 Try.func3 rfl (by kernel_rfl) fun args h => ?_
  cases (show args = _ from h)
  refine ⟨rfl, ?_⟩
  repeat' first
    | refine ⟨?_, ?_⟩
    | refine fun h => absurd h (by decide)
    | (refine fun h => ?_; exfalso; simp only [hg, hs, ew, toNat_self, toNat_zero, hR, hl1, hl2, cond_true, cond_false, Bool.not_true, Bool.not_false, Bool.not_not, Bool.and_true, Bool.true_and, Bool.and_false, Bool.false_and, Bool.or_true, Bool.true_or, Bool.or_false, Bool.false_or, beq_self_eq_true, bne_self_eq_false, Bool.true_eq_false, Bool.false_eq_true, reduceCtorEq, Bool.and_self, decide_true, decide_false] at h; done)
    | refine fun _ => ?_
    | refine ple_ok ?_
    | exact (rfl : @Eq (List PV) _ _)
  all_goals first
    | trivial
    | rfl
    | omega
    | (show @Eq Bool _ _; simp only [hg, hs, ew, toNat_self, toNat_zero, hR, hl1, hl2, cond_true, cond_false, Bool.not_true, Bool.not_false, Bool.not_not, Bool.and_true, Bool.true_and, Bool.and_false, Bool.false_and, Bool.or_true, Bool.true_or, Bool.or_false, Bool.false_or, beq_self_eq_true, bne_self_eq_false, Bool.true_eq_false, Bool.false_eq_true, reduceCtorEq, Bool.and_self, decide_true, decide_false]; done)
    | exact .mk t (by omega) rfl
    | (simp only [hg, hs, ew, toNat_self, toNat_zero, hR, hl1, hl2, cond_true, cond_false, Bool.not_true, Bool.not_false, Bool.not_not, Bool.and_true, Bool.true_and, Bool.and_false, Bool.false_and, Bool.or_true, Bool.true_or, Bool.or_false, Bool.false_or, beq_self_eq_true, bne_self_eq_false, Bool.true_eq_false, Bool.false_eq_true, reduceCtorEq, Bool.and_self, decide_true, decide_false]; omega)
    | skip
set_option maxRecDepth 100000 in
set_option maxHeartbeats 4000000 in
theorem tablesCtpo (n : Nat) (t : Nat → Row) (a b c d p x : Int) (hn : n ≤ 30) (hT : okTb n t = true) (hs : decide (okS ⟨a, b, c, d⟩) = true) (hl : 0 ≤ lev t p n) (hx : ¬ ((t 0).T ≤ x ∧ x ≤ (t (n - 1)).T)) : SF Try.prog 3 (V.atS [tab n t, encS ⟨a, b, c, d⟩, I p, I x] (.bool true)) := by
  have hok : okT n t := @of_decide_eq_true _ (Classical.propDecidable _) hT
  have hn2 := hok.1
  have hn20 := hok.2.1
  have hg : decide ((30 : Int) < (n : Int)) = false := decide_eq_false (by omega)
  have ew : IntKind.i64.wrap ((n : Int) - 1) = ((n - 1 : Nat) : Int) := by rw [w64 (by omega) (by omega)]; omega
  have hR : decide ((t 0).T ≤ x ∧ x ≤ (t (n - 1)).T) = false := decide_eq_false hx
  have hl1 : decide (lev t p n < 0) = false := decide_eq_false (by omega)
  have hl2 : decide (0 ≤ lev t p n) = true := decide_eq_true hl
  have h18 : SF Try.prog 18 (V.atS [tab n t, I p] (.tup [I (lev t p n), I 0])) := sf_at sf18 (isTab.mk t (by omega) rfl) (by show PV.tup [I (atV n t p), I (atE n t p)] = _; simp only [atV, atE, hT, cond_true, if_neg (show ¬ lev t p n = -1 by omega)])
  have h20 : SF Try.prog 20 (V.atS [tab n t, I x] (.tup [.agg [I 0, I 0], I 2])) := sf_at sf20 (isTab.mk t (by omega) rfl) (by
    have hE : satE n t x = 2 := by simp only [satE, hT, cond_true, if_neg hx]
    have hV : satV n t x = (0, 0) := if_neg (by rw [hE]; decide)
    show PV.tup [.agg [I (satV n t x).1, I (satV n t x).2], I (satE n t x)] = _
    rw [hE, hV])
  have h22 : SF Try.prog 22 (V.atS [encS ⟨a, b, c, d⟩] (I 0)) := sf_at sf22 trivial (by show errR (decide (okS ⟨a, b, c, d⟩)) = _; rw [hs]; rfl)
  have h24 : SF Try.prog 24 (V.atS [tab n t] (.bool true)) := sf_at sf24 (isTab.mk t (by omega) rfl) (by show PV.bool (okTb n t) = _; rw [hT])
  have h25 : SF Try.prog 25 (V.atS [tab n t] (I 0)) := sf_at sf25 (isTab.mk t (by omega) rfl) (by show I (bif okTb n t then 0 else 1) = _; rw [hT]; rfl)
  have h26 : SF Try.prog 26 (V.atS [tab n t, I p] (I (lev t p n))) := sf_at sf26 (isTab.mk t (by omega) rfl) (by show I (lev t p n) = _; rfl)
  have h28 : SF Try.prog 28 noS := sf_no sf28.2
  refine sf_of types_ok mixed (l := [(17, awakeS), (18, _), (19, tabS), (20, _), (21, okSS), (22, _), (23, strS), (24, _), (25, _), (26, _), (27, inS), (28, _)]) ⟨sf17', h18, sf19, h20, sf21, h22, sf23, h24, h25, h26, sf27, h28, trivial⟩ (es := []) trivial 4 Try.func3 rfl (by kernel_rfl) fun args h => ?_
  cases (show args = _ from h)
  refine ⟨rfl, ?_⟩
  repeat' first
    | refine ⟨?_, ?_⟩
    | refine fun h => absurd h (by decide)
    | (refine fun h => ?_; exfalso; simp only [hg, hs, ew, toNat_self, toNat_zero, hR, hl1, hl2, cond_true, cond_false, Bool.not_true, Bool.not_false, Bool.not_not, Bool.and_true, Bool.true_and, Bool.and_false, Bool.false_and, Bool.or_true, Bool.true_or, Bool.or_false, Bool.false_or, beq_self_eq_true, bne_self_eq_false, Bool.true_eq_false, Bool.false_eq_true, reduceCtorEq, Bool.and_self, decide_true, decide_false] at h; done)
    | refine fun _ => ?_
    | refine ple_ok ?_
    | exact (rfl : @Eq (List PV) _ _)
  all_goals first
    | trivial
    | rfl
    | omega
    | (show @Eq Bool _ _; simp only [hg, hs, ew, toNat_self, toNat_zero, hR, hl1, hl2, cond_true, cond_false, Bool.not_true, Bool.not_false, Bool.not_not, Bool.and_true, Bool.true_and, Bool.and_false, Bool.false_and, Bool.or_true, Bool.true_or, Bool.or_false, Bool.false_or, beq_self_eq_true, bne_self_eq_false, Bool.true_eq_false, Bool.false_eq_true, reduceCtorEq, Bool.and_self, decide_true, decide_false]; done)
    | exact .mk t (by omega) rfl
    | (simp only [hg, hs, ew, toNat_self, toNat_zero, hR, hl1, hl2, cond_true, cond_false, Bool.not_true, Bool.not_false, Bool.not_not, Bool.and_true, Bool.true_and, Bool.and_false, Bool.false_and, Bool.or_true, Bool.true_or, Bool.or_false, Bool.false_or, beq_self_eq_true, bne_self_eq_false, Bool.true_eq_false, Bool.false_eq_true, reduceCtorEq, Bool.and_self, decide_true, decide_false]; omega)
    | skip
set_option maxRecDepth 100000 in
set_option maxHeartbeats 4000000 in
theorem tablesCfmi (n : Nat) (t : Nat → Row) (a b c d p x : Int) (hn : n ≤ 30) (hT : okTb n t = true) (hs : decide (okS ⟨a, b, c, d⟩) = false) (hl : lev t p n = -1) (hx : ((t 0).T ≤ x ∧ x ≤ (t (n - 1)).T)) : SF Try.prog 3 (V.atS [tab n t, encS ⟨a, b, c, d⟩, I p, I x] (.bool true)) := by
  have hok : okT n t := @of_decide_eq_true _ (Classical.propDecidable _) hT
  have hn2 := hok.1
  have hn20 := hok.2.1
  have hg : decide ((30 : Int) < (n : Int)) = false := decide_eq_false (by omega)
  have ew : IntKind.i64.wrap ((n : Int) - 1) = ((n - 1 : Nat) : Int) := by rw [w64 (by omega) (by omega)]; omega
  have hR : decide ((t 0).T ≤ x ∧ x ≤ (t (n - 1)).T) = true := decide_eq_true hx
  have h18 : SF Try.prog 18 (V.atS [tab n t, I p] (.tup [I (0), I 7])) := sf_at sf18 (isTab.mk t (by omega) rfl) (by show PV.tup [I (atV n t p), I (atE n t p)] = _; simp only [atV, atE, hT, cond_true, if_pos hl])
  have h20 : SF Try.prog 20 (V.atS [tab n t, I x] (.tup [.agg [I (satB t x (nx t x 1 (n - 1))).1, I (satB t x (nx t x 1 (n - 1))).2], I 0])) := sf_at sf20 (isTab.mk t (by omega) rfl) (by
    have hE : satE n t x = 0 := by simp only [satE, hT, cond_true, if_pos hx]
    have hV : satV n t x = satB t x (nx t x 1 (n - 1)) := if_pos hE
    show PV.tup [.agg [I (satV n t x).1, I (satV n t x).2], I (satE n t x)] = _
    rw [hE, hV])
  have h22 : SF Try.prog 22 (V.atS [encS ⟨a, b, c, d⟩] (I 1)) := sf_at sf22 trivial (by show errR (decide (okS ⟨a, b, c, d⟩)) = _; rw [hs]; rfl)
  have h24 : SF Try.prog 24 (V.atS [tab n t] (.bool true)) := sf_at sf24 (isTab.mk t (by omega) rfl) (by show PV.bool (okTb n t) = _; rw [hT])
  have h25 : SF Try.prog 25 (V.atS [tab n t] (I 0)) := sf_at sf25 (isTab.mk t (by omega) rfl) (by show I (bif okTb n t then 0 else 1) = _; rw [hT]; rfl)
  have h26 : SF Try.prog 26 (V.atS [tab n t, I p] (I (-1))) := sf_at sf26 (isTab.mk t (by omega) rfl) (by show I (lev t p n) = _; rw [hl])
  have h28 : SF Try.prog 28 (V.atS [tab n t, I x] (.agg [I (satB t x (nx t x 1 (n - 1))).1, I (satB t x (nx t x 1 (n - 1))).2])) := sf_at sf28 (satP.mk t (by omega) rfl hok hx.1 hx.2) rfl
  refine sf_of types_ok mixed (l := [(17, awakeS), (18, _), (19, tabS), (20, _), (21, okSS), (22, _), (23, strS), (24, _), (25, _), (26, _), (27, inS), (28, _)]) ⟨sf17', h18, sf19, h20, sf21, h22, sf23, h24, h25, h26, sf27, h28, trivial⟩ (es := []) trivial 4 Try.func3 rfl (by kernel_rfl) fun args h => ?_
  cases (show args = _ from h)
  refine ⟨rfl, ?_⟩
  repeat' first
    | refine ⟨?_, ?_⟩
    | refine fun h => absurd h (by decide)
    | (refine fun h => ?_; exfalso; simp only [hg, hs, ew, toNat_self, toNat_zero, hR, cond_true, cond_false, Bool.not_true, Bool.not_false, Bool.not_not, Bool.and_true, Bool.true_and, Bool.and_false, Bool.false_and, Bool.or_true, Bool.true_or, Bool.or_false, Bool.false_or, beq_self_eq_true, bne_self_eq_false, Bool.true_eq_false, Bool.false_eq_true, reduceCtorEq, Bool.and_self, decide_true, decide_false] at h; done)
    | refine fun _ => ?_
    | refine ple_ok ?_
    | exact (rfl : @Eq (List PV) _ _)
  all_goals first
    | trivial
    | rfl
    | omega
    | (show @Eq Bool _ _; simp only [hg, hs, ew, toNat_self, toNat_zero, hR, cond_true, cond_false, Bool.not_true, Bool.not_false, Bool.not_not, Bool.and_true, Bool.true_and, Bool.and_false, Bool.false_and, Bool.or_true, Bool.true_or, Bool.or_false, Bool.false_or, beq_self_eq_true, bne_self_eq_false, Bool.true_eq_false, Bool.false_eq_true, reduceCtorEq, Bool.and_self, decide_true, decide_false]; done)
    | exact .mk t (by omega) rfl
    | (simp only [hg, hs, ew, toNat_self, toNat_zero, hR, cond_true, cond_false, Bool.not_true, Bool.not_false, Bool.not_not, Bool.and_true, Bool.true_and, Bool.and_false, Bool.false_and, Bool.or_true, Bool.true_or, Bool.or_false, Bool.false_or, beq_self_eq_true, bne_self_eq_false, Bool.true_eq_false, Bool.false_eq_true, reduceCtorEq, Bool.and_self, decide_true, decide_false]; omega)
    | skip
set_option maxRecDepth 100000 in
set_option maxHeartbeats 4000000 in
theorem tablesCfmo (n : Nat) (t : Nat → Row) (a b c d p x : Int) (hn : n ≤ 30) (hT : okTb n t = true) (hs : decide (okS ⟨a, b, c, d⟩) = false) (hl : lev t p n = -1) (hx : ¬ ((t 0).T ≤ x ∧ x ≤ (t (n - 1)).T)) : SF Try.prog 3 (V.atS [tab n t, encS ⟨a, b, c, d⟩, I p, I x] (.bool true)) := by
  have hok : okT n t := @of_decide_eq_true _ (Classical.propDecidable _) hT
  have hn2 := hok.1
  have hn20 := hok.2.1
  have hg : decide ((30 : Int) < (n : Int)) = false := decide_eq_false (by omega)
  have ew : IntKind.i64.wrap ((n : Int) - 1) = ((n - 1 : Nat) : Int) := by rw [w64 (by omega) (by omega)]; omega
  have hR : decide ((t 0).T ≤ x ∧ x ≤ (t (n - 1)).T) = false := decide_eq_false hx
  have h18 : SF Try.prog 18 (V.atS [tab n t, I p] (.tup [I (0), I 7])) := sf_at sf18 (isTab.mk t (by omega) rfl) (by show PV.tup [I (atV n t p), I (atE n t p)] = _; simp only [atV, atE, hT, cond_true, if_pos hl])
  have h20 : SF Try.prog 20 (V.atS [tab n t, I x] (.tup [.agg [I 0, I 0], I 2])) := sf_at sf20 (isTab.mk t (by omega) rfl) (by
    have hE : satE n t x = 2 := by simp only [satE, hT, cond_true, if_neg hx]
    have hV : satV n t x = (0, 0) := if_neg (by rw [hE]; decide)
    show PV.tup [.agg [I (satV n t x).1, I (satV n t x).2], I (satE n t x)] = _
    rw [hE, hV])
  have h22 : SF Try.prog 22 (V.atS [encS ⟨a, b, c, d⟩] (I 1)) := sf_at sf22 trivial (by show errR (decide (okS ⟨a, b, c, d⟩)) = _; rw [hs]; rfl)
  have h24 : SF Try.prog 24 (V.atS [tab n t] (.bool true)) := sf_at sf24 (isTab.mk t (by omega) rfl) (by show PV.bool (okTb n t) = _; rw [hT])
  have h25 : SF Try.prog 25 (V.atS [tab n t] (I 0)) := sf_at sf25 (isTab.mk t (by omega) rfl) (by show I (bif okTb n t then 0 else 1) = _; rw [hT]; rfl)
  have h26 : SF Try.prog 26 (V.atS [tab n t, I p] (I (-1))) := sf_at sf26 (isTab.mk t (by omega) rfl) (by show I (lev t p n) = _; rw [hl])
  have h28 : SF Try.prog 28 noS := sf_no sf28.2
  refine sf_of types_ok mixed (l := [(17, awakeS), (18, _), (19, tabS), (20, _), (21, okSS), (22, _), (23, strS), (24, _), (25, _), (26, _), (27, inS), (28, _)]) ⟨sf17', h18, sf19, h20, sf21, h22, sf23, h24, h25, h26, sf27, h28, trivial⟩ (es := []) trivial 4 Try.func3 rfl (by kernel_rfl) fun args h => ?_
  cases (show args = _ from h)
  refine ⟨rfl, ?_⟩
  repeat' first
    | refine ⟨?_, ?_⟩
    | refine fun h => absurd h (by decide)
    | (refine fun h => ?_; exfalso; simp only [hg, hs, ew, toNat_self, toNat_zero, hR, cond_true, cond_false, Bool.not_true, Bool.not_false, Bool.not_not, Bool.and_true, Bool.true_and, Bool.and_false, Bool.false_and, Bool.or_true, Bool.true_or, Bool.or_false, Bool.false_or, beq_self_eq_true, bne_self_eq_false, Bool.true_eq_false, Bool.false_eq_true, reduceCtorEq, Bool.and_self, decide_true, decide_false] at h; done)
    | refine fun _ => ?_
    | refine ple_ok ?_
    | exact (rfl : @Eq (List PV) _ _)
  all_goals first
    | trivial
    | rfl
    | omega
    | (show @Eq Bool _ _; simp only [hg, hs, ew, toNat_self, toNat_zero, hR, cond_true, cond_false, Bool.not_true, Bool.not_false, Bool.not_not, Bool.and_true, Bool.true_and, Bool.and_false, Bool.false_and, Bool.or_true, Bool.true_or, Bool.or_false, Bool.false_or, beq_self_eq_true, bne_self_eq_false, Bool.true_eq_false, Bool.false_eq_true, reduceCtorEq, Bool.and_self, decide_true, decide_false]; done)
    | exact .mk t (by omega) rfl
    | (simp only [hg, hs, ew, toNat_self, toNat_zero, hR, cond_true, cond_false, Bool.not_true, Bool.not_false, Bool.not_not, Bool.and_true, Bool.true_and, Bool.and_false, Bool.false_and, Bool.or_true, Bool.true_or, Bool.or_false, Bool.false_or, beq_self_eq_true, bne_self_eq_false, Bool.true_eq_false, Bool.false_eq_true, reduceCtorEq, Bool.and_self, decide_true, decide_false]; omega)
    | skip
set_option maxRecDepth 100000 in
set_option maxHeartbeats 4000000 in
theorem tablesCfpi (n : Nat) (t : Nat → Row) (a b c d p x : Int) (hn : n ≤ 30) (hT : okTb n t = true) (hs : decide (okS ⟨a, b, c, d⟩) = false) (hl : 0 ≤ lev t p n) (hx : ((t 0).T ≤ x ∧ x ≤ (t (n - 1)).T)) : SF Try.prog 3 (V.atS [tab n t, encS ⟨a, b, c, d⟩, I p, I x] (.bool true)) := by
  have hok : okT n t := @of_decide_eq_true _ (Classical.propDecidable _) hT
  have hn2 := hok.1
  have hn20 := hok.2.1
  have hg : decide ((30 : Int) < (n : Int)) = false := decide_eq_false (by omega)
  have ew : IntKind.i64.wrap ((n : Int) - 1) = ((n - 1 : Nat) : Int) := by rw [w64 (by omega) (by omega)]; omega
  have hR : decide ((t 0).T ≤ x ∧ x ≤ (t (n - 1)).T) = true := decide_eq_true hx
  have hl1 : decide (lev t p n < 0) = false := decide_eq_false (by omega)
  have hl2 : decide (0 ≤ lev t p n) = true := decide_eq_true hl
  have h18 : SF Try.prog 18 (V.atS [tab n t, I p] (.tup [I (lev t p n), I 0])) := sf_at sf18 (isTab.mk t (by omega) rfl) (by show PV.tup [I (atV n t p), I (atE n t p)] = _; simp only [atV, atE, hT, cond_true, if_neg (show ¬ lev t p n = -1 by omega)])
  have h20 : SF Try.prog 20 (V.atS [tab n t, I x] (.tup [.agg [I (satB t x (nx t x 1 (n - 1))).1, I (satB t x (nx t x 1 (n - 1))).2], I 0])) := sf_at sf20 (isTab.mk t (by omega) rfl) (by
    have hE : satE n t x = 0 := by simp only [satE, hT, cond_true, if_pos hx]
    have hV : satV n t x = satB t x (nx t x 1 (n - 1)) := if_pos hE
    show PV.tup [.agg [I (satV n t x).1, I (satV n t x).2], I (satE n t x)] = _
    rw [hE, hV])
  have h22 : SF Try.prog 22 (V.atS [encS ⟨a, b, c, d⟩] (I 1)) := sf_at sf22 trivial (by show errR (decide (okS ⟨a, b, c, d⟩)) = _; rw [hs]; rfl)
  have h24 : SF Try.prog 24 (V.atS [tab n t] (.bool true)) := sf_at sf24 (isTab.mk t (by omega) rfl) (by show PV.bool (okTb n t) = _; rw [hT])
  have h25 : SF Try.prog 25 (V.atS [tab n t] (I 0)) := sf_at sf25 (isTab.mk t (by omega) rfl) (by show I (bif okTb n t then 0 else 1) = _; rw [hT]; rfl)
  have h26 : SF Try.prog 26 (V.atS [tab n t, I p] (I (lev t p n))) := sf_at sf26 (isTab.mk t (by omega) rfl) (by show I (lev t p n) = _; rfl)
  have h28 : SF Try.prog 28 (V.atS [tab n t, I x] (.agg [I (satB t x (nx t x 1 (n - 1))).1, I (satB t x (nx t x 1 (n - 1))).2])) := sf_at sf28 (satP.mk t (by omega) rfl hok hx.1 hx.2) rfl
  refine sf_of types_ok mixed (l := [(17, awakeS), (18, _), (19, tabS), (20, _), (21, okSS), (22, _), (23, strS), (24, _), (25, _), (26, _), (27, inS), (28, _)]) ⟨sf17', h18, sf19, h20, sf21, h22, sf23, h24, h25, h26, sf27, h28, trivial⟩ (es := []) trivial 4 Try.func3 rfl (by kernel_rfl) fun args h => ?_
  cases (show args = _ from h)
  refine ⟨rfl, ?_⟩
  repeat' first
    | refine ⟨?_, ?_⟩
    | refine fun h => absurd h (by decide)
    | (refine fun h => ?_; exfalso; simp only [hg, hs, ew, toNat_self, toNat_zero, hR, hl1, hl2, cond_true, cond_false, Bool.not_true, Bool.not_false, Bool.not_not, Bool.and_true, Bool.true_and, Bool.and_false, Bool.false_and, Bool.or_true, Bool.true_or, Bool.or_false, Bool.false_or, beq_self_eq_true, bne_self_eq_false, Bool.true_eq_false, Bool.false_eq_true, reduceCtorEq, Bool.and_self, decide_true, decide_false] at h; done)
    | refine fun _ => ?_
    | refine ple_ok ?_
    | exact (rfl : @Eq (List PV) _ _)
  all_goals first
    | trivial
    | rfl
    | omega
    | (show @Eq Bool _ _; simp only [hg, hs, ew, toNat_self, toNat_zero, hR, hl1, hl2, cond_true, cond_false, Bool.not_true, Bool.not_false, Bool.not_not, Bool.and_true, Bool.true_and, Bool.and_false, Bool.false_and, Bool.or_true, Bool.true_or, Bool.or_false, Bool.false_or, beq_self_eq_true, bne_self_eq_false, Bool.true_eq_false, Bool.false_eq_true, reduceCtorEq, Bool.and_self, decide_true, decide_false]; done)
    | exact .mk t (by omega) rfl
    | (simp only [hg, hs, ew, toNat_self, toNat_zero, hR, hl1, hl2, cond_true, cond_false, Bool.not_true, Bool.not_false, Bool.not_not, Bool.and_true, Bool.true_and, Bool.and_false, Bool.false_and, Bool.or_true, Bool.true_or, Bool.or_false, Bool.false_or, beq_self_eq_true, bne_self_eq_false, Bool.true_eq_false, Bool.false_eq_true, reduceCtorEq, Bool.and_self, decide_true, decide_false]; omega)
    | skip
set_option maxRecDepth 100000 in
set_option maxHeartbeats 4000000 in
theorem tablesCfpo (n : Nat) (t : Nat → Row) (a b c d p x : Int) (hn : n ≤ 30) (hT : okTb n t = true) (hs : decide (okS ⟨a, b, c, d⟩) = false) (hl : 0 ≤ lev t p n) (hx : ¬ ((t 0).T ≤ x ∧ x ≤ (t (n - 1)).T)) : SF Try.prog 3 (V.atS [tab n t, encS ⟨a, b, c, d⟩, I p, I x] (.bool true)) := by
  have hok : okT n t := @of_decide_eq_true _ (Classical.propDecidable _) hT
  have hn2 := hok.1
  have hn20 := hok.2.1
  have hg : decide ((30 : Int) < (n : Int)) = false := decide_eq_false (by omega)
  have ew : IntKind.i64.wrap ((n : Int) - 1) = ((n - 1 : Nat) : Int) := by rw [w64 (by omega) (by omega)]; omega
  have hR : decide ((t 0).T ≤ x ∧ x ≤ (t (n - 1)).T) = false := decide_eq_false hx
  have hl1 : decide (lev t p n < 0) = false := decide_eq_false (by omega)
  have hl2 : decide (0 ≤ lev t p n) = true := decide_eq_true hl
  have h18 : SF Try.prog 18 (V.atS [tab n t, I p] (.tup [I (lev t p n), I 0])) := sf_at sf18 (isTab.mk t (by omega) rfl) (by show PV.tup [I (atV n t p), I (atE n t p)] = _; simp only [atV, atE, hT, cond_true, if_neg (show ¬ lev t p n = -1 by omega)])
  have h20 : SF Try.prog 20 (V.atS [tab n t, I x] (.tup [.agg [I 0, I 0], I 2])) := sf_at sf20 (isTab.mk t (by omega) rfl) (by
    have hE : satE n t x = 2 := by simp only [satE, hT, cond_true, if_neg hx]
    have hV : satV n t x = (0, 0) := if_neg (by rw [hE]; decide)
    show PV.tup [.agg [I (satV n t x).1, I (satV n t x).2], I (satE n t x)] = _
    rw [hE, hV])
  have h22 : SF Try.prog 22 (V.atS [encS ⟨a, b, c, d⟩] (I 1)) := sf_at sf22 trivial (by show errR (decide (okS ⟨a, b, c, d⟩)) = _; rw [hs]; rfl)
  have h24 : SF Try.prog 24 (V.atS [tab n t] (.bool true)) := sf_at sf24 (isTab.mk t (by omega) rfl) (by show PV.bool (okTb n t) = _; rw [hT])
  have h25 : SF Try.prog 25 (V.atS [tab n t] (I 0)) := sf_at sf25 (isTab.mk t (by omega) rfl) (by show I (bif okTb n t then 0 else 1) = _; rw [hT]; rfl)
  have h26 : SF Try.prog 26 (V.atS [tab n t, I p] (I (lev t p n))) := sf_at sf26 (isTab.mk t (by omega) rfl) (by show I (lev t p n) = _; rfl)
  have h28 : SF Try.prog 28 noS := sf_no sf28.2
  refine sf_of types_ok mixed (l := [(17, awakeS), (18, _), (19, tabS), (20, _), (21, okSS), (22, _), (23, strS), (24, _), (25, _), (26, _), (27, inS), (28, _)]) ⟨sf17', h18, sf19, h20, sf21, h22, sf23, h24, h25, h26, sf27, h28, trivial⟩ (es := []) trivial 4 Try.func3 rfl (by kernel_rfl) fun args h => ?_
  cases (show args = _ from h)
  refine ⟨rfl, ?_⟩
  repeat' first
    | refine ⟨?_, ?_⟩
    | refine fun h => absurd h (by decide)
    | (refine fun h => ?_; exfalso; simp only [hg, hs, ew, toNat_self, toNat_zero, hR, hl1, hl2, cond_true, cond_false, Bool.not_true, Bool.not_false, Bool.not_not, Bool.and_true, Bool.true_and, Bool.and_false, Bool.false_and, Bool.or_true, Bool.true_or, Bool.or_false, Bool.false_or, beq_self_eq_true, bne_self_eq_false, Bool.true_eq_false, Bool.false_eq_true, reduceCtorEq, Bool.and_self, decide_true, decide_false] at h; done)
    | refine fun _ => ?_
    | refine ple_ok ?_
    | exact (rfl : @Eq (List PV) _ _)
  all_goals first
    | trivial
    | rfl
    | omega
    | (show @Eq Bool _ _; simp only [hg, hs, ew, toNat_self, toNat_zero, hR, hl1, hl2, cond_true, cond_false, Bool.not_true, Bool.not_false, Bool.not_not, Bool.and_true, Bool.true_and, Bool.and_false, Bool.false_and, Bool.or_true, Bool.true_or, Bool.or_false, Bool.false_or, beq_self_eq_true, bne_self_eq_false, Bool.true_eq_false, Bool.false_eq_true, reduceCtorEq, Bool.and_self, decide_true, decide_false]; done)
    | exact .mk t (by omega) rfl
    | (simp only [hg, hs, ew, toNat_self, toNat_zero, hR, hl1, hl2, cond_true, cond_false, Bool.not_true, Bool.not_false, Bool.not_not, Bool.and_true, Bool.true_and, Bool.and_false, Bool.false_and, Bool.or_true, Bool.true_or, Bool.or_false, Bool.false_or, beq_self_eq_true, bne_self_eq_false, Bool.true_eq_false, Bool.false_eq_true, reduceCtorEq, Bool.and_self, decide_true, decide_false]; omega)
    | skip
end Go.Proofs.Ytiidjohhcappdaa
