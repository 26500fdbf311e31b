/- Layer 1: the law on trains, step by step. -/
import Derived.Test.YtiidjohhcappdaaS27
import Derived.Test.YtiidjohhcappdaaS9c
import Derived.Test.YtiidjohhcappdaaX2
namespace Go.Proofs.Ytiidjohhcappdaa
open Go.V
set_option linter.unusedSimpArgs false

def ints (m : Nat) (l : Nat → Int) : PV := .slice none m fun i => intL (l i)
def awakeS : V.Spec := V.atS [] (.bool true)
theorem sf17' : SF Try.prog 17 awakeS := sf17
def noS : V.Spec := fun _ => (some False, .junk)
theorem sf_no {f : Nat} (h : HasBody Try.prog f) : SF Try.prog f noS := ⟨fun _ _ _ _ _ _ _ h => h.elim, h⟩

theorem trW_sh (t : Nat → Row) (l : Nat → Int) (x : Stream) (k : Nat) : ∀ i, trW t (fun i => l (i + k)) (trW t l x k) i = trW t l x (i + k)
  | 0 => by rw [Nat.zero_add]; rfl
  | i + 1 => by
    show wat (partsV (t (l (i + k)).toNat) (trW t (fun i => l (i + k)) (trW t l x k) i)) = _
    rw [trW_sh t l x k i, Nat.succ_add]
    rfl
theorem trP_sh (t : Nat → Row) (l : Nat → Int) (x : Stream) (k i : Nat) : trP t (fun i => l (i + k)) (trW t l x k) i = trP t l x (i + k) := by
  unfold trP
  rw [trW_sh]
inductive isTV (n : Nat) (get : Nat → List PV) (m : Nat) (lget : Nat → List PV) (x : Stream) : Prop
  | mk (t : Nat → Row) (l : Nat → Int) (hT : okT n t) (hL : Upto (lvP (n : Int) l) m) (h1 : 1 ≤ m) (h20 : m ≤ 20) (hx : okS x) (e : get = fun i => rowL (t i)) (e' : lget = fun i => intL (l i))
  | no (h : False)
noncomputable def trVS : V.Spec
  | [.slice none n get, .slice none m lget, .agg [.int .i64 a, .int .i64 b, .int .i64 c, .int .i64 d]] => (some (isTV n get m lget ⟨a, b, c, d⟩), .tup [.slice none m (fun i => partL (trP (fun i => rowOf (get i)) (fun i => intOf (lget i)) ⟨a, b, c, d⟩ i)), I 0])
  | _ => bad
theorem sf40v : SF Try.prog 40 trVS := by
  refine sf_args sf40s fun args h => ?_
  unfold trVS at h ⊢
  split at h
  · rename_i n get m lget a b c d
    have h : isTV n get m lget ⟨a, b, c, d⟩ := h
    cases h with
    | no h => exact h.elim
    | mk t l hT hL h1 h20 hx e e' =>
    subst e e'
    have hn := hT.2.1
    have hc : chkLE n t m l = 0 := by
      unfold chkLE
      rw [okTb_t hT, allB_t (p := fun i => 0 ≤ l i ∧ l i ≤ (n : Int) - 1) ⟨fun i hi => ⟨(hL.all i hi).1, (hL.all i hi).2.1⟩⟩]
      rfl
    have ht : trB m l = true := trB_t h1 h20 ⟨fun i hi => (hL.all i hi).2.2⟩
    have hE : trE n t m l ⟨a, b, c, d⟩ = 0 := by unfold trE; rw [if_pos hc, ht, if_pos hx]; rfl
    refine ⟨_, rfl, fun i hi => .refl _, .mk t l (by omega) (by omega) rfl rfl, ?_⟩
    show PV.tup [.slice none (trN n t m l ⟨a, b, c, d⟩) (fun i => partL (trP t l ⟨a, b, c, d⟩ i)), I (trE n t m l ⟨a, b, c, d⟩)] = _
    rw [show trN n t m l ⟨a, b, c, d⟩ = m from if_pos hE, hE]
    rfl
  · exact h.elim

set_option maxRecDepth 100000 in
set_option maxHeartbeats 8000000 in
theorem stepsA (n : Nat) (t : Nat → Row) (m : Nat) (l : Nat → Int) (a b c d f : Int) (hn : n ≤ 9223372036854775807) (hT : okTb n t = false) : SF Try.prog 15 (V.atS [tab n t, .slice none m (fun i => intL (l i)), encS ⟨a, b, c, d⟩, .int .u8 f] (.bool true)) := by
  have h24 : SF Try.prog 24 (V.atS [tab n t] (.bool false)) := sf_at sf24L (isTabL.mk t (by omega) rfl) (by show PV.bool (okTb n t) = _; rw [hT])
  refine sf_of types_ok mixed (l := [(17, awakeS), (19, noS), (21, noS), (23, noS), (24, _), (39, noS), (40, noS), (41, noS)]) ⟨sf17', sf_no sf19.2, sf_no sf21.2, sf_no sf23.2, h24, sf_no sf39.2, sf_no sf40s.2, sf_no sf41.2, trivial⟩ (es := []) trivial 4 Try.func15 rfl (by kernel_rfl) fun args h => ?_
  cases (show args = _ from h)
  refine ⟨rfl, ?_⟩
  repeat' first
    | refine ⟨?_, ?_⟩
    | refine fun h => absurd h (by decide)
    | (refine fun h => ?_; exfalso; simp only [cond_true, cond_false, Bool.not_true, Bool.not_false, Bool.not_not, Bool.and_true, Bool.true_and, Bool.and_false, Bool.false_and, Bool.or_true, Bool.true_or, Bool.or_false, Bool.false_or, beq_self_eq_true, bne_self_eq_false, Bool.true_eq_false, Bool.false_eq_true, reduceCtorEq, Bool.and_self, decide_true, decide_false] at h; done)
    | refine fun _ => ?_
    | refine ple_ok ?_
    | exact (rfl : @Eq (List PV) _ _)
  all_goals first
    | trivial
    | rfl
    | omega
    | exact isTab.mk t (by omega) rfl
    | (show @Eq Bool _ _; simp only [cond_true, cond_false, Bool.not_true, Bool.not_false, Bool.not_not, Bool.and_true, Bool.true_and, Bool.and_false, Bool.false_and, Bool.or_true, Bool.true_or, Bool.or_false, Bool.false_or, beq_self_eq_true, bne_self_eq_false, Bool.true_eq_false, Bool.false_eq_true, reduceCtorEq, Bool.and_self, decide_true, decide_false]; done)
    | skip
set_option maxRecDepth 100000 in
set_option maxHeartbeats 8000000 in
theorem stepsB (n : Nat) (t : Nat → Row) (m : Nat) (l : Nat → Int) (a b c d f : Int) (hn : n ≤ 9223372036854775807) (hm : m ≤ 9223372036854775807) (hT : okTb n t = true) (hL : lvB n m l = false) : SF Try.prog 15 (V.atS [tab n t, .slice none m (fun i => intL (l i)), encS ⟨a, b, c, d⟩, .int .u8 f] (.bool true)) := by
  have h24 : SF Try.prog 24 (V.atS [tab n t] (.bool true)) := sf_at sf24L (isTabL.mk t (by omega) rfl) (by show PV.bool (okTb n t) = _; rw [hT])
  have hok : okT n t := @of_decide_eq_true _ (Classical.propDecidable _) hT
  have hn20 := hok.2.1
  have h41 : SF Try.prog 41 (V.atS [I n, .slice none m (fun i => intL (l i))] (.bool false)) := sf_at sf41 (isLv.mk l (by omega) (by omega) hm rfl) (by show PV.bool (lvB n m l) = _; rw [hL])
  refine sf_of types_ok mixed (l := [(17, awakeS), (19, noS), (21, noS), (23, noS), (24, _), (39, noS), (40, noS), (41, _)]) ⟨sf17', sf_no sf19.2, sf_no sf21.2, sf_no sf23.2, h24, sf_no sf39.2, sf_no sf40s.2, h41, trivial⟩ (es := []) trivial 4 Try.func15 rfl (by kernel_rfl) fun args h => ?_
  cases (show args = _ from h)
  refine ⟨rfl, ?_⟩
  repeat' first
    | refine ⟨?_, ?_⟩
    | refine fun h => absurd h (by decide)
    | (refine fun h => ?_; exfalso; simp only [cond_true, cond_false, Bool.not_true, Bool.not_false, Bool.not_not, Bool.and_true, Bool.true_and, Bool.and_false, Bool.false_and, Bool.or_true, Bool.true_or, Bool.or_false, Bool.false_or, beq_self_eq_true, bne_self_eq_false, Bool.true_eq_false, Bool.false_eq_true, reduceCtorEq, Bool.and_self, decide_true, decide_false] at h; done)
    | refine fun _ => ?_
    | refine ple_ok ?_
    | exact (rfl : @Eq (List PV) _ _)
  all_goals first
    | trivial
    | rfl
    | omega
    | exact isTab.mk t (by omega) rfl
    | (show @Eq Bool _ _; simp only [cond_true, cond_false, Bool.not_true, Bool.not_false, Bool.not_not, Bool.and_true, Bool.true_and, Bool.and_false, Bool.false_and, Bool.or_true, Bool.true_or, Bool.or_false, Bool.false_or, beq_self_eq_true, bne_self_eq_false, Bool.true_eq_false, Bool.false_eq_true, reduceCtorEq, Bool.and_self, decide_true, decide_false]; done)
    | skip
set_option maxRecDepth 100000 in
set_option maxHeartbeats 8000000 in
theorem stepsC (n : Nat) (t : Nat → Row) (m : Nat) (l : Nat → Int) (a b c d f : Int) (hn : n ≤ 9223372036854775807) (hm : m ≤ 9223372036854775807) (hT : okTb n t = true) (hL : lvB n m l = true) (hx : decide (okS ⟨a, b, c, d⟩) = false) : SF Try.prog 15 (V.atS [tab n t, .slice none m (fun i => intL (l i)), encS ⟨a, b, c, d⟩, .int .u8 f] (.bool true)) := by
  have h24 : SF Try.prog 24 (V.atS [tab n t] (.bool true)) := sf_at sf24L (isTabL.mk t (by omega) rfl) (by show PV.bool (okTb n t) = _; rw [hT])
  have hok : okT n t := @of_decide_eq_true _ (Classical.propDecidable _) hT
  have hn20 := hok.2.1
  have h41 : SF Try.prog 41 (V.atS [I n, .slice none m (fun i => intL (l i))] (.bool true)) := sf_at sf41 (isLv.mk l (by omega) (by omega) hm rfl) (by show PV.bool (lvB n m l) = _; rw [hL])
  refine sf_of types_ok mixed (l := [(17, awakeS), (19, noS), (21, okSS), (23, noS), (24, _), (39, noS), (40, noS), (41, _)]) ⟨sf17', sf_no sf19.2, sf21, sf_no sf23.2, h24, sf_no sf39.2, sf_no sf40s.2, h41, trivial⟩ (es := []) trivial 4 Try.func15 rfl (by kernel_rfl) fun args h => ?_
  cases (show args = _ from h)
  refine ⟨rfl, ?_⟩
  repeat' first
    | refine ⟨?_, ?_⟩
    | refine fun h => absurd h (by decide)
    | (refine fun h => ?_; exfalso; simp only [hx, cond_true, cond_false, Bool.not_true, Bool.not_false, Bool.not_not, Bool.and_true, Bool.true_and, Bool.and_false, Bool.false_and, Bool.or_true, Bool.true_or, Bool.or_false, Bool.false_or, beq_self_eq_true, bne_self_eq_false, Bool.true_eq_false, Bool.false_eq_true, reduceCtorEq, Bool.and_self, decide_true, decide_false] at h; done)
    | refine fun _ => ?_
    | refine ple_ok ?_
    | exact (rfl : @Eq (List PV) _ _)
  all_goals first
    | trivial
    | rfl
    | omega
    | exact isTab.mk t (by omega) rfl
    | (show @Eq Bool _ _; simp only [hx, cond_true, cond_false, Bool.not_true, Bool.not_false, Bool.not_not, Bool.and_true, Bool.true_and, Bool.and_false, Bool.false_and, Bool.or_true, Bool.true_or, Bool.or_false, Bool.false_or, beq_self_eq_true, bne_self_eq_false, Bool.true_eq_false, Bool.false_eq_true, reduceCtorEq, Bool.and_self, decide_true, decide_false]; done)
    | skip
set_option maxRecDepth 100000 in
set_option maxHeartbeats 8000000 in
theorem stepsD (n : Nat) (t : Nat → Row) (m : Nat) (l : Nat → Int) (a b c d f : Int) (hn : n ≤ 9223372036854775807) (hm : m ≤ 9223372036854775807) (hf : 0 ≤ f ∧ f ≤ 255) (hT : okTb n t = true) (hL : lvB n m l = true) (hx : decide (okS ⟨a, b, c, d⟩) = true) (k : Nat) (hk : 1 + f.tmod (m : Int) = (k : Int)) : SF Try.prog 15 (V.atS [tab n t, .slice none m (fun i => intL (l i)), encS ⟨a, b, c, d⟩, .int .u8 f] (.bool true)) := by
  have h24 : SF Try.prog 24 (V.atS [tab n t] (.bool true)) := sf_at sf24L (isTabL.mk t (by omega) rfl) (by show PV.bool (okTb n t) = _; rw [hT])
  have hok : okT n t := @of_decide_eq_true _ (Classical.propDecidable _) hT
  have hn20 := hok.2.1
  have h41 : SF Try.prog 41 (V.atS [I n, .slice none m (fun i => intL (l i))] (.bool true)) := sf_at sf41 (isLv.mk l (by omega) (by omega) hm rfl) (by show PV.bool (lvB n m l) = _; rw [hL])
  have hx' : okS ⟨a, b, c, d⟩ := of_decide_eq_true hx
  obtain ⟨m1, m20, hu⟩ := lvB_get hL
  have hl0 := hu.all 0 (by omega)
  have hW := trW_ok (x := ⟨a, b, c, d⟩) hok ⟨fun i hi => ⟨(hu.all i hi).1, (hu.all i hi).2.1⟩⟩ hx'
  have hf1 : 0 ≤ f.tmod (m : Int) := Int.tmod_nonneg _ hf.1
  have hf2 : f.tmod (m : Int) < (m : Int) := Int.tmod_lt_of_pos _ (by omega)
  have ef : IntKind.i64.wrap f = f := w64 (by omega) (by omega)
  have eK : IntKind.i64.wrap (1 + (IntKind.i64.wrap f).tmod (m : Int)) = (k : Int) := by rw [ef, w64 (by omega) (by omega)]; omega
  have eKn : (IntKind.i64.wrap (1 + (IntKind.i64.wrap f).tmod (m : Int))).toNat = k := by rw [eK]; rfl
  have h39 : SF Try.prog 39 (V.atS [tab n t, I (l 0), encS ⟨a, b, c, d⟩] (.tup [.agg (partL (trP t l ⟨a, b, c, d⟩ 0)), I 0])) := by
    have he1 : err1 n t (l 0) = 0 := by unfold err1; rw [hT, if_pos (by omega)]; rfl
    have hE : flE n t (l 0) ⟨a, b, c, d⟩ = 0 := by unfold flE; rw [if_pos he1, if_pos hx']
    refine sf_at sf39 (isTab.mk t (by omega) rfl) ?_
    show PV.tup [encP (flV n t (l 0) ⟨a, b, c, d⟩), I (flE n t (l 0) ⟨a, b, c, d⟩)] = _
    rw [hE, show flV n t (l 0) ⟨a, b, c, d⟩ = partsV (t (l 0).toNat) ⟨a, b, c, d⟩ from if_pos hE]
    rfl
  have huk : Upto (lvP (n : Int) l) k := ⟨fun i hi => hu.all i (by omega)⟩
  have tva : isTV n (fun i => rowL (t i)) m (fun i => intL (l i)) ⟨a, b, c, d⟩ := .mk t l hok hu m1 m20 hx' rfl rfl
  have tvb : isTV n (fun i => rowL (t i)) (IntKind.i64.wrap (1 + (IntKind.i64.wrap f).tmod (m : Int))).toNat (fun i => intL (l i)) ⟨a, b, c, d⟩ := by
    rw [eKn]; exact .mk t l hok huk (by omega) (by omega) hx' rfl rfl
  have e00 : Int.toNat 0 = 0 := rfl
  have eK1 : IntKind.i64.wrap ((k : Int) - 1) = (k : Int) - 1 := w64 (by omega) (by omega)
  have eK1n : (IntKind.i64.wrap ((k : Int) - 1)).toNat = k - 1 := by rw [eK1]; omega
  have eln : IntKind.i64.wrap ((m : Int) - (k : Int)) = ((m - k : Nat) : Int) := by rw [w64 (by omega) (by omega)]; omega
  have hqa : 0 ≤ IntKind.i64.wrap (1 + (IntKind.i64.wrap f).tmod (m : Int)) ∧ IntKind.i64.wrap (1 + (IntKind.i64.wrap f).tmod (m : Int)) ≤ (m : Int) := by rw [eK]; omega
  refine sf_of types_ok mixed (l := [(17, awakeS), (19, tabS), (21, okSS), (23, strS), (24, _), (39, _), (40, trVS), (41, _)]) ⟨sf17', sf19, sf21, sf23, h24, h39, sf40v, h41, trivial⟩ (es := []) trivial 4 Try.func15 rfl (by kernel_rfl) fun args h => ?_
  cases (show args = _ from h)
  refine ⟨rfl, ?_⟩
  repeat' first
    | refine ⟨?_, ?_⟩
    | refine fun h => absurd h (by decide)
    | (refine fun h => ?_; exfalso; simp only [rowOf_rowL, intOf_intL, toNat_self, e00, hx, eK, eKn, eK1, eK1n, eln, cond_true, cond_false, Bool.not_true, Bool.not_false, Bool.not_not, Bool.and_true, Bool.true_and, Bool.and_false, Bool.false_and, Bool.or_true, Bool.true_or, Bool.or_false, Bool.false_or, beq_self_eq_true, bne_self_eq_false, Bool.true_eq_false, Bool.false_eq_true, reduceCtorEq, Bool.and_self, decide_true, decide_false] at h; done)
    | refine fun _ => ?_
    | refine ple_ok ?_
    | exact (rfl : @Eq (List PV) _ _)
  all_goals first
    | trivial
    | rfl
    | omega
    | exact isTab.mk t (by omega) rfl
    | (show m * 8 ≤ 140737488355328; omega)
    | (rw [eKn]; show k * 8 ≤ 140737488355328; omega)
    | exact tva
    | exact tvb
    | exact hqa
    | exact hqa.1
    | exact hqa.2
    | (show @Eq Bool _ _; simp only [rowOf_rowL, intOf_intL, toNat_self, e00, hx, eK, eKn, eK1, eK1n, eln, cond_true, cond_false, Bool.not_true, Bool.not_false, Bool.not_not, Bool.and_true, Bool.true_and, Bool.and_false, Bool.false_and, Bool.or_true, Bool.true_or, Bool.or_false, Bool.false_or, beq_self_eq_true, bne_self_eq_false, Bool.true_eq_false, Bool.false_eq_true, reduceCtorEq, Bool.and_self, decide_true, decide_false]; done)
    | skip
  refine .mk ⟨[0, 1, 9, 13, 14, 16], [], fun st => ∃ i : Nat, i ≤ k ∧ st = mkSt ([0, 1, 9, 13, 14, 16].zip [tab n t, ints m l, (.slice none m fun i => partL (trP t l ⟨a, b, c, d⟩ i)), I k, (.slice none k fun i => partL (trP t l ⟨a, b, c, d⟩ i)), I i]) [],
    fun st => k - (match st.slots 16 with | .int _ k => k.toNat | _ => 0), ?_, ?_⟩
  · refine ⟨_, sle_head (live := [0, 1, 9, 13, 14, 16]) [tab n t, ints m l, (.slice none m fun i => partL (trP t l ⟨a, b, c, d⟩ i)), I k, (.slice none k fun i => partL (trP t l ⟨a, b, c, d⟩ i)), I (0 : Nat)] [] (.cons (.refl _) (.cons (.refl _) (.cons (.slice _ _ _ _ fun i hi => rfl) (.cons (ple_ok ?_) (.cons ?_ (.cons (.refl _) .nil)))))) .nil, 0, Nat.zero_le _, rfl⟩
    · exact eK
    · show PLe (.slice none (IntKind.i64.wrap (1 + (IntKind.i64.wrap f).tmod (m : Int))).toNat _) (.slice none k _)
      rw [eKn]
      exact .slice _ _ _ _ fun i hi => rfl
  · rintro st ⟨i, hi, rfl⟩
    refine ⟨fun p1 => ?_, fun p1 => ?_⟩
    · have hlt : i < k := by simpa using p1
      clear p1
      repeat' first
        | refine ⟨?_, ?_⟩
        | refine fun h => absurd h (by decide)
        | (refine fun h => ?_; exfalso; simp only [rowOf_rowL, intOf_intL, toNat_self, e00, hx, eK, eKn, eK1, eK1n, eln, cond_true, cond_false, Bool.not_true, Bool.not_false, Bool.not_not, Bool.and_true, Bool.true_and, Bool.and_false, Bool.false_and, Bool.or_true, Bool.true_or, Bool.or_false, Bool.false_or, beq_self_eq_true, bne_self_eq_false, Bool.true_eq_false, Bool.false_eq_true, reduceCtorEq, Bool.and_self, decide_true, decide_false] at h; done)
        | refine fun _ => ?_
        | refine ple_ok ?_
        | exact (rfl : @Eq (List PV) _ _)
        | refine Halt.mk ⟨_, sle_head (live := [0, 1, 9, 13, 14, 16]) [tab n t, ints m l, (.slice none m fun i => partL (trP t l ⟨a, b, c, d⟩ i)), I k, (.slice none k fun i => partL (trP t l ⟨a, b, c, d⟩ i)), I (i + 1 : Nat)] [] (.cons (.refl _) (.cons (.refl _) (.cons (.refl _) (.cons (.refl _) (.cons (.refl _) (.cons (ple_ok ?_) .nil)))))) .nil, ⟨i + 1, ?_, rfl⟩, ?_⟩
      all_goals first
        | trivial
        | rfl
        | omega
        | exact isTab.mk t (by omega) rfl
        | (show IntKind.i64.wrap ((i : Int) + 1) = ((i + 1 : Nat) : Int); rw [w64 (by omega) (by omega)]; omega)
        | (show k - (i + 1) < k - i; omega)
        | (show @Eq Bool _ _; simp only [rowOf_rowL, intOf_intL, toNat_self, e00, hx, eK, eKn, eK1, eK1n, eln, cond_true, cond_false, Bool.not_true, Bool.not_false, Bool.not_not, Bool.and_true, Bool.true_and, Bool.and_false, Bool.false_and, Bool.or_true, Bool.true_or, Bool.or_false, Bool.false_or, beq_self_eq_true, bne_self_eq_false, Bool.true_eq_false, Bool.false_eq_true, reduceCtorEq, Bool.and_self, decide_true, decide_false]; done)
        | skip
    · have : i = k := by
        have := of_decide_eq_false p1
        omega
      subst this
      have eK1 := eK1
      by_cases hkm : i = m
      · have f1 : ((i : Int) == (m : Int)) = true := by rw [beq_iff_eq]; omega
        repeat' first
          | refine ⟨?_, ?_⟩
          | refine fun h => absurd h (by decide)
          | (refine fun h => ?_; exfalso; simp only [f1, cond_true, cond_false, Bool.not_true, Bool.not_false, Bool.not_not, Bool.and_true, Bool.true_and, Bool.and_false, Bool.false_and, Bool.or_true, Bool.true_or, Bool.or_false, Bool.false_or, beq_self_eq_true, bne_self_eq_false, Bool.true_eq_false, Bool.false_eq_true, reduceCtorEq, Bool.and_self, decide_true, decide_false] at h; done)
          | refine fun _ => ?_
          | refine ple_ok ?_
          | exact (rfl : @Eq (List PV) _ _)
        all_goals first
          | trivial
          | rfl
          | omega
          | exact isTab.mk t (by omega) rfl
          | (show @Eq Bool _ _; simp only [f1, cond_true, cond_false, Bool.not_true, Bool.not_false, Bool.not_not, Bool.and_true, Bool.true_and, Bool.and_false, Bool.false_and, Bool.or_true, Bool.true_or, Bool.or_false, Bool.false_or, beq_self_eq_true, bne_self_eq_false, Bool.true_eq_false, Bool.false_eq_true, reduceCtorEq, Bool.and_self, decide_true, decide_false]; done)
          | skip
      · have f1 : ((i : Int) == (m : Int)) = false := by rw [beq_eq_false_iff_ne]; omega
        have hkl : i < m := by omega
        clear tva tvb
        have eWk : (⟨(trP t l ⟨a, b, c, d⟩ (IntKind.i64.wrap ((i : Int) - 1)).toNat).wm, (trP t l ⟨a, b, c, d⟩ (IntKind.i64.wrap ((i : Int) - 1)).toNat).wh, (trP t l ⟨a, b, c, d⟩ (IntKind.i64.wrap ((i : Int) - 1)).toNat).ws, (trP t l ⟨a, b, c, d⟩ (IntKind.i64.wrap ((i : Int) - 1)).toNat).wg⟩ : Stream) = trW t l ⟨a, b, c, d⟩ i := by
          rw [eK1n]
          obtain ⟨j, rfl⟩ : ∃ j, i = j + 1 := ⟨i - 1, by omega⟩
          rfl
        have tvc : isTV n (fun i => rowL (t i)) (m - i) (fun j => intL (l (j + i))) ⟨(trP t l ⟨a, b, c, d⟩ (IntKind.i64.wrap ((i : Int) - 1)).toNat).wm, (trP t l ⟨a, b, c, d⟩ (IntKind.i64.wrap ((i : Int) - 1)).toNat).wh, (trP t l ⟨a, b, c, d⟩ (IntKind.i64.wrap ((i : Int) - 1)).toNat).ws, (trP t l ⟨a, b, c, d⟩ (IntKind.i64.wrap ((i : Int) - 1)).toNat).wg⟩ := by
          rw [eWk]
          refine .mk t (fun j => l (j + i)) hok ⟨fun j hj => ?_⟩ (by omega) (by omega) (hW i (by omega)) rfl rfl
          have h0 := hu.all (j + i) (by omega)
          refine ⟨h0.1, h0.2.1, fun hj0 => ?_⟩
          have := h0.2.2 (by omega)
          rw [show j + i - 1 = j - 1 + i by omega] at this
          exact this
        repeat' first
          | refine ⟨?_, ?_⟩
          | refine fun h => absurd h (by decide)
          | (refine fun h => ?_; exfalso; simp only [rowOf_rowL, intOf_intL, toNat_self, e00, hx, eK, eKn, eK1, eK1n, eln, f1, cond_true, cond_false, Bool.not_true, Bool.not_false, Bool.not_not, Bool.and_true, Bool.true_and, Bool.and_false, Bool.false_and, Bool.or_true, Bool.true_or, Bool.or_false, Bool.false_or, beq_self_eq_true, bne_self_eq_false, Bool.true_eq_false, Bool.false_eq_true, reduceCtorEq, Bool.and_self, decide_true, decide_false] at h; done)
          | refine fun _ => ?_
          | refine ple_ok ?_
          | exact (rfl : @Eq (List PV) _ _)
        all_goals first
          | trivial
          | rfl
          | omega
          | exact isTab.mk t (by omega) rfl
          | exact tvc
          | (show (m - i) * 8 ≤ 140737488355328; omega)
          | (show (0 : Int) ≤ IntKind.i64.wrap ((i : Int) - 1); rw [eK1]; omega)
          | (show IntKind.i64.wrap ((i : Int) - 1) < (i : Int); rw [eK1]; omega)
          | (show @Eq Bool _ _; simp only [rowOf_rowL, intOf_intL, toNat_self, e00, hx, eK, eKn, eK1, eK1n, eln, f1, cond_true, cond_false, Bool.not_true, Bool.not_false, Bool.not_not, Bool.and_true, Bool.true_and, Bool.and_false, Bool.false_and, Bool.or_true, Bool.true_or, Bool.or_false, Bool.false_or, beq_self_eq_true, bne_self_eq_false, Bool.true_eq_false, Bool.false_eq_true, reduceCtorEq, Bool.and_self, decide_true, decide_false]; done)
          | skip
        refine .mk ⟨[9, 13, 17, 19], [], fun st => ∃ j : Nat, j ≤ m - i ∧ st = mkSt ([9, 13, 17, 19].zip [(.slice none m fun i => partL (trP t l ⟨a, b, c, d⟩ i)), I i, (.slice none (m - i) fun j => partL (trP t l ⟨a, b, c, d⟩ (j + i))), I j]) [],
          fun st => (m - i) - (match st.slots 19 with | .int _ k => k.toNat | _ => 0), ?_, ?_⟩
        · refine ⟨_, sle_head (live := [9, 13, 17, 19]) [(.slice none m fun i => partL (trP t l ⟨a, b, c, d⟩ i)), I i, (.slice none (m - i) fun j => partL (trP t l ⟨a, b, c, d⟩ (j + i))), I (0 : Nat)] [] (.cons (.refl _) (.cons (.refl _) (.cons (.slice _ _ _ _ fun j hj => ?_) (.cons (.refl _) .nil)))) .nil, 0, Nat.zero_le _, rfl⟩
          show partL (trP t (fun j => l (j + i)) ⟨(trP t l ⟨a, b, c, d⟩ (IntKind.i64.wrap ((i : Int) - 1)).toNat).wm, (trP t l ⟨a, b, c, d⟩ (IntKind.i64.wrap ((i : Int) - 1)).toNat).wh, (trP t l ⟨a, b, c, d⟩ (IntKind.i64.wrap ((i : Int) - 1)).toNat).ws, (trP t l ⟨a, b, c, d⟩ (IntKind.i64.wrap ((i : Int) - 1)).toNat).wg⟩ j) = _
          rw [eWk, trP_sh]
        · rintro st ⟨j, hj, rfl⟩
          refine ⟨fun p2 => ?_, fun p2 => ?_⟩
          · have hlj : j < m - i := by simpa using p2
            clear p2
            have ekj : IntKind.i64.wrap ((i : Int) + (j : Int)) = ((j + i : Nat) : Int) := by rw [w64 (by omega) (by omega)]; omega
            repeat' first
              | refine ⟨?_, ?_⟩
              | refine fun h => absurd h (by decide)
              | (refine fun h => ?_; exfalso; simp only [rowOf_rowL, intOf_intL, toNat_self, e00, hx, eK, eKn, eK1, eK1n, eln, ekj, cond_true, cond_false, Bool.not_true, Bool.not_false, Bool.not_not, Bool.and_true, Bool.true_and, Bool.and_false, Bool.false_and, Bool.or_true, Bool.true_or, Bool.or_false, Bool.false_or, beq_self_eq_true, bne_self_eq_false, Bool.true_eq_false, Bool.false_eq_true, reduceCtorEq, Bool.and_self, decide_true, decide_false] at h; done)
              | refine fun _ => ?_
              | refine ple_ok ?_
              | exact (rfl : @Eq (List PV) _ _)
              | refine Halt.mk ⟨_, sle_head (live := [9, 13, 17, 19]) [(.slice none m fun i => partL (trP t l ⟨a, b, c, d⟩ i)), I i, (.slice none (m - i) fun j => partL (trP t l ⟨a, b, c, d⟩ (j + i))), I (j + 1 : Nat)] [] (.cons (.refl _) (.cons (.refl _) (.cons (.refl _) (.cons (ple_ok ?_) .nil)))) .nil, ⟨j + 1, ?_, rfl⟩, ?_⟩
            all_goals first
              | trivial
              | rfl
              | omega
              | exact isTab.mk t (by omega) rfl
              | (show IntKind.i64.wrap ((j : Int) + 1) = ((j + 1 : Nat) : Int); rw [w64 (by omega) (by omega)]; omega)
              | (show (m - i) - (j + 1) < (m - i) - j; omega)
              | (show (0 : Int) ≤ IntKind.i64.wrap ((i : Int) + (j : Int)); rw [ekj]; omega)
              | (show IntKind.i64.wrap ((i : Int) + (j : Int)) < (m : Int); rw [ekj]; omega)
              | (show @Eq Bool _ _; simp only [rowOf_rowL, intOf_intL, toNat_self, e00, hx, eK, eKn, eK1, eK1n, eln, ekj, cond_true, cond_false, Bool.not_true, Bool.not_false, Bool.not_not, Bool.and_true, Bool.true_and, Bool.and_false, Bool.false_and, Bool.or_true, Bool.true_or, Bool.or_false, Bool.false_or, beq_self_eq_true, bne_self_eq_false, Bool.true_eq_false, Bool.false_eq_true, reduceCtorEq, Bool.and_self, decide_true, decide_false]; done)
              | skip
          · have : j = m - i := by
              have := of_decide_eq_false p2
              omega
            subst this
            repeat' first
              | refine ⟨?_, ?_⟩
              | refine fun h => absurd h (by decide)
              | (refine fun h => ?_; exfalso; simp only [cond_true, cond_false, Bool.not_true, Bool.not_false, Bool.not_not, Bool.and_true, Bool.true_and, Bool.and_false, Bool.false_and, Bool.or_true, Bool.true_or, Bool.or_false, Bool.false_or, beq_self_eq_true, bne_self_eq_false, Bool.true_eq_false, Bool.false_eq_true, reduceCtorEq, Bool.and_self, decide_true, decide_false] at h; done)
              | refine fun _ => ?_
              | refine ple_ok ?_
              | exact (rfl : @Eq (List PV) _ _)
            all_goals first
              | trivial
              | rfl
              | omega
              | exact isTab.mk t (by omega) rfl
              | (show @Eq Bool _ _; simp only [cond_true, cond_false, Bool.not_true, Bool.not_false, Bool.not_not, Bool.and_true, Bool.true_and, Bool.and_false, Bool.false_and, Bool.or_true, Bool.true_or, Bool.or_false, Bool.false_or, beq_self_eq_true, bne_self_eq_false, Bool.true_eq_false, Bool.false_eq_true, reduceCtorEq, Bool.and_self, decide_true, decide_false]; done)
              | skip
end Go.Proofs.Ytiidjohhcappdaa
