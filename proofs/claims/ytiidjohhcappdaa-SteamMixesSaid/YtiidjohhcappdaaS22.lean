/- Layer 1: ranges, picks and bounds. -/
import Derived.Test.YtiidjohhcappdaaS12
import Derived.Test.YtiidjohhcappdaaS9c
namespace Go.Proofs.Ytiidjohhcappdaa
open Go.V
set_option linter.unusedSimpArgs false

def rangeS : V.Spec
  | [.agg [.int .i64 a, .int .i64 b]] => (none, .agg [I a, I b])
  | _ => bad
theorem sf48 : SF Try.prog 48 rangeS := by
  refine sf_of types_ok mixed (l := []) trivial (es := []) trivial 1 Try.func48 rfl (by kernel_rfl) fun args h => ?_
  unfold rangeS at h
  split at h
  · clear h
    refine ⟨rfl, ?_⟩
    repeat' first
      | refine ⟨?_, ?_⟩
      | refine fun h => absurd h (by decide)
      | refine fun _ => ?_
      | refine ple_ok ?_
    all_goals first
      | trivial
      | rfl
      | (show @Eq Int _ _)
      | (show @Eq Bool _ _)
      | skip
    all_goals try simp only [toNat_pred, toNat_self, rowOf_rowL, toNat_zero, cond_true, cond_false, okS, sel, Bool.not_eq_true', Bool.not_eq_false', decide_eq_true_eq, decide_eq_false_iff_not, bne_iff_ne, bne_eq_false_iff_eq, beq_iff_eq, beq_eq_false_iff_ne, ne_eq, ite_eq_left_iff, Decidable.not_not, Bool.and_eq_true, Bool.or_eq_true, Bool.and_eq_false_iff, Bool.or_eq_false_iff, not_and, Bool.not_true, Bool.not_false] at *
    all_goals try simp (disch := omega) only [w64, if_pos, if_neg] at *
    all_goals try simp only [w64e, toNat_pred, toNat_self, rowOf_rowL, toNat_zero] at *
    all_goals first
      | trivial
      | omega
      | (split <;> omega)
      | (rw [if_pos (by omega)]; omega)
      | (rw [if_neg (by omega)]; omega)
      | (refine decide_eq_decide.2 ?_; omega)
      | (refine decide_eq_true ?_; omega)
      | (refine decide_eq_false ?_; omega)
      | skip
  · exact h.elim
def rrS : V.Spec
  | [.agg [.int .i64 a, .int .i64 b], .int .i64 m] => (none, .bool (decide (0 ≤ a ∧ a ≤ b ∧ b ≤ m)))
  | _ => bad
theorem sf49 : SF Try.prog 49 rrS := by
  refine sf_of types_ok mixed (l := []) trivial (es := []) trivial 2 Try.func49 rfl (by kernel_rfl) fun args h => ?_
  unfold rrS at h
  split at h
  · rename_i a b m
    clear h
    refine ⟨rfl, ⟨fun q1 => ⟨fun q2 => ?_, fun q2 => ?_⟩, fun q1 => ?_⟩⟩
    · have q1 : 0 ≤ a := of_decide_eq_true q1
      have q2 : a ≤ b := of_decide_eq_true q2
      refine ⟨rfl, ple_ok ?_⟩
      exact decide_eq_decide.2 ⟨fun h => ⟨q1, q2, h⟩, fun h => h.2.2⟩
    · have q2 : ¬ a ≤ b := of_decide_eq_false q2
      refine ⟨rfl, ple_ok ?_⟩
      exact decide_eq_false fun h => q2 h.2.1
    · have q1 : ¬ 0 ≤ a := of_decide_eq_false q1
      refine ⟨rfl, ple_ok ?_⟩
      exact decide_eq_false fun h => q1 h.1
  · exact h.elim
inductive pickP (a b w : Int) : Prop
  | mk (h : 0 ≤ a ∧ a ≤ b ∧ b ≤ 1000000000000) (hw : 0 ≤ w ∧ w ≤ 4294967295)
  | no (h : False)
def pickS : V.Spec
  | [.agg [.int .i64 a, .int .i64 b], .int .u32 w] => (some (pickP a b w), I (a + w.tmod (b - a + 1)))
  | _ => bad
theorem pick_in {a b w : Int} (h : a ≤ b) (hw : 0 ≤ w) : a ≤ a + w.tmod (b - a + 1) ∧ a + w.tmod (b - a + 1) ≤ b := by
  have h1 : 0 ≤ w.tmod (b - a + 1) := Int.tmod_nonneg _ hw
  have h2 : w.tmod (b - a + 1) < b - a + 1 := Int.tmod_lt_of_pos _ (by omega)
  omega
theorem sf54 : SF Try.prog 54 pickS := by
  refine sf_of types_ok mixed (l := []) trivial (es := []) trivial 2 Try.func54 rfl (by kernel_rfl) fun args h => ?_
  unfold pickS at h
  split at h
  · rename_i a b w
    have h : pickP a b w := h
    cases h with
    | no h => exact h.elim
    | mk h hw =>
    have hp := pick_in (w := w) h.2.1 hw.1
    have e1 : IntKind.i64.wrap (b - a) = b - a := w64 (by omega) (by omega)
    have e2 : IntKind.i64.wrap (b - a + 1) = b - a + 1 := w64 (by omega) (by omega)
    have e3 : IntKind.i64.wrap w = w := w64 (by omega) (by omega)
    have e4 : IntKind.i64.wrap (a + w.tmod (b - a + 1)) = a + w.tmod (b - a + 1) := w64 (by omega) (by omega)
    refine ⟨rfl, ?_⟩
    repeat' first
      | refine ⟨?_, ?_⟩
      | refine fun h => absurd h (by decide)
      | refine fun _ => ?_
      | refine ple_ok ?_
    all_goals first
      | trivial
      | rfl
      | skip
    · rename_i q
      have q : IntKind.i64.wrap (IntKind.i64.wrap (b - a) + 1) = 0 := q
      rw [e1, e2] at q
      omega
    · show IntKind.i64.wrap (a + (IntKind.i64.wrap w).tmod (IntKind.i64.wrap (IntKind.i64.wrap (b - a) + 1))) = a + w.tmod (b - a + 1)
      rw [e1, e2, e3, e4]
  · exact h.elim

abbrev bdOk (m h0 h1 s0 s1 : Int) : Prop := h0 ≤ h1 ∧ s0 ≤ s1 ∧ okS ⟨m, h0, s0, 0⟩ ∧ okS ⟨m, h1, s1, 0⟩
noncomputable def bdE (n : Nat) (t : Nat → Row) (lv m h0 h1 s0 s1 : Int) : Int := if err1 n t lv = 0 then (if bdOk m h0 h1 s0 s1 then 0 else 1) else err1 n t lv
noncomputable def bdP (n : Nat) (t : Nat → Row) (lv m h0 h1 s0 s1 h s : Int) : Parts := if bdE n t lv m h0 h1 s0 s1 = 0 then partsV (t lv.toNat) ⟨m, h, s, 0⟩ else zeroP
noncomputable def bdR (n : Nat) (t : Nat → Row) (lv m h0 h1 s0 s1 : Int) : PV :=
  .tup [.agg [I (bdP n t lv m h0 h1 s0 s1 h0 s0).sm, I (bdP n t lv m h0 h1 s0 s1 h1 s1).sm], .agg [I (bdP n t lv m h0 h1 s0 s1 h0 s0).scale, I (bdP n t lv m h0 h1 s0 s1 h1 s1).scale], I (bdE n t lv m h0 h1 s0 s1)]
noncomputable def bdS : V.Spec
  | [.slice none n get, .int .i64 lv, .int .i64 m, .agg [.int .i64 h0, .int .i64 h1], .agg [.int .i64 s0, .int .i64 s1]] => (some (isTab n get), bdR n (fun i => rowOf (get i)) lv m h0 h1 s0 s1)
  | _ => bad
set_option maxRecDepth 20000 in
set_option maxHeartbeats 2000000 in
theorem sf47 : SF Try.prog 47 bdS := by
  refine sf_of types_ok mixed (l := [(58, okSS), (67, chkLS), (68, partsS')]) ⟨sf58, sf67, sf68', trivial⟩ (es := []) trivial 5 Try.func47 rfl (by kernel_rfl) fun args h => ?_
  unfold bdS at h
  split at h
  · rename_i n get lv m h0 h1 s0 s1
    obtain ⟨hn, t, rfl⟩ := isTab.get h
    clear h
    have e : (bdS [.slice none n fun i => rowL (t i), .int .i64 lv, .int .i64 m, .agg [.int .i64 h0, .int .i64 h1], .agg [.int .i64 s0, .int .i64 s1]]).2 = bdR n t lv m h0 h1 s0 s1 := rfl
    refine ⟨rfl, ?_⟩
    rw [e]
    clear e
    refine ⟨.mk t (fun _ => lv) hn (by omega) rfl (fun i hi => by obtain rfl : i = 0 := (by omega); rfl), fun q1 => ?_, fun q1 => ?_⟩
    · rw [chk1] at q1
      have q1 : (err1 n t lv != 0) = true := q1
      have q0 : err1 n t lv ≠ 0 := by simpa using q1
      have hE : bdE n t lv m h0 h1 s0 s1 = err1 n t lv := if_neg q0
      have hV : ∀ h s, bdP n t lv m h0 h1 s0 s1 h s = zeroP := fun h s => if_neg (by rw [hE]; exact q0)
      unfold bdR
      rw [hE, hV, hV]
      refine ⟨rfl, ple_ok ?_⟩
      refine ⟨⟨rfl, rfl, trivial⟩, ⟨rfl, rfl, trivial⟩, ?_, trivial⟩
      exact chk1 _ _ _
    · rw [chk1] at q1
      have q1 : (err1 n t lv != 0) = false := q1
      have q0 : err1 n t lv = 0 := by simpa using q1
      have hT : okTb n t = true := by
        cases hT : okTb n t with
        | true => rfl
        | false => simp only [err1, hT, cond_false] at q0; exact absurd q0 (by decide)
      have hlv : 0 ≤ lv ∧ lv ≤ (n : Int) - 1 := by
        simp only [err1, hT, cond_true] at q0
        by_cases hl : 0 ≤ lv ∧ lv ≤ (n : Int) - 1
        · exact hl
        · rw [if_neg hl] at q0; exact absurd q0 (by decide)
      have hok : okT n t := @of_decide_eq_true _ (Classical.propDecidable _) hT
      have hr := (hok.2.2.all lv.toNat (by omega)).1
      have bad : ¬ bdOk m h0 h1 s0 s1 → bdR n t lv m h0 h1 s0 s1 = .tup [.agg [I 0, I 0], .agg [I 0, I 0], I 1] := by
        intro hb
        have hE : bdE n t lv m h0 h1 s0 s1 = 1 := (if_pos q0).trans (if_neg hb)
        have hV : ∀ h s, bdP n t lv m h0 h1 s0 s1 h s = zeroP := fun h s => if_neg (by rw [hE]; decide)
        unfold bdR
        rw [hE, hV, hV]
        rfl
      clear q1
      cases g1 : decide (h1 < h0)
      · have g1' := of_decide_eq_false g1
        cases g2 : decide (s1 < s0)
        · have g2' := of_decide_eq_false g2
          cases v1 : decide (okS ⟨m, h0, s0, 0⟩)
          · have v1' := of_decide_eq_false v1
            rw [bad fun h => v1' h.2.2.1]
            repeat' first
              | refine ⟨?_, ?_⟩
              | refine fun h => absurd h (by decide)
              | (refine fun h => ?_; exfalso; simp only [g1, g2, v1, cond_true, cond_false, Bool.not_true, Bool.not_false, Bool.not_not, Bool.and_true, Bool.true_and, Bool.and_false, Bool.false_and, Bool.or_true, Bool.true_or, Bool.or_false, Bool.false_or, beq_self_eq_true, bne_self_eq_false, Bool.true_eq_false, Bool.false_eq_true, reduceCtorEq, Bool.and_self, decide_true, decide_false] at h; done)
              | refine fun _ => ?_
              | refine ple_ok ?_
            all_goals first
              | trivial
              | rfl
              | omega
              | skip
          · have v1' := of_decide_eq_true v1
            cases v2 : decide (okS ⟨m, h1, s1, 0⟩)
            · have v2' := of_decide_eq_false v2
              rw [bad fun h => v2' h.2.2.2]
              repeat' first
                | refine ⟨?_, ?_⟩
                | refine fun h => absurd h (by decide)
                | (refine fun h => ?_; exfalso; simp only [g1, g2, v1, v2, cond_true, cond_false, Bool.not_true, Bool.not_false, Bool.not_not, Bool.and_true, Bool.true_and, Bool.and_false, Bool.false_and, Bool.or_true, Bool.true_or, Bool.or_false, Bool.false_or, beq_self_eq_true, bne_self_eq_false, Bool.true_eq_false, Bool.false_eq_true, reduceCtorEq, Bool.and_self, decide_true, decide_false] at h; done)
                | refine fun _ => ?_
                | refine ple_ok ?_
              all_goals first
                | trivial
                | rfl
                | omega
                | skip
            · have v2' := of_decide_eq_true v2
              have hE : bdE n t lv m h0 h1 s0 s1 = 0 := (if_pos q0).trans (if_pos ⟨by omega, by omega, v1', v2'⟩)
              have hV : ∀ h s, bdP n t lv m h0 h1 s0 s1 h s = partsV (t lv.toNat) ⟨m, h, s, 0⟩ := fun h s => if_pos hE
              unfold bdR
              rw [hE, hV, hV]
              clear hV hE bad q0 hT hok
              repeat' first
                | refine ⟨?_, ?_⟩
                | refine fun h => absurd h (by decide)
                | (refine fun h => ?_; exfalso; simp only [g1, g2, v1, v2, cond_true, cond_false, Bool.not_true, Bool.not_false, Bool.not_not, Bool.and_true, Bool.true_and, Bool.and_false, Bool.false_and, Bool.or_true, Bool.true_or, Bool.or_false, Bool.false_or, beq_self_eq_true, bne_self_eq_false, Bool.true_eq_false, Bool.false_eq_true, reduceCtorEq, Bool.and_self, decide_true, decide_false] at h; done)
                | refine fun _ => ?_
                | refine ple_ok ?_
              all_goals first
                | trivial
                | rfl
                | omega
                | exact .mk hr v1'
                | exact .mk hr v2'
                | skip
        · have g2' := of_decide_eq_true g2
          rw [bad fun h => absurd h.2.1 (by omega)]
          repeat' first
            | refine ⟨?_, ?_⟩
            | refine fun h => absurd h (by decide)
            | (refine fun h => ?_; exfalso; simp only [g1, g2, cond_true, cond_false, Bool.not_true, Bool.not_false, Bool.not_not, Bool.and_true, Bool.true_and, Bool.and_false, Bool.false_and, Bool.or_true, Bool.true_or, Bool.or_false, Bool.false_or, beq_self_eq_true, bne_self_eq_false, Bool.true_eq_false, Bool.false_eq_true, reduceCtorEq, Bool.and_self, decide_true, decide_false] at h; done)
            | refine fun _ => ?_
            | refine ple_ok ?_
          all_goals first
            | trivial
            | rfl
            | omega
            | skip
      · have g1' := of_decide_eq_true g1
        rw [bad fun h => absurd h.1 (by omega)]
        repeat' first
          | refine ⟨?_, ?_⟩
          | refine fun h => absurd h (by decide)
          | (refine fun h => ?_; exfalso; simp only [g1, cond_true, cond_false, Bool.not_true, Bool.not_false, Bool.not_not, Bool.and_true, Bool.true_and, Bool.and_false, Bool.false_and, Bool.or_true, Bool.true_or, Bool.or_false, Bool.false_or, beq_self_eq_true, bne_self_eq_false, Bool.true_eq_false, Bool.false_eq_true, reduceCtorEq, Bool.and_self, decide_true, decide_false] at h; done)
          | refine fun _ => ?_
          | refine ple_ok ?_
        all_goals first
          | trivial
          | rfl
          | omega
          | skip
  · exact h.elim
end Go.Proofs.Ytiidjohhcappdaa
