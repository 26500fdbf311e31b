/- Layer 1: the law on what is safe. -/
import Derived.Test.YtiidjohhcappdaaS24
import Derived.Test.YtiidjohhcappdaaX2
namespace Go.Proofs.Ytiidjohhcappdaa
open Go.V
set_option linter.unusedSimpArgs false

def strs (m : Nat) (l : Nat → Stream) : PV := .slice none m fun i => strL (l i)
def awakeS : V.Spec := V.atS [] (.bool true)
theorem sf17' : SF Try.prog 17 awakeS := sf17
def noS : V.Spec := fun _ => (some False, .junk)
theorem sf_no {f : Nat} (h : HasBody Try.prog f) : SF Try.prog f noS := ⟨fun _ _ _ _ _ _ _ h => h.elim, h⟩

theorem allB_nex {n : Nat} {p : Nat → Prop} (h : allB n p = false) : ∃ i, i < n ∧ ¬ p i := by
  apply Classical.byContradiction
  intro hc
  have : Upto p n := ⟨fun i hi => Classical.byContradiction fun hp => hc ⟨i, hi, hp⟩⟩
  rw [allB_t this] at h
  cases h
theorem dp_safe {t : Nat → Row} {m : Nat} {l : Nat → Stream} : ∀ n k, dp t m l n ≤ k → k < n → ∀ i, i < m → (partsV (t k) (l i)).scale = 0
  | 0, k, _, hk => by omega
  | n + 1, k, hd, hk => by
    cases hA : allB m fun i => (partsV (t n) (l i)).scale = 0 with
    | true =>
      rw [dp_succ_t (allB_get hA)] at hd
      by_cases hkn : k = n
      · subst hkn; exact (allB_get hA).all
      · exact dp_safe n k hd (by omega)
    | false =>
      obtain ⟨i, hi, hs⟩ := allB_nex hA
      rw [dp_succ_f hi hs] at hd
      omega
theorem dp_bad {t : Nat → Row} {m : Nat} {l : Nat → Stream} : ∀ n, 0 < dp t m l n → ∃ i, i < m ∧ 0 < (partsV (t (dp t m l n - 1)) (l i)).scale
  | 0, h => by simp [dp] at h
  | n + 1, h => by
    cases hA : allB m fun i => (partsV (t n) (l i)).scale = 0 with
    | true =>
      rw [dp_succ_t (allB_get hA)] at h ⊢
      exact dp_bad n h
    | false =>
      obtain ⟨i, hi, hs⟩ := allB_nex hA
      rw [dp_succ_f hi hs]
      refine ⟨i, hi, ?_⟩
      have := scale_nn (t n) (l i)
      have hs : ¬ (partsV (t n) (l i)).scale = 0 := hs
      show 0 < (partsV (t n) (l i)).scale
      omega
def smB (D : Nat) (t : Nat → Row) (l : Nat → Stream) : Nat → Bool
  | 0 => decide (D = 0)
  | i + 1 => smB D t l i || decide (0 < (partsV (t (D - 1)) (l i)).scale)
def smK (D : Nat) (t : Nat → Row) (l : Nat → Stream) (i k : Nat) : Bool := if k < D then smB D t l i else smB D t l (i + 1)
theorem smB_up {D : Nat} {t : Nat → Row} {l : Nat → Stream} {i : Nat} (h : smB D t l i = true) : ∀ j, i ≤ j → smB D t l j = true
  | 0, hj => by have : i = 0 := by omega
                subst this; exact h
  | j + 1, hj => by
    by_cases he : i = j + 1
    · subst he; exact h
    · show (smB D t l j || _) = true
      rw [smB_up h j (by omega), Bool.true_or]
theorem smB_end {D n m : Nat} {t : Nat → Row} {l : Nat → Stream} (hD : dp t m l n = D) : smB D t l m = true := by
  by_cases h0 : D = 0
  · exact smB_up (i := 0) (decide_eq_true h0) m (by omega)
  · obtain ⟨i, hi, hs⟩ := dp_bad n (by rw [hD]; omega : 0 < dp t m l n)
    rw [hD] at hs
    refine smB_up (i := i + 1) ?_ m hi
    show (smB D t l i || decide _) = true
    rw [decide_eq_true hs, Bool.or_true]
theorem smK_start {D : Nat} {t : Nat → Row} {l : Nat → Stream} {i : Nat} : smB D t l i = smK D t l i (D - 1) := by
  unfold smK
  by_cases h0 : D = 0
  · rw [if_neg (by omega), smB_up (i := 0) (decide_eq_true h0) i (by omega), smB_up (i := 0) (decide_eq_true h0) (i + 1) (by omega)]
  · rw [if_pos (by omega)]
theorem smK_end {D n : Nat} {t : Nat → Row} {l : Nat → Stream} {i : Nat} (h : D ≤ n) : smK D t l i n = smB D t l (i + 1) := if_neg (by omega)
theorem smK_t {D : Nat} {t : Nat → Row} {l : Nat → Stream} {i k : Nat} (h : smK D t l i k = true) : smK D t l i (k + 1) = true := by
  unfold smK at h ⊢
  by_cases h1 : k < D
  · rw [if_pos h1] at h
    split
    · exact h
    · exact smB_up h (i + 1) (by omega)
  · rw [if_neg h1] at h
    rw [if_neg (by omega)]
    exact h
theorem smK_f {D : Nat} {t : Nat → Row} {l : Nat → Stream} {i k : Nat} (h : smK D t l i k = false) (h1 : ¬ k < D) : smK D t l i (k + 1) = false := by
  unfold smK at h ⊢
  rw [if_neg h1] at h
  rw [if_neg (by omega)]
  exact h
theorem smK_d {D : Nat} {t : Nat → Row} {l : Nat → Stream} {i k : Nat} (h : smK D t l i k = false) (h1 : k < D) (h2 : D - 1 ≤ k) : smK D t l i (k + 1) = decide (0 < (partsV (t k) (l i)).scale) := by
  unfold smK at h ⊢
  rw [if_pos h1] at h
  rw [if_neg (by omega)]
  show (smB D t l i || decide (0 < (partsV (t (D - 1)) (l i)).scale)) = _
  rw [h, Bool.false_or, show D - 1 = k by omega]

set_option maxRecDepth 100000 in
set_option maxHeartbeats 8000000 in
theorem safeA (n : Nat) (t : Nat → Row) (m : Nat) (l : Nat → Stream) (hn : n ≤ 9223372036854775807) (hT : okTb n t = false) : SF Try.prog 14 (V.atS [tab n t, strs m l] (.bool true)) := by
  have h24 : SF Try.prog 24 (V.atS [tab n t] (.bool false)) := sf_at sf24L (isTabL.mk t (by omega) rfl) (by show PV.bool (okTb n t) = _; rw [hT])
  refine sf_of types_ok mixed (l := [(17, awakeS), (19, noS), (23, strS), (24, _), (30, noS), (32, noS), (39, noS), (45, noS)]) ⟨sf17', sf_no sf19.2, sf23, h24, sf_no sf30.2, sf_no sf32.2, sf_no sf39.2, sf_no sf45.2, trivial⟩ (es := []) trivial 2 Try.func14 rfl (by kernel_rfl) fun args h => ?_
  cases (show args = _ from h)
  refine ⟨rfl, ?_⟩
  repeat' first
    | refine ⟨?_, ?_⟩
    | refine fun h => absurd h (by decide)
    | (refine fun h => ?_; exfalso; simp only [cond_true, cond_false, Bool.not_true, Bool.not_false, Bool.not_not, Bool.and_true, Bool.true_and, Bool.and_false, Bool.false_and, Bool.or_true, Bool.true_or, Bool.or_false, Bool.false_or, beq_self_eq_true, bne_self_eq_false, Bool.true_eq_false, Bool.false_eq_true, reduceCtorEq, Bool.and_self, decide_true, decide_false] at h; done)
    | refine fun _ => ?_
    | refine ple_ok ?_
    | exact (rfl : @Eq (List PV) _ _)
  all_goals first
    | trivial
    | rfl
    | omega
    | exact isTab.mk t (by omega) rfl
    | exact isStrs.mk l (by omega) rfl
    | (show @Eq Bool _ _; simp only [cond_true, cond_false, Bool.not_true, Bool.not_false, Bool.not_not, Bool.and_true, Bool.true_and, Bool.and_false, Bool.false_and, Bool.or_true, Bool.true_or, Bool.or_false, Bool.false_or, beq_self_eq_true, bne_self_eq_false, Bool.true_eq_false, Bool.false_eq_true, reduceCtorEq, Bool.and_self, decide_true, decide_false]; done)
    | skip
set_option maxRecDepth 100000 in
set_option maxHeartbeats 8000000 in
theorem safeB (n : Nat) (t : Nat → Row) (m : Nat) (l : Nat → Stream) (hn : n ≤ 9223372036854775807) (hT : okTb n t = true) (hm : m = 0) : SF Try.prog 14 (V.atS [tab n t, strs m l] (.bool true)) := by
  have h24 : SF Try.prog 24 (V.atS [tab n t] (.bool true)) := sf_at sf24L (isTabL.mk t (by omega) rfl) (by show PV.bool (okTb n t) = _; rw [hT])
  have g1 : decide ((m : Int) < 1) = true := decide_eq_true (by omega)
  refine sf_of types_ok mixed (l := [(17, awakeS), (19, noS), (23, strS), (24, _), (30, noS), (32, noS), (39, noS), (45, noS)]) ⟨sf17', sf_no sf19.2, sf23, h24, sf_no sf30.2, sf_no sf32.2, sf_no sf39.2, sf_no sf45.2, trivial⟩ (es := []) trivial 2 Try.func14 rfl (by kernel_rfl) fun args h => ?_
  cases (show args = _ from h)
  refine ⟨rfl, ?_⟩
  repeat' first
    | refine ⟨?_, ?_⟩
    | refine fun h => absurd h (by decide)
    | (refine fun h => ?_; exfalso; simp only [g1, cond_true, cond_false, Bool.not_true, Bool.not_false, Bool.not_not, Bool.and_true, Bool.true_and, Bool.and_false, Bool.false_and, Bool.or_true, Bool.true_or, Bool.or_false, Bool.false_or, beq_self_eq_true, bne_self_eq_false, Bool.true_eq_false, Bool.false_eq_true, reduceCtorEq, Bool.and_self, decide_true, decide_false] at h; done)
    | refine fun _ => ?_
    | refine ple_ok ?_
    | exact (rfl : @Eq (List PV) _ _)
  all_goals first
    | trivial
    | rfl
    | omega
    | exact isTab.mk t (by omega) rfl
    | exact isStrs.mk l (by omega) rfl
    | (show @Eq Bool _ _; simp only [g1, cond_true, cond_false, Bool.not_true, Bool.not_false, Bool.not_not, Bool.and_true, Bool.true_and, Bool.and_false, Bool.false_and, Bool.or_true, Bool.true_or, Bool.or_false, Bool.false_or, beq_self_eq_true, bne_self_eq_false, Bool.true_eq_false, Bool.false_eq_true, reduceCtorEq, Bool.and_self, decide_true, decide_false]; done)
    | skip
set_option maxRecDepth 100000 in
set_option maxHeartbeats 8000000 in
theorem safeC (n : Nat) (t : Nat → Row) (m : Nat) (l : Nat → Stream) (hn : n ≤ 9223372036854775807) (hT : okTb n t = true) (hm : 40 < m) : SF Try.prog 14 (V.atS [tab n t, strs m l] (.bool true)) := by
  have h24 : SF Try.prog 24 (V.atS [tab n t] (.bool true)) := sf_at sf24L (isTabL.mk t (by omega) rfl) (by show PV.bool (okTb n t) = _; rw [hT])
  have g1 : decide ((m : Int) < 1) = false := decide_eq_false (by omega)
  have g2 : decide ((40 : Int) < (m : Int)) = true := decide_eq_true (by omega)
  refine sf_of types_ok mixed (l := [(17, awakeS), (19, noS), (23, strS), (24, _), (30, noS), (32, noS), (39, noS), (45, noS)]) ⟨sf17', sf_no sf19.2, sf23, h24, sf_no sf30.2, sf_no sf32.2, sf_no sf39.2, sf_no sf45.2, trivial⟩ (es := []) trivial 2 Try.func14 rfl (by kernel_rfl) fun args h => ?_
  cases (show args = _ from h)
  refine ⟨rfl, ?_⟩
  repeat' first
    | refine ⟨?_, ?_⟩
    | refine fun h => absurd h (by decide)
    | (refine fun h => ?_; exfalso; simp only [g1, g2, cond_true, cond_false, Bool.not_true, Bool.not_false, Bool.not_not, Bool.and_true, Bool.true_and, Bool.and_false, Bool.false_and, Bool.or_true, Bool.true_or, Bool.or_false, Bool.false_or, beq_self_eq_true, bne_self_eq_false, Bool.true_eq_false, Bool.false_eq_true, reduceCtorEq, Bool.and_self, decide_true, decide_false] at h; done)
    | refine fun _ => ?_
    | refine ple_ok ?_
    | exact (rfl : @Eq (List PV) _ _)
  all_goals first
    | trivial
    | rfl
    | omega
    | exact isTab.mk t (by omega) rfl
    | exact isStrs.mk l (by omega) rfl
    | (show @Eq Bool _ _; simp only [g1, g2, cond_true, cond_false, Bool.not_true, Bool.not_false, Bool.not_not, Bool.and_true, Bool.true_and, Bool.and_false, Bool.false_and, Bool.or_true, Bool.true_or, Bool.or_false, Bool.false_or, beq_self_eq_true, bne_self_eq_false, Bool.true_eq_false, Bool.false_eq_true, reduceCtorEq, Bool.and_self, decide_true, decide_false]; done)
    | skip
set_option maxRecDepth 100000 in
set_option maxHeartbeats 8000000 in
theorem safeD (n : Nat) (t : Nat → Row) (m : Nat) (l : Nat → Stream) (hn : n ≤ 9223372036854775807) (hT : okTb n t = true) (hm0 : 0 < m) (hm : m ≤ 40) (hA : (allB m fun i => okS (l i)) = false) : SF Try.prog 14 (V.atS [tab n t, strs m l] (.bool true)) := by
  have h24 : SF Try.prog 24 (V.atS [tab n t] (.bool true)) := sf_at sf24L (isTabL.mk t (by omega) rfl) (by show PV.bool (okTb n t) = _; rw [hT])
  have g1 : decide ((m : Int) < 1) = false := decide_eq_false (by omega)
  have g2 : decide ((40 : Int) < (m : Int)) = false := decide_eq_false (by omega)
  have h32 : SF Try.prog 32 (V.atS [strs m l] (.bool false)) := sf_at sf32 (isStrs.mk l (by omega) rfl) (by show PV.bool (allB m fun i => okS (l i)) = _; rw [hA])
  refine sf_of types_ok mixed (l := [(17, awakeS), (19, noS), (23, strS), (24, _), (30, noS), (32, _), (39, noS), (45, noS)]) ⟨sf17', sf_no sf19.2, sf23, h24, sf_no sf30.2, h32, sf_no sf39.2, sf_no sf45.2, trivial⟩ (es := []) trivial 2 Try.func14 rfl (by kernel_rfl) fun args h => ?_
  cases (show args = _ from h)
  refine ⟨rfl, ?_⟩
  repeat' first
    | refine ⟨?_, ?_⟩
    | refine fun h => absurd h (by decide)
    | (refine fun h => ?_; exfalso; simp only [g1, g2, cond_true, cond_false, Bool.not_true, Bool.not_false, Bool.not_not, Bool.and_true, Bool.true_and, Bool.and_false, Bool.false_and, Bool.or_true, Bool.true_or, Bool.or_false, Bool.false_or, beq_self_eq_true, bne_self_eq_false, Bool.true_eq_false, Bool.false_eq_true, reduceCtorEq, Bool.and_self, decide_true, decide_false] at h; done)
    | refine fun _ => ?_
    | refine ple_ok ?_
    | exact (rfl : @Eq (List PV) _ _)
  all_goals first
    | trivial
    | rfl
    | omega
    | exact isTab.mk t (by omega) rfl
    | exact isStrs.mk l (by omega) rfl
    | (show @Eq Bool _ _; simp only [g1, g2, cond_true, cond_false, Bool.not_true, Bool.not_false, Bool.not_not, Bool.and_true, Bool.true_and, Bool.and_false, Bool.false_and, Bool.or_true, Bool.true_or, Bool.or_false, Bool.false_or, beq_self_eq_true, bne_self_eq_false, Bool.true_eq_false, Bool.false_eq_true, reduceCtorEq, Bool.and_self, decide_true, decide_false]; done)
    | skip
set_option maxRecDepth 100000 in
set_option maxHeartbeats 8000000 in
theorem safeE (n : Nat) (t : Nat → Row) (m : Nat) (l : Nat → Stream) (hn : n ≤ 9223372036854775807) (hT : okTb n t = true) (hm0 : 0 < m) (hm : m ≤ 40) (hA : (allB m fun i => okS (l i)) = true) (hD : dp t m l n = n) : SF Try.prog 14 (V.atS [tab n t, strs m l] (.bool true)) := by
  have h24 : SF Try.prog 24 (V.atS [tab n t] (.bool true)) := sf_at sf24L (isTabL.mk t (by omega) rfl) (by show PV.bool (okTb n t) = _; rw [hT])
  have g1 : decide ((m : Int) < 1) = false := decide_eq_false (by omega)
  have g2 : decide ((40 : Int) < (m : Int)) = false := decide_eq_false (by omega)
  have hok : okT n t := @of_decide_eq_true _ (Classical.propDecidable _) hT
  have hn2 := hok.1
  have hn20 := hok.2.1
  have hx := (allB_get hA).all
  have hc : chkStr m l = 0 := by
    unfold chkStr
    rw [if_neg (by omega), hA]; rfl
  have h32 : SF Try.prog 32 (V.atS [strs m l] (.bool true)) := sf_at sf32 (isStrs.mk l (by omega) rfl) (by show PV.bool (allB m fun i => okS (l i)) = _; rw [hA])
  have h45 : SF Try.prog 45 (V.atS [tab n t, strs m l] (.tup [I 0, I 7])) := by
    refine sf_at sf45 (isTSw.mk t l (by omega) (by omega) (fun _ _ => rfl) (fun _ _ => rfl)) ?_
    show PV.tup [I (deepV n t m l), I (deepE n t m l)] = _
    have hE : deepE n t m l = 7 := by unfold deepE; rw [hT, cond_true, if_pos hc, if_neg (by omega), if_pos hD]
    have hV : deepV n t m l = 0 := if_neg (by rw [hE]; decide)
    rw [hV, hE]
  have q1 : decide ((n : Int) < 0) = false := decide_eq_false (by omega)
  have q2 : decide ((n : Int) < (n : Int)) = false := decide_eq_false (by omega)
  have hsafe := dp_safe (t := t) (m := m) (l := l) n
  have hend := smB_end hD
  rw [hD] at hsafe
  refine sf_of types_ok mixed (l := [(17, awakeS), (19, tabS), (23, strS), (24, _), (30, strsS), (32, _), (39, flashS), (45, _)]) ⟨sf17', sf19, sf23, h24, sf30, h32, sf39, h45, trivial⟩ (es := []) trivial 2 Try.func14 rfl (by kernel_rfl) fun args h => ?_
  cases (show args = _ from h)
  refine ⟨rfl, ?_⟩
  repeat' first
    | refine ⟨?_, ?_⟩
    | refine fun h => absurd h (by decide)
    | (refine fun h => ?_; exfalso; simp only [g1, g2, q1, q2, cond_true, cond_false, Bool.not_true, Bool.not_false, Bool.not_not, Bool.and_true, Bool.true_and, Bool.and_false, Bool.false_and, Bool.or_true, Bool.true_or, Bool.or_false, Bool.false_or, beq_self_eq_true, bne_self_eq_false, Bool.true_eq_false, Bool.false_eq_true, reduceCtorEq, Bool.and_self, decide_true, decide_false] at h; done)
    | refine fun _ => ?_
    | refine ple_ok ?_
    | exact (rfl : @Eq (List PV) _ _)
  all_goals first
    | trivial
    | rfl
    | omega
    | exact isTab.mk t (by omega) rfl
    | exact isStrs.mk l (by omega) rfl
    | (show @Eq Bool _ _; simp only [g1, g2, q1, q2, cond_true, cond_false, Bool.not_true, Bool.not_false, Bool.not_not, Bool.and_true, Bool.true_and, Bool.and_false, Bool.false_and, Bool.or_true, Bool.true_or, Bool.or_false, Bool.false_or, beq_self_eq_true, bne_self_eq_false, Bool.true_eq_false, Bool.false_eq_true, reduceCtorEq, Bool.and_self, decide_true, decide_false]; done)
    | skip
  refine .mk ⟨[0, 1, 5, 7, 8], [], fun st => ∃ i : Nat, i ≤ m ∧ st = mkSt [(0, tab n t), (1, strs m l), (5, I n), (7, .bool (smB n t l i)), (8, I i)] [],
    fun st => m - (match st.slots 8 with | .int _ k => k.toNat | _ => 0), ?_, ?_⟩
  · refine ⟨_, sle_head [tab n t, strs m l, I n, .bool (smB n t l 0), I (0 : Nat)] [] (.cons (.refl _) (.cons (.refl _) (.cons (.refl _) (.cons (ple_ok ?_) (.cons (.refl _) .nil))))) .nil, 0, Nat.zero_le _, rfl⟩
    show ((n : Int) == 0) = decide (n = 0)
    by_cases h0 : n = 0
    · rw [decide_eq_true h0, beq_iff_eq]; omega
    · rw [decide_eq_false h0, beq_eq_false_iff_ne]; omega
  · rintro st ⟨i, hi, rfl⟩
    refine ⟨fun p1 => ?_, fun p1 => ?_⟩
    · have hlt : i < m := by simpa using p1
      clear p1
      refine .mk ⟨[0, 1, 5, 7, 8, 9], [], fun st => ∃ (k : Nat) (B : Bool), n - 1 ≤ k ∧ k ≤ n ∧ smK n t l i k = B ∧ st = mkSt [(0, tab n t), (1, strs m l), (5, I n), (7, .bool B), (8, I i), (9, I k)] [],
        fun st => n - (match st.slots 9 with | .int _ k => k.toNat | _ => 0), ?_, ?_⟩
      · refine ⟨_, sle_head [tab n t, strs m l, I n, .bool (smB n t l i), I i, I (n - 1 : Nat)] [] (.cons (.refl _) (.cons (.refl _) (.cons (.refl _) (.cons (.refl _) (.cons (.refl _) (.cons (ple_ok ?_) .nil)))))) .nil, n - 1, _, Nat.le_refl _, by omega, smK_start.symm, rfl⟩
        show (if IntKind.i64.wrap ((n : Int) - 1) > 0 then IntKind.i64.wrap ((n : Int) - 1) else 0) = ((n - 1 : Nat) : Int)
        rw [w64 (by omega) (by omega)]
        split <;> omega
      · rintro st ⟨k, B, hk0, hk, hB, rfl⟩
        refine ⟨fun p2 => ?_, fun p2 => ?_⟩
        · have hkn : k < n := by simpa using p2
          clear p2
          have he1 : err1 n t (k : Int) = 0 := by unfold err1; rw [hT, if_pos (by omega)]; rfl
          have hE : flE n t (k : Int) ⟨(l i).m, (l i).h, (l i).s, (l i).g⟩ = 0 := by
            show flE n t (k : Int) (l i) = 0
            unfold flE
            rw [if_pos he1, if_pos (hx i hlt)]
          have hV : flV n t (k : Int) ⟨(l i).m, (l i).h, (l i).s, (l i).g⟩ = partsV (t k) (l i) := if_pos hE
          have hex : okRX (t k) (l i) := .mk (hok.2.2.all k hkn).1 (hx i hlt)
          have ek : IntKind.i64.wrap ((k : Int) + 1) = ((k + 1 : Nat) : Int) := by rw [w64 (by omega) (by omega)]; omega
          have hz : (IntKind.i64.wrap ((k : Int) + 1)) = ((k + 1 : Nat) : Int) := ek
          by_cases hkD : k < n
          · have r1 : decide ((n : Int) ≤ (k : Int)) = false := decide_eq_false (by omega)
            have r2 : decide ((k : Int) < (n : Int)) = true := decide_eq_true (by omega)
            cases B
            · have hnew := smK_d hB hkD hk0
              repeat' first
                | refine ⟨?_, ?_⟩
                | refine fun h => absurd h (by decide)
                | (refine fun h => ?_; exfalso; simp only [rowOf_rowL, toNat_self, hE, hV, r1, r2, cond_true, cond_false, Bool.not_true, Bool.not_false, Bool.not_not, Bool.and_true, Bool.true_and, Bool.and_false, Bool.false_and, Bool.or_true, Bool.true_or, Bool.or_false, Bool.false_or, beq_self_eq_true, bne_self_eq_false, Bool.true_eq_false, Bool.false_eq_true, reduceCtorEq, Bool.and_self, decide_true, decide_false] at h; done)
                | refine fun _ => ?_
                | refine ple_ok ?_
                | exact (rfl : @Eq (List PV) _ _)
                | refine Halt.mk ⟨_, sle_head [tab n t, strs m l, I n, .bool (smK n t l i (k + 1)), I i, I (k + 1 : Nat)] [] (.cons (.refl _) (.cons (.refl _) (.cons (.refl _) (.cons (ple_ok ?_) (.cons (.refl _) (.cons (ple_ok ?_) .nil)))))) .nil, ⟨k + 1, _, ?_, ?_, rfl, rfl⟩, ?_⟩
              all_goals first
                | trivial
                | rfl
                | omega
                | exact isTab.mk t (by omega) rfl
                | exact isStrs.mk l (by omega) rfl
                | exact ek
                | (show n - (k + 1) < n - k; omega)
                | (show @Eq Bool _ _; rw [hnew]; done)
                | (show @Eq Bool _ _; rw [hnew]; simp only [rowOf_rowL, toNat_self, hV]; done)
                | (show @Eq Bool _ _; rw [hnew]; simp only [rowOf_rowL, toNat_self, hV, cond_true, cond_false]; rfl)
                | (show @Eq Bool _ _; simp only [rowOf_rowL, toNat_self, hE, hV, r1, r2, cond_true, cond_false, Bool.not_true, Bool.not_false, Bool.not_not, Bool.and_true, Bool.true_and, Bool.and_false, Bool.false_and, Bool.or_true, Bool.true_or, Bool.or_false, Bool.false_or, beq_self_eq_true, bne_self_eq_false, Bool.true_eq_false, Bool.false_eq_true, reduceCtorEq, Bool.and_self, decide_true, decide_false]; done)
                | skip
            · have hnew := smK_t hB
              repeat' first
                | refine ⟨?_, ?_⟩
                | refine fun h => absurd h (by decide)
                | (refine fun h => ?_; exfalso; simp only [rowOf_rowL, toNat_self, hE, hV, r1, r2, cond_true, cond_false, Bool.not_true, Bool.not_false, Bool.not_not, Bool.and_true, Bool.true_and, Bool.and_false, Bool.false_and, Bool.or_true, Bool.true_or, Bool.or_false, Bool.false_or, beq_self_eq_true, bne_self_eq_false, Bool.true_eq_false, Bool.false_eq_true, reduceCtorEq, Bool.and_self, decide_true, decide_false] at h; done)
                | refine fun _ => ?_
                | refine ple_ok ?_
                | exact (rfl : @Eq (List PV) _ _)
                | refine Halt.mk ⟨_, sle_head [tab n t, strs m l, I n, .bool (smK n t l i (k + 1)), I i, I (k + 1 : Nat)] [] (.cons (.refl _) (.cons (.refl _) (.cons (.refl _) (.cons (ple_ok ?_) (.cons (.refl _) (.cons (ple_ok ?_) .nil)))))) .nil, ⟨k + 1, _, ?_, ?_, rfl, rfl⟩, ?_⟩
              all_goals first
                | trivial
                | rfl
                | omega
                | exact isTab.mk t (by omega) rfl
                | exact isStrs.mk l (by omega) rfl
                | exact ek
                | (show n - (k + 1) < n - k; omega)
                | (show @Eq Bool _ _; rw [hnew]; done)
                | (show @Eq Bool _ _; rw [hnew]; simp only [rowOf_rowL, toNat_self, hV]; done)
                | (show @Eq Bool _ _; rw [hnew]; simp only [rowOf_rowL, toNat_self, hV, cond_true, cond_false]; rfl)
                | (show @Eq Bool _ _; simp only [rowOf_rowL, toNat_self, hE, hV, r1, r2, cond_true, cond_false, Bool.not_true, Bool.not_false, Bool.not_not, Bool.and_true, Bool.true_and, Bool.and_false, Bool.false_and, Bool.or_true, Bool.true_or, Bool.or_false, Bool.false_or, beq_self_eq_true, bne_self_eq_false, Bool.true_eq_false, Bool.false_eq_true, reduceCtorEq, Bool.and_self, decide_true, decide_false]; done)
                | skip
          · have r1 : decide ((n : Int) ≤ (k : Int)) = true := decide_eq_true (by omega)
            have r2 : decide ((k : Int) < (n : Int)) = false := decide_eq_false (by omega)
            have hsc : (partsV (t k) (l i)).scale = 0 := hsafe k (by omega) hkn i hlt
            cases B
            · have hnew := smK_f hB hkD
              repeat' first
                | refine ⟨?_, ?_⟩
                | refine fun h => absurd h (by decide)
                | (refine fun h => ?_; exfalso; simp only [rowOf_rowL, toNat_self, hE, hV, hsc, r1, r2, cond_true, cond_false, Bool.not_true, Bool.not_false, Bool.not_not, Bool.and_true, Bool.true_and, Bool.and_false, Bool.false_and, Bool.or_true, Bool.true_or, Bool.or_false, Bool.false_or, beq_self_eq_true, bne_self_eq_false, Bool.true_eq_false, Bool.false_eq_true, reduceCtorEq, Bool.and_self, decide_true, decide_false] at h; done)
                | refine fun _ => ?_
                | refine ple_ok ?_
                | exact (rfl : @Eq (List PV) _ _)
                | refine Halt.mk ⟨_, sle_head [tab n t, strs m l, I n, .bool (smK n t l i (k + 1)), I i, I (k + 1 : Nat)] [] (.cons (.refl _) (.cons (.refl _) (.cons (.refl _) (.cons (ple_ok ?_) (.cons (.refl _) (.cons (ple_ok ?_) .nil)))))) .nil, ⟨k + 1, _, ?_, ?_, rfl, rfl⟩, ?_⟩
              all_goals first
                | trivial
                | rfl
                | omega
                | exact isTab.mk t (by omega) rfl
                | exact isStrs.mk l (by omega) rfl
                | exact ek
                | (show n - (k + 1) < n - k; omega)
                | (show @Eq Bool _ _; rw [hnew]; done)
                | (show @Eq Bool _ _; rw [hnew]; simp only [rowOf_rowL, toNat_self, hV, hsc]; done)
                | (show @Eq Bool _ _; simp only [rowOf_rowL, toNat_self, hE, hV, hsc, r1, r2, cond_true, cond_false, Bool.not_true, Bool.not_false, Bool.not_not, Bool.and_true, Bool.true_and, Bool.and_false, Bool.false_and, Bool.or_true, Bool.true_or, Bool.or_false, Bool.false_or, beq_self_eq_true, bne_self_eq_false, Bool.true_eq_false, Bool.false_eq_true, reduceCtorEq, Bool.and_self, decide_true, decide_false]; done)
                | skip
            · have hnew := smK_t hB
              repeat' first
                | refine ⟨?_, ?_⟩
                | refine fun h => absurd h (by decide)
                | (refine fun h => ?_; exfalso; simp only [rowOf_rowL, toNat_self, hE, hV, hsc, r1, r2, cond_true, cond_false, Bool.not_true, Bool.not_false, Bool.not_not, Bool.and_true, Bool.true_and, Bool.and_false, Bool.false_and, Bool.or_true, Bool.true_or, Bool.or_false, Bool.false_or, beq_self_eq_true, bne_self_eq_false, Bool.true_eq_false, Bool.false_eq_true, reduceCtorEq, Bool.and_self, decide_true, decide_false] at h; done)
                | refine fun _ => ?_
                | refine ple_ok ?_
                | exact (rfl : @Eq (List PV) _ _)
                | refine Halt.mk ⟨_, sle_head [tab n t, strs m l, I n, .bool (smK n t l i (k + 1)), I i, I (k + 1 : Nat)] [] (.cons (.refl _) (.cons (.refl _) (.cons (.refl _) (.cons (ple_ok ?_) (.cons (.refl _) (.cons (ple_ok ?_) .nil)))))) .nil, ⟨k + 1, _, ?_, ?_, rfl, rfl⟩, ?_⟩
              all_goals first
                | trivial
                | rfl
                | omega
                | exact isTab.mk t (by omega) rfl
                | exact isStrs.mk l (by omega) rfl
                | exact ek
                | (show n - (k + 1) < n - k; omega)
                | (show @Eq Bool _ _; rw [hnew]; done)
                | (show @Eq Bool _ _; rw [hnew]; simp only [rowOf_rowL, toNat_self, hV, hsc]; done)
                | (show @Eq Bool _ _; simp only [rowOf_rowL, toNat_self, hE, hV, hsc, r1, r2, cond_true, cond_false, Bool.not_true, Bool.not_false, Bool.not_not, Bool.and_true, Bool.true_and, Bool.and_false, Bool.false_and, Bool.or_true, Bool.true_or, Bool.or_false, Bool.false_or, beq_self_eq_true, bne_self_eq_false, Bool.true_eq_false, Bool.false_eq_true, reduceCtorEq, Bool.and_self, decide_true, decide_false]; done)
                | skip
        · have hkn : k = n := by
            have := of_decide_eq_false p2
            omega
          subst hkn
          rw [smK_end (by omega)] at hB
          refine Halt.mk ⟨_, sle_head [tab k t, strs m l, I k, .bool (smB k t l (i + 1)), I (i + 1 : Nat)] [] (.cons (.refl _) (.cons (.refl _) (.cons (.refl _) (.cons (ple_ok hB.symm) (.cons (ple_ok ?_) .nil))))) .nil, ⟨i + 1, by omega, rfl⟩, ?_⟩
          · show IntKind.i64.wrap ((i : Int) + 1) = ((i + 1 : Nat) : Int)
            rw [w64 (by omega) (by omega)]; omega
          · show m - (i + 1) < m - i
            omega
    · have : i = m := by
        have := of_decide_eq_false p1
        omega
      subst this
      repeat' first
        | refine ⟨?_, ?_⟩
        | refine fun h => absurd h (by decide)
        | (refine fun h => ?_; exfalso; simp only [hend, cond_true, cond_false, Bool.not_true, Bool.not_false, Bool.not_not, Bool.and_true, Bool.true_and, Bool.and_false, Bool.false_and, Bool.or_true, Bool.true_or, Bool.or_false, Bool.false_or, beq_self_eq_true, bne_self_eq_false, Bool.true_eq_false, Bool.false_eq_true, reduceCtorEq, Bool.and_self, decide_true, decide_false] at h; done)
        | refine fun _ => ?_
        | refine ple_ok ?_
        | exact (rfl : @Eq (List PV) _ _)
      all_goals first
        | trivial
        | rfl
        | omega
        | exact isTab.mk t (by omega) rfl
        | exact isStrs.mk l (by omega) rfl
        | (show @Eq Bool _ _; simp only [hend, cond_true, cond_false, Bool.not_true, Bool.not_false, Bool.not_not, Bool.and_true, Bool.true_and, Bool.and_false, Bool.false_and, Bool.or_true, Bool.true_or, Bool.or_false, Bool.false_or, beq_self_eq_true, bne_self_eq_false, Bool.true_eq_false, Bool.false_eq_true, reduceCtorEq, Bool.and_self, decide_true, decide_false]; done)
        | skip
set_option maxRecDepth 100000 in
set_option maxHeartbeats 8000000 in
theorem safeF (n : Nat) (t : Nat → Row) (m : Nat) (l : Nat → Stream) (hn : n ≤ 9223372036854775807) (hT : okTb n t = true) (hm0 : 0 < m) (hm : m ≤ 40) (hA : (allB m fun i => okS (l i)) = true) (D : Nat) (hD : dp t m l n = D) (hDn : D < n) : SF Try.prog 14 (V.atS [tab n t, strs m l] (.bool true)) := by
  have h24 : SF Try.prog 24 (V.atS [tab n t] (.bool true)) := sf_at sf24L (isTabL.mk t (by omega) rfl) (by show PV.bool (okTb n t) = _; rw [hT])
  have g1 : decide ((m : Int) < 1) = false := decide_eq_false (by omega)
  have g2 : decide ((40 : Int) < (m : Int)) = false := decide_eq_false (by omega)
  have hok : okT n t := @of_decide_eq_true _ (Classical.propDecidable _) hT
  have hn2 := hok.1
  have hn20 := hok.2.1
  have hx := (allB_get hA).all
  have hc : chkStr m l = 0 := by
    unfold chkStr
    rw [if_neg (by omega), hA]; rfl
  have h32 : SF Try.prog 32 (V.atS [strs m l] (.bool true)) := sf_at sf32 (isStrs.mk l (by omega) rfl) (by show PV.bool (allB m fun i => okS (l i)) = _; rw [hA])
  have h45 : SF Try.prog 45 (V.atS [tab n t, strs m l] (.tup [I (D : Int), I 0])) := by
    refine sf_at sf45 (isTSw.mk t l (by omega) (by omega) (fun _ _ => rfl) (fun _ _ => rfl)) ?_
    show PV.tup [I (deepV n t m l), I (deepE n t m l)] = _
    have hE : deepE n t m l = 0 := by unfold deepE; rw [hT, cond_true, if_pos hc, if_neg (by omega), if_neg (by omega)]
    have hV : deepV n t m l = (D : Int) := (if_pos hE).trans (by rw [hD])
    rw [hV, hE]
  have q1 : decide ((D : Int) < 0) = false := decide_eq_false (by omega)
  have q2 : decide ((n : Int) < (D : Int)) = false := decide_eq_false (by omega)
  have hsafe := dp_safe (t := t) (m := m) (l := l) n
  have hend := smB_end hD
  rw [hD] at hsafe
  refine sf_of types_ok mixed (l := [(17, awakeS), (19, tabS), (23, strS), (24, _), (30, strsS), (32, _), (39, flashS), (45, _)]) ⟨sf17', sf19, sf23, h24, sf30, h32, sf39, h45, trivial⟩ (es := []) trivial 2 Try.func14 rfl (by kernel_rfl) fun args h => ?_
  cases (show args = _ from h)
  refine ⟨rfl, ?_⟩
  repeat' first
    | refine ⟨?_, ?_⟩
    | refine fun h => absurd h (by decide)
    | (refine fun h => ?_; exfalso; simp only [g1, g2, q1, q2, cond_true, cond_false, Bool.not_true, Bool.not_false, Bool.not_not, Bool.and_true, Bool.true_and, Bool.and_false, Bool.false_and, Bool.or_true, Bool.true_or, Bool.or_false, Bool.false_or, beq_self_eq_true, bne_self_eq_false, Bool.true_eq_false, Bool.false_eq_true, reduceCtorEq, Bool.and_self, decide_true, decide_false] at h; done)
    | refine fun _ => ?_
    | refine ple_ok ?_
    | exact (rfl : @Eq (List PV) _ _)
  all_goals first
    | trivial
    | rfl
    | omega
    | exact isTab.mk t (by omega) rfl
    | exact isStrs.mk l (by omega) rfl
    | (show @Eq Bool _ _; simp only [g1, g2, q1, q2, cond_true, cond_false, Bool.not_true, Bool.not_false, Bool.not_not, Bool.and_true, Bool.true_and, Bool.and_false, Bool.false_and, Bool.or_true, Bool.true_or, Bool.or_false, Bool.false_or, beq_self_eq_true, bne_self_eq_false, Bool.true_eq_false, Bool.false_eq_true, reduceCtorEq, Bool.and_self, decide_true, decide_false]; done)
    | skip
  refine .mk ⟨[0, 1, 5, 7, 8], [], fun st => ∃ i : Nat, i ≤ m ∧ st = mkSt [(0, tab n t), (1, strs m l), (5, I D), (7, .bool (smB D t l i)), (8, I i)] [],
    fun st => m - (match st.slots 8 with | .int _ k => k.toNat | _ => 0), ?_, ?_⟩
  · refine ⟨_, sle_head [tab n t, strs m l, I D, .bool (smB D t l 0), I (0 : Nat)] [] (.cons (.refl _) (.cons (.refl _) (.cons (.refl _) (.cons (ple_ok ?_) (.cons (.refl _) .nil))))) .nil, 0, Nat.zero_le _, rfl⟩
    show ((D : Int) == 0) = decide (D = 0)
    by_cases h0 : D = 0
    · rw [decide_eq_true h0, beq_iff_eq]; omega
    · rw [decide_eq_false h0, beq_eq_false_iff_ne]; omega
  · rintro st ⟨i, hi, rfl⟩
    refine ⟨fun p1 => ?_, fun p1 => ?_⟩
    · have hlt : i < m := by simpa using p1
      clear p1
      refine .mk ⟨[0, 1, 5, 7, 8, 9], [], fun st => ∃ (k : Nat) (B : Bool), D - 1 ≤ k ∧ k ≤ n ∧ smK D t l i k = B ∧ st = mkSt [(0, tab n t), (1, strs m l), (5, I D), (7, .bool B), (8, I i), (9, I k)] [],
        fun st => n - (match st.slots 9 with | .int _ k => k.toNat | _ => 0), ?_, ?_⟩
      · refine ⟨_, sle_head [tab n t, strs m l, I D, .bool (smB D t l i), I i, I (D - 1 : Nat)] [] (.cons (.refl _) (.cons (.refl _) (.cons (.refl _) (.cons (.refl _) (.cons (.refl _) (.cons (ple_ok ?_) .nil)))))) .nil, D - 1, _, Nat.le_refl _, by omega, smK_start.symm, rfl⟩
        show (if IntKind.i64.wrap ((D : Int) - 1) > 0 then IntKind.i64.wrap ((D : Int) - 1) else 0) = ((D - 1 : Nat) : Int)
        rw [w64 (by omega) (by omega)]
        split <;> omega
      · rintro st ⟨k, B, hk0, hk, hB, rfl⟩
        refine ⟨fun p2 => ?_, fun p2 => ?_⟩
        · have hkn : k < n := by simpa using p2
          clear p2
          have he1 : err1 n t (k : Int) = 0 := by unfold err1; rw [hT, if_pos (by omega)]; rfl
          have hE : flE n t (k : Int) ⟨(l i).m, (l i).h, (l i).s, (l i).g⟩ = 0 := by
            show flE n t (k : Int) (l i) = 0
            unfold flE
            rw [if_pos he1, if_pos (hx i hlt)]
          have hV : flV n t (k : Int) ⟨(l i).m, (l i).h, (l i).s, (l i).g⟩ = partsV (t k) (l i) := if_pos hE
          have hex : okRX (t k) (l i) := .mk (hok.2.2.all k hkn).1 (hx i hlt)
          have ek : IntKind.i64.wrap ((k : Int) + 1) = ((k + 1 : Nat) : Int) := by rw [w64 (by omega) (by omega)]; omega
          have hz : (IntKind.i64.wrap ((k : Int) + 1)) = ((k + 1 : Nat) : Int) := ek
          by_cases hkD : k < D
          · have r1 : decide ((D : Int) ≤ (k : Int)) = false := decide_eq_false (by omega)
            have r2 : decide ((k : Int) < (D : Int)) = true := decide_eq_true (by omega)
            cases B
            · have hnew := smK_d hB hkD hk0
              repeat' first
                | refine ⟨?_, ?_⟩
                | refine fun h => absurd h (by decide)
                | (refine fun h => ?_; exfalso; simp only [rowOf_rowL, toNat_self, hE, hV, r1, r2, cond_true, cond_false, Bool.not_true, Bool.not_false, Bool.not_not, Bool.and_true, Bool.true_and, Bool.and_false, Bool.false_and, Bool.or_true, Bool.true_or, Bool.or_false, Bool.false_or, beq_self_eq_true, bne_self_eq_false, Bool.true_eq_false, Bool.false_eq_true, reduceCtorEq, Bool.and_self, decide_true, decide_false] at h; done)
                | refine fun _ => ?_
                | refine ple_ok ?_
                | exact (rfl : @Eq (List PV) _ _)
                | refine Halt.mk ⟨_, sle_head [tab n t, strs m l, I D, .bool (smK D t l i (k + 1)), I i, I (k + 1 : Nat)] [] (.cons (.refl _) (.cons (.refl _) (.cons (.refl _) (.cons (ple_ok ?_) (.cons (.refl _) (.cons (ple_ok ?_) .nil)))))) .nil, ⟨k + 1, _, ?_, ?_, rfl, rfl⟩, ?_⟩
              all_goals first
                | trivial
                | rfl
                | omega
                | exact isTab.mk t (by omega) rfl
                | exact isStrs.mk l (by omega) rfl
                | exact ek
                | (show n - (k + 1) < n - k; omega)
                | (show @Eq Bool _ _; rw [hnew]; done)
                | (show @Eq Bool _ _; rw [hnew]; simp only [rowOf_rowL, toNat_self, hV]; done)
                | (show @Eq Bool _ _; rw [hnew]; simp only [rowOf_rowL, toNat_self, hV, cond_true, cond_false]; rfl)
                | (show @Eq Bool _ _; simp only [rowOf_rowL, toNat_self, hE, hV, r1, r2, cond_true, cond_false, Bool.not_true, Bool.not_false, Bool.not_not, Bool.and_true, Bool.true_and, Bool.and_false, Bool.false_and, Bool.or_true, Bool.true_or, Bool.or_false, Bool.false_or, beq_self_eq_true, bne_self_eq_false, Bool.true_eq_false, Bool.false_eq_true, reduceCtorEq, Bool.and_self, decide_true, decide_false]; done)
                | skip
            · have hnew := smK_t hB
              repeat' first
                | refine ⟨?_, ?_⟩
                | refine fun h => absurd h (by decide)
                | (refine fun h => ?_; exfalso; simp only [rowOf_rowL, toNat_self, hE, hV, r1, r2, cond_true, cond_false, Bool.not_true, Bool.not_false, Bool.not_not, Bool.and_true, Bool.true_and, Bool.and_false, Bool.false_and, Bool.or_true, Bool.true_or, Bool.or_false, Bool.false_or, beq_self_eq_true, bne_self_eq_false, Bool.true_eq_false, Bool.false_eq_true, reduceCtorEq, Bool.and_self, decide_true, decide_false] at h; done)
                | refine fun _ => ?_
                | refine ple_ok ?_
                | exact (rfl : @Eq (List PV) _ _)
                | refine Halt.mk ⟨_, sle_head [tab n t, strs m l, I D, .bool (smK D t l i (k + 1)), I i, I (k + 1 : Nat)] [] (.cons (.refl _) (.cons (.refl _) (.cons (.refl _) (.cons (ple_ok ?_) (.cons (.refl _) (.cons (ple_ok ?_) .nil)))))) .nil, ⟨k + 1, _, ?_, ?_, rfl, rfl⟩, ?_⟩
              all_goals first
                | trivial
                | rfl
                | omega
                | exact isTab.mk t (by omega) rfl
                | exact isStrs.mk l (by omega) rfl
                | exact ek
                | (show n - (k + 1) < n - k; omega)
                | (show @Eq Bool _ _; rw [hnew]; done)
                | (show @Eq Bool _ _; rw [hnew]; simp only [rowOf_rowL, toNat_self, hV]; done)
                | (show @Eq Bool _ _; rw [hnew]; simp only [rowOf_rowL, toNat_self, hV, cond_true, cond_false]; rfl)
                | (show @Eq Bool _ _; simp only [rowOf_rowL, toNat_self, hE, hV, r1, r2, cond_true, cond_false, Bool.not_true, Bool.not_false, Bool.not_not, Bool.and_true, Bool.true_and, Bool.and_false, Bool.false_and, Bool.or_true, Bool.true_or, Bool.or_false, Bool.false_or, beq_self_eq_true, bne_self_eq_false, Bool.true_eq_false, Bool.false_eq_true, reduceCtorEq, Bool.and_self, decide_true, decide_false]; done)
                | skip
          · have r1 : decide ((D : Int) ≤ (k : Int)) = true := decide_eq_true (by omega)
            have r2 : decide ((k : Int) < (D : Int)) = false := decide_eq_false (by omega)
            have hsc : (partsV (t k) (l i)).scale = 0 := hsafe k (by omega) hkn i hlt
            cases B
            · have hnew := smK_f hB hkD
              repeat' first
                | refine ⟨?_, ?_⟩
                | refine fun h => absurd h (by decide)
                | (refine fun h => ?_; exfalso; simp only [rowOf_rowL, toNat_self, hE, hV, hsc, r1, r2, cond_true, cond_false, Bool.not_true, Bool.not_false, Bool.not_not, Bool.and_true, Bool.true_and, Bool.and_false, Bool.false_and, Bool.or_true, Bool.true_or, Bool.or_false, Bool.false_or, beq_self_eq_true, bne_self_eq_false, Bool.true_eq_false, Bool.false_eq_true, reduceCtorEq, Bool.and_self, decide_true, decide_false] at h; done)
                | refine fun _ => ?_
                | refine ple_ok ?_
                | exact (rfl : @Eq (List PV) _ _)
                | refine Halt.mk ⟨_, sle_head [tab n t, strs m l, I D, .bool (smK D t l i (k + 1)), I i, I (k + 1 : Nat)] [] (.cons (.refl _) (.cons (.refl _) (.cons (.refl _) (.cons (ple_ok ?_) (.cons (.refl _) (.cons (ple_ok ?_) .nil)))))) .nil, ⟨k + 1, _, ?_, ?_, rfl, rfl⟩, ?_⟩
              all_goals first
                | trivial
                | rfl
                | omega
                | exact isTab.mk t (by omega) rfl
                | exact isStrs.mk l (by omega) rfl
                | exact ek
                | (show n - (k + 1) < n - k; omega)
                | (show @Eq Bool _ _; rw [hnew]; done)
                | (show @Eq Bool _ _; rw [hnew]; simp only [rowOf_rowL, toNat_self, hV, hsc]; done)
                | (show @Eq Bool _ _; simp only [rowOf_rowL, toNat_self, hE, hV, hsc, r1, r2, cond_true, cond_false, Bool.not_true, Bool.not_false, Bool.not_not, Bool.and_true, Bool.true_and, Bool.and_false, Bool.false_and, Bool.or_true, Bool.true_or, Bool.or_false, Bool.false_or, beq_self_eq_true, bne_self_eq_false, Bool.true_eq_false, Bool.false_eq_true, reduceCtorEq, Bool.and_self, decide_true, decide_false]; done)
                | skip
            · have hnew := smK_t hB
              repeat' first
                | refine ⟨?_, ?_⟩
                | refine fun h => absurd h (by decide)
                | (refine fun h => ?_; exfalso; simp only [rowOf_rowL, toNat_self, hE, hV, hsc, r1, r2, cond_true, cond_false, Bool.not_true, Bool.not_false, Bool.not_not, Bool.and_true, Bool.true_and, Bool.and_false, Bool.false_and, Bool.or_true, Bool.true_or, Bool.or_false, Bool.false_or, beq_self_eq_true, bne_self_eq_false, Bool.true_eq_false, Bool.false_eq_true, reduceCtorEq, Bool.and_self, decide_true, decide_false] at h; done)
                | refine fun _ => ?_
                | refine ple_ok ?_
                | exact (rfl : @Eq (List PV) _ _)
                | refine Halt.mk ⟨_, sle_head [tab n t, strs m l, I D, .bool (smK D t l i (k + 1)), I i, I (k + 1 : Nat)] [] (.cons (.refl _) (.cons (.refl _) (.cons (.refl _) (.cons (ple_ok ?_) (.cons (.refl _) (.cons (ple_ok ?_) .nil)))))) .nil, ⟨k + 1, _, ?_, ?_, rfl, rfl⟩, ?_⟩
              all_goals first
                | trivial
                | rfl
                | omega
                | exact isTab.mk t (by omega) rfl
                | exact isStrs.mk l (by omega) rfl
                | exact ek
                | (show n - (k + 1) < n - k; omega)
                | (show @Eq Bool _ _; rw [hnew]; done)
                | (show @Eq Bool _ _; rw [hnew]; simp only [rowOf_rowL, toNat_self, hV, hsc]; done)
                | (show @Eq Bool _ _; simp only [rowOf_rowL, toNat_self, hE, hV, hsc, r1, r2, cond_true, cond_false, Bool.not_true, Bool.not_false, Bool.not_not, Bool.and_true, Bool.true_and, Bool.and_false, Bool.false_and, Bool.or_true, Bool.true_or, Bool.or_false, Bool.false_or, beq_self_eq_true, bne_self_eq_false, Bool.true_eq_false, Bool.false_eq_true, reduceCtorEq, Bool.and_self, decide_true, decide_false]; done)
                | skip
        · have hkn : k = n := by
            have := of_decide_eq_false p2
            omega
          subst hkn
          rw [smK_end (by omega)] at hB
          refine Halt.mk ⟨_, sle_head [tab k t, strs m l, I D, .bool (smB D t l (i + 1)), I (i + 1 : Nat)] [] (.cons (.refl _) (.cons (.refl _) (.cons (.refl _) (.cons (ple_ok hB.symm) (.cons (ple_ok ?_) .nil))))) .nil, ⟨i + 1, by omega, rfl⟩, ?_⟩
          · show IntKind.i64.wrap ((i : Int) + 1) = ((i + 1 : Nat) : Int)
            rw [w64 (by omega) (by omega)]; omega
          · show m - (i + 1) < m - i
            omega
    · have : i = m := by
        have := of_decide_eq_false p1
        omega
      subst this
      repeat' first
        | refine ⟨?_, ?_⟩
        | refine fun h => absurd h (by decide)
        | (refine fun h => ?_; exfalso; simp only [hend, cond_true, cond_false, Bool.not_true, Bool.not_false, Bool.not_not, Bool.and_true, Bool.true_and, Bool.and_false, Bool.false_and, Bool.or_true, Bool.true_or, Bool.or_false, Bool.false_or, beq_self_eq_true, bne_self_eq_false, Bool.true_eq_false, Bool.false_eq_true, reduceCtorEq, Bool.and_self, decide_true, decide_false] at h; done)
        | refine fun _ => ?_
        | refine ple_ok ?_
        | exact (rfl : @Eq (List PV) _ _)
      all_goals first
        | trivial
        | rfl
        | omega
        | exact isTab.mk t (by omega) rfl
        | exact isStrs.mk l (by omega) rfl
        | (show @Eq Bool _ _; simp only [hend, cond_true, cond_false, Bool.not_true, Bool.not_false, Bool.not_not, Bool.and_true, Bool.true_and, Bool.and_false, Bool.false_and, Bool.or_true, Bool.true_or, Bool.or_false, Bool.false_or, beq_self_eq_true, bne_self_eq_false, Bool.true_eq_false, Bool.false_eq_true, reduceCtorEq, Bool.and_self, decide_true, decide_false]; done)
        | skip
end Go.Proofs.Ytiidjohhcappdaa
