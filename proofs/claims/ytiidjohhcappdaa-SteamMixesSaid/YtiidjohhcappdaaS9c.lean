/- Layer 1: a table of any length is valid by the document's words. -/
import Derived.Test.YtiidjohhcappdaaS8
namespace Go.Proofs.Ytiidjohhcappdaa
open Go.V
set_option linter.unusedSimpArgs false
inductive isTabL (n : Nat) (get : Nat → List PV) : Prop
  | mk (t : Nat → Row) (hn : n ≤ 9223372036854775807) (e : get = fun i => rowL (t i))
  | no (h : False)
theorem isTabL.get {n : Nat} {get : Nat → List PV} (h : isTabL n get) : n ≤ 9223372036854775807 ∧ ∃ t : Nat → Row, get = fun i => rowL (t i) := by
  cases h with
  | mk t hn e => exact ⟨hn, t, e⟩
  | no h => exact h.elim
noncomputable def okTSL : V.Spec
  | [.slice none n get] => (some (isTabL n get), .bool (okTb n fun i => rowOf (get i)))
  | _ => bad
set_option maxHeartbeats 4000000 in
theorem sf24L : SF Try.prog 24 okTSL := by
  refine sf_ofM types_ok mixed (l := [(27, inS)]) ⟨sf27, trivial⟩ (es := []) trivial [0, 2, 3, 4, 8, 48, 94] [4] 1 Try.func24 rfl (by kernel_rfl) fun args h => ?_
  unfold okTSL at h
  split at h
  · rename_i n get
    obtain ⟨hn, t, rfl⟩ := isTabL.get h
    clear h
    have e : (okTSL [.slice none n fun i => rowL (t i)]).2 = .bool (okTb n t) := rfl
    refine ⟨rfl, ?_⟩
    rw [e]
    clear e
    refine .mk ⟨[0, 3], [], fun st => ∃ k : Nat, k ≤ n ∧ Upto (okAt t) k ∧ st = mkSt [(0, tab n t), (3, I k)] [],
      fun st => n - (match st.slots 3 with | .int _ k => k.toNat | _ => 0), ?_, ?_⟩
    · refine ⟨_, sle_head [tab n t, I (0 : Nat)] [] (pleL_ok (fun _ _ => ple_ok) ?_) .nil, 0, Nat.zero_le _, .zero _, rfl⟩
      repeat' first
        | refine ⟨?_, ?_⟩
        | refine fun h => absurd h (by decide)
        | refine fun _ => ?_
        | refine ple_ok ?_
      all_goals first
        | trivial
        | rfl
        | (show @Eq Int _ _)
        | (show @Eq Bool _ _)
        | skip
      all_goals try simp only [Bool.cond_true_left, Bool.cond_false_right, toNat_pred, toNat_self, okR, belP, rowOf_rowL, cond_true, cond_false, okS, sel, Bool.not_eq_true', Bool.not_eq_false', decide_eq_true_eq, decide_eq_false_iff_not, bne_iff_ne, bne_eq_false_iff_eq, beq_iff_eq, beq_eq_false_iff_ne, ne_eq, ite_eq_left_iff, Decidable.not_not, Bool.and_eq_true, Bool.or_eq_true, Bool.and_eq_false_iff, Bool.or_eq_false_iff, not_and, Bool.not_true, Bool.not_false] at *
      all_goals try simp (disch := omega) only [w64, if_pos, if_neg] at *
      all_goals try simp only [w64e, toNat_pred, toNat_self, okR, belP, rowOf_rowL] at *
      all_goals first
        | trivial
        | omega
        | (split <;> omega)
        | (rw [if_pos (by omega)]; omega)
        | (rw [if_neg (by omega)]; omega)
        | (refine decide_eq_decide.2 ?_; omega)
        | (refine decide_eq_true ?_; omega)
        | (refine decide_eq_false ?_; omega)
        | skip
    · rintro st ⟨k, hk, hu, rfl⟩
      refine ⟨fun h2 => ?_, fun h2 => ?_⟩
      · have hlt : k < n := by simpa using h2
        clear h2
        repeat' first
          | refine ⟨?_, ?_⟩
          | refine fun h => absurd h (by decide)
          | refine fun _ => ?_
          | refine ple_ok ?_
          | refine Halt.mk ⟨_, sle_head [tab n t, I (k + 1 : Nat)] [] (pleL_ok (fun _ _ => ple_ok) ?_) .nil, ⟨k + 1, ?_, ?_, rfl⟩, ?_⟩
        all_goals first
          | trivial
          | rfl
          | (show @Eq Int _ _)
          | (show @Eq Bool _ _)
          | skip
        all_goals try simp only [Bool.cond_true_left, Bool.cond_false_right, toNat_pred, toNat_self, okR, belP, rowOf_rowL, cond_true, cond_false, okS, sel, Bool.not_eq_true', Bool.not_eq_false', decide_eq_true_eq, decide_eq_false_iff_not, bne_iff_ne, bne_eq_false_iff_eq, beq_iff_eq, beq_eq_false_iff_ne, ne_eq, ite_eq_left_iff, Decidable.not_not, Bool.and_eq_true, Bool.or_eq_true, Bool.and_eq_false_iff, Bool.or_eq_false_iff, not_and, Bool.not_true, Bool.not_false] at *
        all_goals try simp (disch := omega) only [w64, if_pos, if_neg] at *
        all_goals try simp only [w64e, toNat_pred, toNat_self, okR, belP, rowOf_rowL] at *
        all_goals first
          | trivial
          | omega
          | (split <;> omega)
          | (rw [if_pos (by omega)]; omega)
          | (rw [if_neg (by omega)]; omega)
          | (refine decide_eq_decide.2 ?_; omega)
          | (refine decide_eq_true ?_; omega)
          | (refine decide_eq_false ?_; omega)
          | (show n - (k + 1) < n - k; omega)
          | (refine Upto.succ hu ?_; simp only [okAt, okR, belP]; omega)
          | (refine okTb_f fun h => ?_; have hh := h.2.2.all k hlt; simp only [okAt, okR, belP] at hh; omega)
          | skip
      · have : k = n := by
          have := of_decide_eq_false h2
          omega
        subst this
        clear h2
        repeat' first
          | refine ⟨?_, ?_⟩
          | refine fun h => absurd h (by decide)
          | refine fun _ => ?_
          | refine ple_ok ?_
        all_goals first
          | trivial
          | rfl
          | (show @Eq Int _ _)
          | (show @Eq Bool _ _)
          | skip
        all_goals try simp only [Bool.cond_true_left, Bool.cond_false_right, toNat_pred, toNat_self, okR, belP, rowOf_rowL, cond_true, cond_false, okS, sel, Bool.not_eq_true', Bool.not_eq_false', decide_eq_true_eq, decide_eq_false_iff_not, bne_iff_ne, bne_eq_false_iff_eq, beq_iff_eq, beq_eq_false_iff_ne, ne_eq, ite_eq_left_iff, Decidable.not_not, Bool.and_eq_true, Bool.or_eq_true, Bool.and_eq_false_iff, Bool.or_eq_false_iff, not_and, Bool.not_true, Bool.not_false] at *
        all_goals try simp (disch := omega) only [w64, if_pos, if_neg] at *
        all_goals try simp only [w64e, toNat_pred, toNat_self, okR, belP, rowOf_rowL] at *
        all_goals first
          | trivial
          | omega
          | (split <;> omega)
          | (rw [if_pos (by omega)]; omega)
          | (rw [if_neg (by omega)]; omega)
          | (refine decide_eq_decide.2 ?_; omega)
          | (refine decide_eq_true ?_; omega)
          | (refine decide_eq_false ?_; omega)
          | (rw [← Bool.decide_and]; first | (rw [okTb_t ⟨by omega, by omega, hu⟩]; exact decide_eq_true (by omega)) | (by_cases hq : (2 : Int) ≤ k ∧ (k : Int) ≤ 20; (rw [decide_eq_true hq, okTb_t ⟨by omega, by omega, hu⟩]); (rw [decide_eq_false hq, okTb_f fun h => hq ⟨by have := h.1; omega, by have := h.2.1; omega⟩])))
          | (by_cases h20 : (k : Int) ≤ 20 <;> simp only [h20, decide_true, decide_false] <;> symm <;> first | (refine okTb_t ⟨by omega, by omega, hu⟩) | (refine okTb_f fun h => ?_; simp only [okT] at h; omega))
          | (symm; refine okTb_t ⟨by omega, by omega, hu⟩)
          | (refine okTb_t ⟨by omega, by omega, hu⟩)
          | (refine okTb_f fun h => ?_; simp only [okT] at h; omega)
          | skip
  · exact h.elim
end Go.Proofs.Ytiidjohhcappdaa
