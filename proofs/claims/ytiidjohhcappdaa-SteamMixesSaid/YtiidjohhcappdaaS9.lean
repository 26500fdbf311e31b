/- Layer 1: tables by the document's words. -/
import Derived.Test.YtiidjohhcappdaaS8
namespace Go.Proofs.Ytiidjohhcappdaa
open Go.V
set_option linter.unusedSimpArgs false

noncomputable def refAtS : V.Spec
  | [.slice none n get, .int .i64 p] => (some (isTab n get), I (lev (fun i => rowOf (get i)) p n))
  | _ => bad
theorem sf26 : SF Try.prog 26 refAtS := by
  refine sf_of types_ok mixed (l := []) trivial (es := []) trivial 2 Try.func26 rfl (by kernel_rfl) fun args h => ?_
  unfold refAtS at h
  split at h
  · rename_i n get p
    obtain ⟨hn, t, rfl⟩ := isTab.get h
    clear h
    have e : (refAtS [.slice none n fun i => rowL (t i), .int .i64 p]).2 = I (lev t p n) := rfl
    refine ⟨rfl, ?_⟩
    rw [e]
    clear e
    refine .mk ⟨[0, 1, 5, 6], [], fun st => ∃ k : Nat, k ≤ n ∧ st = mkSt [(0, tab n t), (1, I p), (5, I (lev t p k)), (6, I k)] [],
      fun st => n - (match st.slots 6 with | .int _ k => k.toNat | _ => 0), ?_, ?_⟩
    · refine ⟨_, sle_head [tab n t, I p, I (lev t p 0), I (0 : Nat)] [] (pleL_ok (fun _ _ => ple_ok) ?_) .nil, 0, Nat.zero_le _, rfl⟩
      repeat' first
        | refine ⟨?_, ?_⟩
        | refine fun h => absurd h (by decide)
        | refine fun _ => ?_
        | refine ple_ok ?_
      all_goals first
        | trivial
        | rfl
        | (show @Eq Int _ _)
        | (show @Eq Bool _ _)
        | skip
      all_goals try simp only [toNat_pred, toNat_self, okR, belP, rowOf_rowL, cond_true, cond_false, okS, sel, Bool.not_eq_true', Bool.not_eq_false', decide_eq_true_eq, decide_eq_false_iff_not, bne_iff_ne, bne_eq_false_iff_eq, beq_iff_eq, beq_eq_false_iff_ne, ne_eq, ite_eq_left_iff, Decidable.not_not, Bool.and_eq_true, Bool.or_eq_true, Bool.and_eq_false_iff, Bool.or_eq_false_iff, not_and, Bool.not_true, Bool.not_false] at *
      all_goals try simp (disch := omega) only [w64, if_pos, if_neg] at *
      all_goals try simp only [w64e, toNat_pred, toNat_self, okR, belP, rowOf_rowL] at *
      all_goals first
        | trivial
        | omega
        | (split <;> omega)
        | (rw [if_pos (by omega)]; omega)
        | (rw [if_neg (by omega)]; omega)
        | (refine decide_eq_decide.2 ?_; omega)
        | (refine decide_eq_true ?_; omega)
        | (refine decide_eq_false ?_; omega)
        | skip
    · rintro st ⟨k, hk, rfl⟩
      refine ⟨fun h2 => ?_, fun h2 => ?_⟩
      · have hlt : k < n := by simpa using h2
        clear h2
        repeat' first
          | refine ⟨?_, ?_⟩
          | refine fun h => absurd h (by decide)
          | refine fun _ => ?_
          | refine ple_ok ?_
          | refine Halt.mk ⟨_, sle_head [tab n t, I p, I (lev t p (k + 1)), I (k + 1 : Nat)] [] (pleL_ok (fun _ _ => ple_ok) ?_) .nil, ⟨k + 1, ?_, rfl⟩, ?_⟩
        all_goals first
          | trivial
          | rfl
          | (show @Eq Int _ _)
          | (show @Eq Bool _ _)
          | skip
        all_goals try simp only [toNat_pred, toNat_self, okR, belP, rowOf_rowL, lev, cond_true, cond_false, okS, sel, Bool.not_eq_true', Bool.not_eq_false', decide_eq_true_eq, decide_eq_false_iff_not, bne_iff_ne, bne_eq_false_iff_eq, beq_iff_eq, beq_eq_false_iff_ne, ne_eq, ite_eq_left_iff, Decidable.not_not, Bool.and_eq_true, Bool.or_eq_true, Bool.and_eq_false_iff, Bool.or_eq_false_iff, not_and, Bool.not_true, Bool.not_false] at *
        all_goals try simp (disch := omega) only [w64, if_pos, if_neg] at *
        all_goals try simp only [w64e, toNat_pred, toNat_self, okR, belP, rowOf_rowL, lev] at *
        all_goals first
          | trivial
          | omega
          | (split <;> omega)
          | (rw [if_pos (by omega)]; omega)
          | (rw [if_neg (by omega)]; omega)
          | (refine decide_eq_decide.2 ?_; omega)
          | (refine decide_eq_true ?_; omega)
          | (refine decide_eq_false ?_; omega)
          | (rw [if_pos (by omega)])
          | (rw [if_neg (by omega)])
          | (show n - (k + 1) < n - k; omega)
          | skip
      · have : k = n := by
          have := of_decide_eq_false h2
          omega
        subst this
        repeat' first
          | refine ⟨?_, ?_⟩
          | refine fun h => absurd h (by decide)
          | refine fun _ => ?_
          | refine ple_ok ?_
        all_goals first
          | trivial
          | rfl
          | (show @Eq Int _ _)
          | (show @Eq Bool _ _)
          | skip
        all_goals try simp only [toNat_pred, toNat_self, okR, belP, rowOf_rowL, cond_true, cond_false, okS, sel, Bool.not_eq_true', Bool.not_eq_false', decide_eq_true_eq, decide_eq_false_iff_not, bne_iff_ne, bne_eq_false_iff_eq, beq_iff_eq, beq_eq_false_iff_ne, ne_eq, ite_eq_left_iff, Decidable.not_not, Bool.and_eq_true, Bool.or_eq_true, Bool.and_eq_false_iff, Bool.or_eq_false_iff, not_and, Bool.not_true, Bool.not_false] at *
        all_goals try simp (disch := omega) only [w64, if_pos, if_neg] at *
        all_goals try simp only [w64e, toNat_pred, toNat_self, okR, belP, rowOf_rowL] at *
        all_goals first
          | trivial
          | omega
          | (split <;> omega)
          | (rw [if_pos (by omega)]; omega)
          | (rw [if_neg (by omega)]; omega)
          | (refine decide_eq_decide.2 ?_; omega)
          | (refine decide_eq_true ?_; omega)
          | (refine decide_eq_false ?_; omega)
          | skip
  · exact h.elim

end Go.Proofs.Ytiidjohhcappdaa
