/- Layer 1: the level of a pressure. -/
import Derived.Test.YtiidjohhcappdaaS7
namespace Go.Proofs.Ytiidjohhcappdaa
open Go.V
set_option linter.unusedSimpArgs false

def lev (t : Nat → Row) (p : Int) : Nat → Int
  | 0 => -1
  | k + 1 => if (t k).P ≤ p then k else lev t p k
theorem lev_lt (t : Nat → Row) (p : Int) : ∀ n : Nat, -1 ≤ lev t p n ∧ lev t p n < n
  | 0 => ⟨by simp [lev], by simp [lev]⟩
  | n + 1 => by
    have := lev_lt t p n
    unfold lev
    split <;> omega
noncomputable def atV (n : Nat) (t : Nat → Row) (p : Int) : Int := bif okTb n t then (if lev t p n = -1 then 0 else lev t p n) else 0
noncomputable def atE (n : Nat) (t : Nat → Row) (p : Int) : Int := bif okTb n t then (if lev t p n = -1 then 7 else 0) else 1
noncomputable def atS : V.Spec
  | [.slice none n get, .int .i64 p] => (some (isTab n get), .tup [I (atV n (fun i => rowOf (get i)) p), I (atE n (fun i => rowOf (get i)) p)])
  | _ => bad

theorem sf18 : SF Try.prog 18 atS := by
  refine sf_of types_ok mixed (l := [(25, chkTS)]) ⟨sf25, trivial⟩ (es := []) trivial 2 Try.func18 rfl (by kernel_rfl) fun args h => ?_
  unfold atS at h
  split at h
  · rename_i n get p
    obtain ⟨hn, t, rfl⟩ := isTab.get h
    clear h
    have e : (atS [.slice none n fun i => rowL (t i), .int .i64 p]).2 = .tup [I (atV n t p), I (atE n t p)] := rfl
    refine ⟨rfl, ?_⟩
    rw [e]
    clear e
    refine ⟨.mk t hn rfl, fun h1 => ?_, fun h1 => ?_⟩
    · cases hT : okTb n t with
      | true => simp only [rowOf_rowL, hT] at h1; exact absurd h1 (by decide)
      | false =>
        simp only [atV, atE, hT]
        repeat' first
          | refine ⟨?_, ?_⟩
          | refine fun h => absurd h (by decide)
          | refine fun _ => ?_
          | refine ple_ok ?_
        all_goals first
          | trivial
          | rfl
          | (show @Eq Int _ _)
          | (show @Eq Bool _ _)
          | skip
        all_goals try simp only [toNat_pred, toNat_self, okR, belP, rowOf_rowL, hT, cond_true, cond_false, okS, sel, Bool.not_eq_true', Bool.not_eq_false', decide_eq_true_eq, decide_eq_false_iff_not, bne_iff_ne, bne_eq_false_iff_eq, beq_iff_eq, beq_eq_false_iff_ne, ne_eq, ite_eq_left_iff, Decidable.not_not, Bool.and_eq_true, Bool.or_eq_true, Bool.and_eq_false_iff, Bool.or_eq_false_iff, not_and, Bool.not_true, Bool.not_false] at *
        all_goals try simp (disch := omega) only [w64, if_pos, if_neg] at *
        all_goals try simp only [w64e, toNat_pred, toNat_self, okR, belP, rowOf_rowL, hT] at *
        all_goals first
          | trivial
          | omega
          | (split <;> omega)
          | (rw [if_pos (by omega)]; omega)
          | (rw [if_neg (by omega)]; omega)
          | (refine decide_eq_decide.2 ?_; omega)
          | (refine decide_eq_true ?_; omega)
          | (refine decide_eq_false ?_; omega)
          | skip
    · cases hT : okTb n t with
      | false => simp only [rowOf_rowL, hT] at h1; exact absurd h1 (by decide)
      | true =>
        clear h1
        simp only [atV, atE, hT, cond_true]
        have hl := lev_lt t p n
        refine .mk ⟨[0, 1, 7], [], fun st => ∃ k : Nat, k ≤ n ∧ lev t p n = lev t p k ∧ st = mkSt [(0, tab n t), (1, I p), (7, I ((k : Int) - 1))] [],
          fun st => match st.slots 7 with | .int _ k => (k + 1).toNat | _ => 0, ?_, ?_⟩
        · refine ⟨_, sle_head [tab n t, I p, I ((n : Int) - 1)] [] (pleL_ok (fun _ _ => ple_ok) ?_) .nil, n, Nat.le_refl _, rfl, rfl⟩
          repeat' first
            | refine ⟨?_, ?_⟩
            | refine fun h => absurd h (by decide)
            | refine fun _ => ?_
            | refine ple_ok ?_
          all_goals first
            | trivial
            | rfl
            | (show @Eq Int _ _)
            | (show @Eq Bool _ _)
            | skip
          all_goals try simp only [toNat_pred, toNat_self, okR, belP, rowOf_rowL, cond_true, cond_false, okS, sel, Bool.not_eq_true', Bool.not_eq_false', decide_eq_true_eq, decide_eq_false_iff_not, bne_iff_ne, bne_eq_false_iff_eq, beq_iff_eq, beq_eq_false_iff_ne, ne_eq, ite_eq_left_iff, Decidable.not_not, Bool.and_eq_true, Bool.or_eq_true, Bool.and_eq_false_iff, Bool.or_eq_false_iff, not_and, Bool.not_true, Bool.not_false] at *
          all_goals try simp (disch := omega) only [w64, if_pos, if_neg] at *
          all_goals try simp only [w64e, toNat_pred, toNat_self, okR, belP, rowOf_rowL] at *
          all_goals first
            | trivial
            | omega
            | (split <;> omega)
            | (rw [if_pos (by omega)]; omega)
            | (rw [if_neg (by omega)]; omega)
            | (refine decide_eq_decide.2 ?_; omega)
            | (refine decide_eq_true ?_; omega)
            | (refine decide_eq_false ?_; omega)
            | skip
        · rintro st ⟨k, hk, hu, rfl⟩
          refine ⟨fun h2 => ?_, fun h2 => ?_⟩
          · obtain ⟨j, rfl⟩ : ∃ j, k = j + 1 := ⟨k - 1, by have := of_decide_eq_true h2; omega⟩
            have ej : ((j + 1 : Nat) : Int) - 1 = j := by omega
            clear h2
            rw [ej]
            simp only [lev] at hu
            repeat' first
              | refine ⟨?_, ?_⟩
              | refine fun h => absurd h (by decide)
              | refine fun _ => ?_
              | refine ple_ok ?_
              | refine Halt.mk ⟨_, sle_head [tab n t, I p, I ((j : Int) - 1)] [] (pleL_ok (fun _ _ => ple_ok) ?_) .nil, ⟨j, ?_, ?_, rfl⟩, ?_⟩
            all_goals first
              | trivial
              | rfl
              | (show @Eq Int _ _)
              | (show @Eq Bool _ _)
              | skip
            all_goals try simp only [toNat_pred, toNat_self, okR, belP, rowOf_rowL, ej, cond_true, cond_false, okS, sel, Bool.not_eq_true', Bool.not_eq_false', decide_eq_true_eq, decide_eq_false_iff_not, bne_iff_ne, bne_eq_false_iff_eq, beq_iff_eq, beq_eq_false_iff_ne, ne_eq, ite_eq_left_iff, Decidable.not_not, Bool.and_eq_true, Bool.or_eq_true, Bool.and_eq_false_iff, Bool.or_eq_false_iff, not_and, Bool.not_true, Bool.not_false] at *
            all_goals try simp (disch := omega) only [w64, if_pos, if_neg] at *
            all_goals try simp only [w64e, toNat_pred, toNat_self, okR, belP, rowOf_rowL, ej] at *
            all_goals first
              | trivial
              | omega
              | (split <;> omega)
              | (rw [if_pos (by omega)]; omega)
              | (rw [if_neg (by omega)]; omega)
              | (refine decide_eq_decide.2 ?_; omega)
              | (refine decide_eq_true ?_; omega)
              | (refine decide_eq_false ?_; omega)
              | (rw [if_neg (by omega)] at hu; exact hu)
              | (rw [if_pos (by omega)] at hu; rw [if_neg (by omega)]; omega)
              | (rw [if_pos (by omega)] at hu; rw [hu, if_neg (by omega)])
              | (show ((j : Int) - 1 + 1).toNat < (((j : Int)) + 1).toNat; omega)
              | skip
          · have : k = 0 := by
              have := of_decide_eq_false h2
              omega
            subst this
            rw [show lev t p 0 = -1 from rfl] at hu
            rw [hu]
            repeat' first
              | refine ⟨?_, ?_⟩
              | refine fun h => absurd h (by decide)
              | refine fun _ => ?_
              | refine ple_ok ?_
            all_goals first
              | trivial
              | rfl
              | (show @Eq Int _ _)
              | (show @Eq Bool _ _)
              | skip
            all_goals try simp only [toNat_pred, toNat_self, okR, belP, rowOf_rowL, cond_true, cond_false, okS, sel, Bool.not_eq_true', Bool.not_eq_false', decide_eq_true_eq, decide_eq_false_iff_not, bne_iff_ne, bne_eq_false_iff_eq, beq_iff_eq, beq_eq_false_iff_ne, ne_eq, ite_eq_left_iff, Decidable.not_not, Bool.and_eq_true, Bool.or_eq_true, Bool.and_eq_false_iff, Bool.or_eq_false_iff, not_and, Bool.not_true, Bool.not_false] at *
            all_goals try simp (disch := omega) only [w64, if_pos, if_neg] at *
            all_goals try simp only [w64e, toNat_pred, toNat_self, okR, belP, rowOf_rowL] at *
            all_goals first
              | trivial
              | omega
              | (split <;> omega)
              | (rw [if_pos (by omega)]; omega)
              | (rw [if_neg (by omega)]; omega)
              | (refine decide_eq_decide.2 ?_; omega)
              | (refine decide_eq_true ?_; omega)
              | (refine decide_eq_false ?_; omega)
              | skip
  · exact h.elim
end Go.Proofs.Ytiidjohhcappdaa
