/- Layer 1: the saturation of the program. -/
import Derived.Test.YtiidjohhcappdaaS14
namespace Go.Proofs.Ytiidjohhcappdaa
open Go.V
set_option linter.unusedSimpArgs false

theorem toNat_zero : (0 : Int).toNat = 0 := rfl
def nx (t : Nat → Row) (x : Int) : Nat → Nat → Nat
  | k, 0 => k
  | k, f + 1 => if (t k).T < x then nx t x (k + 1) f else k
noncomputable def satE (n : Nat) (t : Nat → Row) (x : Int) : Int := bif okTb n t then (if (t 0).T ≤ x ∧ x ≤ (t (n - 1)).T then 0 else 2) else 1
def satB (t : Nat → Row) (x : Int) (k : Nat) : Int × Int := ((betN (t (k - 1)) (t k) x).tdiv (betG (t (k - 1)) (t k) x), ((t k).T - (t (k - 1)).T).tdiv (betG (t (k - 1)) (t k) x))
noncomputable def satV (n : Nat) (t : Nat → Row) (x : Int) : Int × Int := if satE n t x = 0 then satB t x (nx t x 1 (n - 1)) else (0, 0)
noncomputable def satS : V.Spec
  | [.slice none n get, .int .i64 x] => (some (isTab n get), .tup [.agg [I (satV n (fun i => rowOf (get i)) x).1, I (satV n (fun i => rowOf (get i)) x).2], I (satE n (fun i => rowOf (get i)) x)])
  | _ => bad

set_option maxRecDepth 20000 in
theorem sf20 : SF Try.prog 20 satS := by
  refine sf_of types_ok mixed (l := [(25, chkTS), (56, inS), (57, betS)]) ⟨sf25, sf56, sf57, trivial⟩ (es := []) trivial 2 Try.func20 rfl (by kernel_rfl) fun args h => ?_
  unfold satS at h
  split at h
  · rename_i n get x
    obtain ⟨hn, t, rfl⟩ := isTab.get h
    clear h
    have e : (satS [.slice none n fun i => rowL (t i), .int .i64 x]).2 = .tup [.agg [I (satV n t x).1, I (satV n t x).2], I (satE n t x)] := rfl
    refine ⟨rfl, ?_⟩
    rw [e]
    clear e
    refine ⟨.mk t hn rfl, fun h1 => ?_, fun h1 => ?_⟩
    · cases hT : okTb n t with
      | true => simp only [rowOf_rowL, hT] at h1; exact absurd h1 (by decide)
      | false =>
        have hE : satE n t x = 1 := by simp only [satE, hT, cond_false]
        have hV : satV n t x = (0, 0) := if_neg (by rw [hE]; decide)
        rw [hE, hV]
        repeat' first
          | refine ⟨?_, ?_⟩
          | refine fun h => absurd h (by decide)
          | refine fun _ => ?_
          | refine ple_ok ?_
        all_goals first
          | trivial
          | rfl
          | (show @Eq Int _ _)
          | (show @Eq Bool _ _)
          | skip
        all_goals try simp only [toNat_pred, toNat_self, rowOf_rowL, toNat_zero, hT, cond_true, cond_false, okS, sel, Bool.not_eq_true', Bool.not_eq_false', decide_eq_true_eq, decide_eq_false_iff_not, bne_iff_ne, bne_eq_false_iff_eq, beq_iff_eq, beq_eq_false_iff_ne, ne_eq, ite_eq_left_iff, Decidable.not_not, Bool.and_eq_true, Bool.or_eq_true, Bool.and_eq_false_iff, Bool.or_eq_false_iff, not_and, Bool.not_true, Bool.not_false] at *
        all_goals try simp (disch := omega) only [w64, if_pos, if_neg] at *
        all_goals try simp only [w64e, toNat_pred, toNat_self, rowOf_rowL, toNat_zero, hT] at *
        all_goals first
          | trivial
          | omega
          | (split <;> omega)
          | (rw [if_pos (by omega)]; omega)
          | (rw [if_neg (by omega)]; omega)
          | (refine decide_eq_decide.2 ?_; omega)
          | (refine decide_eq_true ?_; omega)
          | (refine decide_eq_false ?_; omega)
          | skip
    · cases hT : okTb n t with
      | false => simp only [rowOf_rowL, hT] at h1; exact absurd h1 (by decide)
      | true =>
        clear h1
        have hok : okT n t := @of_decide_eq_true _ (Classical.propDecidable _) hT
        have hn2 := hok.1
        have hn20 := hok.2.1
        by_cases hx : (t 0).T ≤ x ∧ x ≤ (t (n - 1)).T
        · have hE : satE n t x = 0 := by simp only [satE, hT, cond_true, if_pos hx]
          have hV : satV n t x = satB t x (nx t x 1 (n - 1)) := if_pos hE
          rw [hE, hV]
          generalize hB : satB t x (nx t x 1 (n - 1)) = B
          clear hE hV
          repeat' first
            | refine ⟨?_, ?_⟩
            | refine fun h => absurd h (by decide)
            | refine fun _ => ?_
            | refine ple_ok ?_
          all_goals first
            | trivial
            | rfl
            | (show @Eq Int _ _)
            | (show @Eq Bool _ _)
            | skip
          all_goals try simp only [toNat_pred, toNat_self, rowOf_rowL, toNat_zero, cond_true, cond_false, okS, sel, Bool.not_eq_true', Bool.not_eq_false', decide_eq_true_eq, decide_eq_false_iff_not, bne_iff_ne, bne_eq_false_iff_eq, beq_iff_eq, beq_eq_false_iff_ne, ne_eq, ite_eq_left_iff, Decidable.not_not, Bool.and_eq_true, Bool.or_eq_true, Bool.and_eq_false_iff, Bool.or_eq_false_iff, not_and, Bool.not_true, Bool.not_false] at *
          all_goals try simp (disch := omega) only [w64, if_pos, if_neg] at *
          all_goals try simp only [w64e, toNat_pred, toNat_self, rowOf_rowL, toNat_zero] at *
          all_goals first
            | trivial
            | omega
            | (split <;> omega)
            | (rw [if_pos (by omega)]; omega)
            | (rw [if_neg (by omega)]; omega)
            | (refine decide_eq_decide.2 ?_; omega)
            | (refine decide_eq_true ?_; omega)
            | (refine decide_eq_false ?_; omega)
            | skip
          refine .mk ⟨[0, 1, 4, 7], [4], fun st => ∃ k : Nat, 1 ≤ k ∧ k ≤ n - 1 ∧ (t (k - 1)).T ≤ x ∧ nx t x k (n - k) = nx t x 1 (n - 1) ∧ st = mkSt [(0, tab n t), (1, I x), (4, .ptr 4 0), (7, I k)] [(4, .cells [I 0, I 0])],
            fun st => n - (match st.slots 7 with | .int _ k => k.toNat | _ => 0), ?_, ?_⟩
          · exact ⟨_, sle_head [tab n t, I x, .ptr 4 0, I (1 : Nat)] [.cells [I 0, I 0]] (.cons (.refl _) (.cons (.refl _) (.cons (.refl _) (.cons (.refl _) .nil)))) (.cons (.refl _) .nil), 1, Nat.le_refl _, by omega, hx.1, rfl, rfl⟩
          · rintro st ⟨k, hk1, hk, hlo, hnx, rfl⟩
            have hat := hok.2.2.all k (by omega)
            have hat' := hok.2.2.all (k - 1) (by omega)
            obtain ⟨f, hf⟩ : ∃ f, n - k = f + 1 := ⟨n - k - 1, by omega⟩
            refine ⟨⟨by omega, by omega, rfl⟩, fun h2 => ?_, fun h2 => ?_⟩
            · have h2 : (t k).T < x := of_decide_eq_true h2
              have hkn : k ≠ n - 1 := by
                intro hc
                rw [hc] at h2
                omega
              have hnx' : nx t x (k + 1) (n - (k + 1)) = nx t x 1 (n - 1) := by
                rw [← hnx, hf, show n - (k + 1) = f by omega]
                show _ = if (t k).T < x then nx t x (k + 1) f else k
                rw [if_pos h2]
              repeat' first
                | refine ⟨?_, ?_⟩
                | refine fun h => absurd h (by decide)
                | refine fun _ => ?_
                | refine ple_ok ?_
                | refine Halt.mk ⟨_, sle_head [tab n t, I x, .ptr 4 0, I (k + 1 : Nat)] [.cells [I 0, I 0]] (.cons (.refl _) (.cons (.refl _) (.cons (.refl _) (.cons (ple_ok ?_) .nil)))) (.cons (.refl _) .nil), ⟨k + 1, ?_, ?_, ?_, hnx', rfl⟩, ?_⟩
              all_goals first
                | trivial
                | rfl
                | (show @Eq Int _ _)
                | (show @Eq Bool _ _)
                | skip
              all_goals try simp only [toNat_pred, toNat_self, rowOf_rowL, toNat_zero, cond_true, cond_false, okS, sel, Bool.not_eq_true', Bool.not_eq_false', decide_eq_true_eq, decide_eq_false_iff_not, bne_iff_ne, bne_eq_false_iff_eq, beq_iff_eq, beq_eq_false_iff_ne, ne_eq, ite_eq_left_iff, Decidable.not_not, Bool.and_eq_true, Bool.or_eq_true, Bool.and_eq_false_iff, Bool.or_eq_false_iff, not_and, Bool.not_true, Bool.not_false] at *
              all_goals try simp (disch := omega) only [w64, if_pos, if_neg] at *
              all_goals try simp only [w64e, toNat_pred, toNat_self, rowOf_rowL, toNat_zero] at *
              all_goals first
                | trivial
                | omega
                | (split <;> omega)
                | (rw [if_pos (by omega)]; omega)
                | (rw [if_neg (by omega)]; omega)
                | (refine decide_eq_decide.2 ?_; omega)
                | (refine decide_eq_true ?_; omega)
                | (refine decide_eq_false ?_; omega)
                | (show n - (k + 1) < n - k; omega)
                | exact Int.le_of_lt h2
                | skip
            · have h2 : ¬ (t k).T < x := of_decide_eq_false h2
              have hB' : B = satB t x k := by
                rw [← hB, ← hnx, hf]
                show satB t x (if (t k).T < x then nx t x (k + 1) f else k) = _
                rw [if_neg h2]
              have hbp : betP (t (k - 1)) (t k) x := .mk hat'.1 hat.1 (hat.2 (by omega)) ⟨hlo, by omega⟩
              rw [hB']
              clear hB hB'
              repeat' first
                | refine ⟨?_, ?_⟩
                | refine fun h => absurd h (by decide)
                | refine fun _ => ?_
                | refine ple_ok ?_
              all_goals first
                | trivial
                | rfl
                | (show @Eq Int _ _)
                | (show @Eq Bool _ _)
                | skip
              all_goals try simp only [toNat_pred, toNat_self, rowOf_rowL, toNat_zero, cond_true, cond_false, okS, sel, Bool.not_eq_true', Bool.not_eq_false', decide_eq_true_eq, decide_eq_false_iff_not, bne_iff_ne, bne_eq_false_iff_eq, beq_iff_eq, beq_eq_false_iff_ne, ne_eq, ite_eq_left_iff, Decidable.not_not, Bool.and_eq_true, Bool.or_eq_true, Bool.and_eq_false_iff, Bool.or_eq_false_iff, not_and, Bool.not_true, Bool.not_false] at *
              all_goals try simp (disch := omega) only [w64, if_pos, if_neg] at *
              all_goals try simp only [w64e, toNat_pred, toNat_self, rowOf_rowL, toNat_zero] at *
              all_goals first
                | trivial
                | omega
                | (split <;> omega)
                | (rw [if_pos (by omega)]; omega)
                | (rw [if_neg (by omega)]; omega)
                | (refine decide_eq_decide.2 ?_; omega)
                | (refine decide_eq_true ?_; omega)
                | (refine decide_eq_false ?_; omega)
                | exact hbp
                | skip
        · have hE : satE n t x = 2 := by simp only [satE, hT, cond_true, if_neg hx]
          have hV : satV n t x = (0, 0) := if_neg (by rw [hE]; decide)
          rw [hE, hV]
          repeat' first
            | refine ⟨?_, ?_⟩
            | refine fun h => absurd h (by decide)
            | refine fun _ => ?_
            | refine ple_ok ?_
          all_goals first
            | trivial
            | rfl
            | (show @Eq Int _ _)
            | (show @Eq Bool _ _)
            | skip
          all_goals try simp only [toNat_pred, toNat_self, rowOf_rowL, toNat_zero, cond_true, cond_false, okS, sel, Bool.not_eq_true', Bool.not_eq_false', decide_eq_true_eq, decide_eq_false_iff_not, bne_iff_ne, bne_eq_false_iff_eq, beq_iff_eq, beq_eq_false_iff_ne, ne_eq, ite_eq_left_iff, Decidable.not_not, Bool.and_eq_true, Bool.or_eq_true, Bool.and_eq_false_iff, Bool.or_eq_false_iff, not_and, Bool.not_true, Bool.not_false] at *
          all_goals try simp (disch := omega) only [w64, if_pos, if_neg] at *
          all_goals try simp only [w64e, toNat_pred, toNat_self, rowOf_rowL, toNat_zero] at *
          all_goals first
            | trivial
            | omega
            | (split <;> omega)
            | (rw [if_pos (by omega)]; omega)
            | (rw [if_neg (by omega)]; omega)
            | (refine decide_eq_decide.2 ?_; omega)
            | (refine decide_eq_true ?_; omega)
            | (refine decide_eq_false ?_; omega)
            | skip
  · exact h.elim
end Go.Proofs.Ytiidjohhcappdaa
