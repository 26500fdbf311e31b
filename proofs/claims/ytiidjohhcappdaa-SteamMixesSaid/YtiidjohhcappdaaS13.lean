/- Layer 1: the greatest common divisor. -/
import Derived.Test.YtiidjohhcappdaaS9
namespace Go.Proofs.Ytiidjohhcappdaa
open Go.V
set_option linter.unusedSimpArgs false

inductive gcdP (a b : Int) : Prop
  | mk (m n : Nat) (hm : m ≤ 1000000000000) (hn : n ≤ 1000000000000) (e : a = m) (e' : b = n)
  | no (h : False)
def gcdS : V.Spec
  | [.int .i64 a, .int .i64 b] => (some (gcdP a b), I (Nat.gcd a.toNat b.toNat : Nat))
  | _ => bad
theorem gcd_step {m n g : Nat} (h : Nat.gcd m n = g) : Nat.gcd n (m % n) = g := by
  rw [Nat.gcd_comm, ← Nat.gcd_rec, Nat.gcd_comm, h]
theorem tmod_nat (m n : Nat) : Int.tmod (m : Int) (n : Int) = ((m % n : Nat) : Int) := (Int.ofNat_tmod m n).symm

theorem sf73 : SF Try.prog 73 gcdS := by
  refine sf_of types_ok mixed (l := []) trivial (es := []) trivial 2 Try.func73 rfl (by kernel_rfl) fun args h => ?_
  unfold gcdS at h
  split at h
  · rename_i a b
    have h : gcdP a b := h
    cases h with
    | no h => exact h.elim
    | mk m0 n0 hm hn e e' =>
    subst e e'
    have e : (gcdS [.int .i64 m0, .int .i64 n0]).2 = I (Nat.gcd m0 n0 : Nat) := rfl
    refine ⟨rfl, ?_⟩
    rw [e]
    clear e
    refine .mk ⟨[0, 1], [], fun st => ∃ m n : Nat, m ≤ 1000000000000 ∧ n ≤ 1000000000000 ∧ Nat.gcd m n = Nat.gcd m0 n0 ∧ st = mkSt [(0, I m), (1, I n)] [],
      fun st => (match st.slots 1 with | .int _ k => k.toNat | _ => 0), ?_, ?_⟩
    · refine ⟨_, sle_head [I m0, I n0] [] (pleL_ok (fun _ _ => ple_ok) ?_) .nil, m0, n0, hm, hn, rfl, rfl⟩
      repeat' first
        | refine ⟨?_, ?_⟩
        | refine fun h => absurd h (by decide)
        | refine fun _ => ?_
        | refine ple_ok ?_
      all_goals first
        | trivial
        | rfl
        | (show @Eq Int _ _)
        | (show @Eq Bool _ _)
        | skip
      all_goals try simp only [toNat_pred, toNat_self, cond_true, cond_false, okS, sel, Bool.not_eq_true', Bool.not_eq_false', decide_eq_true_eq, decide_eq_false_iff_not, bne_iff_ne, bne_eq_false_iff_eq, beq_iff_eq, beq_eq_false_iff_ne, ne_eq, ite_eq_left_iff, Decidable.not_not, Bool.and_eq_true, Bool.or_eq_true, Bool.and_eq_false_iff, Bool.or_eq_false_iff, not_and, Bool.not_true, Bool.not_false] at *
      all_goals try simp (disch := omega) only [w64, if_pos, if_neg] at *
      all_goals try simp only [w64e, toNat_pred, toNat_self] at *
      all_goals first
        | trivial
        | omega
        | (split <;> omega)
        | (rw [if_pos (by omega)]; omega)
        | (rw [if_neg (by omega)]; omega)
        | (refine decide_eq_decide.2 ?_; omega)
        | (refine decide_eq_true ?_; omega)
        | (refine decide_eq_false ?_; omega)
        | skip
    · rintro st ⟨m, n, hm, hn, hg, rfl⟩
      refine ⟨fun h2 => ?_, fun h2 => ?_⟩
      · have hn0 : 0 < n := by
          simp only [bne_iff_ne, bne_eq_false_iff_eq, ne_eq, decide_eq_true_eq, decide_eq_false_iff_not, gt_iff_lt, Int.not_lt] at h2
          omega
        have hlt : m % n < n := Nat.mod_lt _ hn0
        clear h2
        repeat' first
          | refine ⟨?_, ?_⟩
          | refine fun h => absurd h (by decide)
          | refine fun _ => ?_
          | refine ple_ok ?_
          | refine Halt.mk ⟨_, sle_head [I n, I (m % n : Nat)] [] (pleL_ok (fun _ _ => ple_ok) ?_) .nil, ⟨n, m % n, ?_, ?_, ?_, rfl⟩, ?_⟩
        all_goals first
          | trivial
          | rfl
          | (show @Eq Int _ _)
          | (show @Eq Bool _ _)
          | skip
        all_goals try simp only [toNat_pred, toNat_self, tmod_nat, cond_true, cond_false, okS, sel, Bool.not_eq_true', Bool.not_eq_false', decide_eq_true_eq, decide_eq_false_iff_not, bne_iff_ne, bne_eq_false_iff_eq, beq_iff_eq, beq_eq_false_iff_ne, ne_eq, ite_eq_left_iff, Decidable.not_not, Bool.and_eq_true, Bool.or_eq_true, Bool.and_eq_false_iff, Bool.or_eq_false_iff, not_and, Bool.not_true, Bool.not_false] at *
        all_goals try simp (disch := omega) only [w64, if_pos, if_neg] at *
        all_goals try simp only [w64e, toNat_pred, toNat_self, tmod_nat] at *
        all_goals first
          | trivial
          | omega
          | (split <;> omega)
          | (rw [if_pos (by omega)]; omega)
          | (rw [if_neg (by omega)]; omega)
          | (refine decide_eq_decide.2 ?_; omega)
          | (refine decide_eq_true ?_; omega)
          | (refine decide_eq_false ?_; omega)
          | exact gcd_step hg
          | exact hlt
          | skip
      · have hn0 : n = 0 := by
          simp only [bne_iff_ne, bne_eq_false_iff_eq, ne_eq, decide_eq_true_eq, decide_eq_false_iff_not, gt_iff_lt, Int.not_lt] at h2
          omega
        subst hn0
        rw [Nat.gcd_zero_right] at hg
        subst hg
        repeat' first
          | refine ⟨?_, ?_⟩
          | refine fun h => absurd h (by decide)
          | refine fun _ => ?_
          | refine ple_ok ?_
        all_goals first
          | trivial
          | rfl
          | (show @Eq Int _ _)
          | (show @Eq Bool _ _)
          | skip
        all_goals try simp only [toNat_pred, toNat_self, cond_true, cond_false, okS, sel, Bool.not_eq_true', Bool.not_eq_false', decide_eq_true_eq, decide_eq_false_iff_not, bne_iff_ne, bne_eq_false_iff_eq, beq_iff_eq, beq_eq_false_iff_ne, ne_eq, ite_eq_left_iff, Decidable.not_not, Bool.and_eq_true, Bool.or_eq_true, Bool.and_eq_false_iff, Bool.or_eq_false_iff, not_and, Bool.not_true, Bool.not_false] at *
        all_goals try simp (disch := omega) only [w64, if_pos, if_neg] at *
        all_goals try simp only [w64e, toNat_pred, toNat_self] at *
        all_goals first
          | trivial
          | omega
          | (split <;> omega)
          | (rw [if_pos (by omega)]; omega)
          | (rw [if_neg (by omega)]; omega)
          | (refine decide_eq_decide.2 ?_; omega)
          | (refine decide_eq_true ?_; omega)
          | (refine decide_eq_false ?_; omega)
          | skip
  · exact h.elim
theorem sf55 : SF Try.prog 55 gcdS := by
  refine sf_of types_ok mixed (l := []) trivial (es := []) trivial 2 Try.func55 rfl (by kernel_rfl) fun args h => ?_
  unfold gcdS at h
  split at h
  · rename_i a b
    have h : gcdP a b := h
    cases h with
    | no h => exact h.elim
    | mk m0 n0 hm hn e e' =>
    subst e e'
    have e : (gcdS [.int .i64 m0, .int .i64 n0]).2 = I (Nat.gcd m0 n0 : Nat) := rfl
    refine ⟨rfl, ?_⟩
    rw [e]
    clear e
    refine .mk ⟨[0, 1], [], fun st => ∃ m n : Nat, m ≤ 1000000000000 ∧ n ≤ 1000000000000 ∧ Nat.gcd m n = Nat.gcd m0 n0 ∧ st = mkSt [(0, I m), (1, I n)] [],
      fun st => (match st.slots 1 with | .int _ k => k.toNat | _ => 0), ?_, ?_⟩
    · refine ⟨_, sle_head [I m0, I n0] [] (pleL_ok (fun _ _ => ple_ok) ?_) .nil, m0, n0, hm, hn, rfl, rfl⟩
      repeat' first
        | refine ⟨?_, ?_⟩
        | refine fun h => absurd h (by decide)
        | refine fun _ => ?_
        | refine ple_ok ?_
      all_goals first
        | trivial
        | rfl
        | (show @Eq Int _ _)
        | (show @Eq Bool _ _)
        | skip
      all_goals try simp only [toNat_pred, toNat_self, cond_true, cond_false, okS, sel, Bool.not_eq_true', Bool.not_eq_false', decide_eq_true_eq, decide_eq_false_iff_not, bne_iff_ne, bne_eq_false_iff_eq, beq_iff_eq, beq_eq_false_iff_ne, ne_eq, ite_eq_left_iff, Decidable.not_not, Bool.and_eq_true, Bool.or_eq_true, Bool.and_eq_false_iff, Bool.or_eq_false_iff, not_and, Bool.not_true, Bool.not_false] at *
      all_goals try simp (disch := omega) only [w64, if_pos, if_neg] at *
      all_goals try simp only [w64e, toNat_pred, toNat_self] at *
      all_goals first
        | trivial
        | omega
        | (split <;> omega)
        | (rw [if_pos (by omega)]; omega)
        | (rw [if_neg (by omega)]; omega)
        | (refine decide_eq_decide.2 ?_; omega)
        | (refine decide_eq_true ?_; omega)
        | (refine decide_eq_false ?_; omega)
        | skip
    · rintro st ⟨m, n, hm, hn, hg, rfl⟩
      refine ⟨fun h2 => ?_, fun h2 => ?_⟩
      · have hn0 : 0 < n := by
          simp only [bne_iff_ne, bne_eq_false_iff_eq, ne_eq, decide_eq_true_eq, decide_eq_false_iff_not, gt_iff_lt, Int.not_lt] at h2
          omega
        have hlt : m % n < n := Nat.mod_lt _ hn0
        clear h2
        repeat' first
          | refine ⟨?_, ?_⟩
          | refine fun h => absurd h (by decide)
          | refine fun _ => ?_
          | refine ple_ok ?_
          | refine Halt.mk ⟨_, sle_head [I n, I (m % n : Nat)] [] (pleL_ok (fun _ _ => ple_ok) ?_) .nil, ⟨n, m % n, ?_, ?_, ?_, rfl⟩, ?_⟩
        all_goals first
          | trivial
          | rfl
          | (show @Eq Int _ _)
          | (show @Eq Bool _ _)
          | skip
        all_goals try simp only [toNat_pred, toNat_self, tmod_nat, cond_true, cond_false, okS, sel, Bool.not_eq_true', Bool.not_eq_false', decide_eq_true_eq, decide_eq_false_iff_not, bne_iff_ne, bne_eq_false_iff_eq, beq_iff_eq, beq_eq_false_iff_ne, ne_eq, ite_eq_left_iff, Decidable.not_not, Bool.and_eq_true, Bool.or_eq_true, Bool.and_eq_false_iff, Bool.or_eq_false_iff, not_and, Bool.not_true, Bool.not_false] at *
        all_goals try simp (disch := omega) only [w64, if_pos, if_neg] at *
        all_goals try simp only [w64e, toNat_pred, toNat_self, tmod_nat] at *
        all_goals first
          | trivial
          | omega
          | (split <;> omega)
          | (rw [if_pos (by omega)]; omega)
          | (rw [if_neg (by omega)]; omega)
          | (refine decide_eq_decide.2 ?_; omega)
          | (refine decide_eq_true ?_; omega)
          | (refine decide_eq_false ?_; omega)
          | exact gcd_step hg
          | exact hlt
          | skip
      · have hn0 : n = 0 := by
          simp only [bne_iff_ne, bne_eq_false_iff_eq, ne_eq, decide_eq_true_eq, decide_eq_false_iff_not, gt_iff_lt, Int.not_lt] at h2
          omega
        subst hn0
        rw [Nat.gcd_zero_right] at hg
        subst hg
        repeat' first
          | refine ⟨?_, ?_⟩
          | refine fun h => absurd h (by decide)
          | refine fun _ => ?_
          | refine ple_ok ?_
        all_goals first
          | trivial
          | rfl
          | (show @Eq Int _ _)
          | (show @Eq Bool _ _)
          | skip
        all_goals try simp only [toNat_pred, toNat_self, cond_true, cond_false, okS, sel, Bool.not_eq_true', Bool.not_eq_false', decide_eq_true_eq, decide_eq_false_iff_not, bne_iff_ne, bne_eq_false_iff_eq, beq_iff_eq, beq_eq_false_iff_ne, ne_eq, ite_eq_left_iff, Decidable.not_not, Bool.and_eq_true, Bool.or_eq_true, Bool.and_eq_false_iff, Bool.or_eq_false_iff, not_and, Bool.not_true, Bool.not_false] at *
        all_goals try simp (disch := omega) only [w64, if_pos, if_neg] at *
        all_goals try simp only [w64e, toNat_pred, toNat_self] at *
        all_goals first
          | trivial
          | omega
          | (split <;> omega)
          | (rw [if_pos (by omega)]; omega)
          | (rw [if_neg (by omega)]; omega)
          | (refine decide_eq_decide.2 ?_; omega)
          | (refine decide_eq_true ?_; omega)
          | (refine decide_eq_false ?_; omega)
          | skip
  · exact h.elim
end Go.Proofs.Ytiidjohhcappdaa
