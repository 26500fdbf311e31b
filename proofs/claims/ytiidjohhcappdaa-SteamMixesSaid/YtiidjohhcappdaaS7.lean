/- Layer 1: tables of the program. -/
import Derived.Test.YtiidjohhcappdaaS5
namespace Go.Proofs.Ytiidjohhcappdaa
open Go.V
set_option linter.unusedSimpArgs false

def rowS (p : Row → Bool) : V.Spec
  | [.agg [.int .i64 T, .int .i64 P, .int .i64 L, .int .i64 V, .int .i64 S]] => (none, .bool (p ⟨T, P, L, V, S⟩))
  | _ => bad
def okRS : V.Spec
  | [.agg [.int .i64 T, .int .i64 P, .int .i64 L, .int .i64 V, .int .i64 S]] => (none, .bool (decide (okR ⟨T, P, L, V, S⟩)))
  | _ => bad
abbrev belP (x y : Row) : Prop := x.T < y.T ∧ x.P < y.P ∧ x.L < y.L ∧ x.S ≤ y.S
def belS : V.Spec
  | [.agg [.int .i64 T, .int .i64 P, .int .i64 L, .int .i64 V, .int .i64 S], .agg [.int .i64 T1, .int .i64 P1, .int .i64 L1, .int .i64 V1, .int .i64 S1]] => (none, .bool (decide (belP ⟨T, P, L, V, S⟩ ⟨T1, P1, L1, V1, S1⟩)))
  | _ => bad

set_option maxRecDepth 20000 in
theorem sf74 : SF Try.prog 74 okRS := by
  refine sf_of types_ok mixed (l := [(56, inS)]) ⟨sf56, trivial⟩ (es := []) trivial 1 Try.func74 rfl (by kernel_rfl) fun args h => ?_
  unfold okRS at h
  split at h
  · rename_i T P L V S
    clear h
    refine ⟨rfl, ?_⟩
    repeat' first
      | refine ⟨?_, ?_⟩
      | refine fun h => absurd h (by decide)
      | refine fun _ => ?_
      | refine ple_ok ?_
    all_goals first
      | trivial
      | rfl
      | (show @Eq Int _ _)
      | (show @Eq Bool _ _)
      | skip
    all_goals try simp only [okR, cond_true, cond_false, okS, sel, Bool.not_eq_true', Bool.not_eq_false', decide_eq_true_eq, decide_eq_false_iff_not, bne_iff_ne, bne_eq_false_iff_eq, beq_iff_eq, beq_eq_false_iff_ne, ne_eq, ite_eq_left_iff, Decidable.not_not, Bool.and_eq_true, Bool.or_eq_true, Bool.and_eq_false_iff, Bool.or_eq_false_iff, not_and, Bool.not_true, Bool.not_false] at *
    all_goals try simp (disch := omega) only [w64, if_pos, if_neg] at *
    all_goals try simp only [w64e, okR] at *
    all_goals first
      | trivial
      | omega
      | (split <;> omega)
      | (rw [if_pos (by omega)]; omega)
      | (rw [if_neg (by omega)]; omega)
      | (refine decide_eq_decide.2 ?_; omega)
      | (refine decide_eq_true ?_; omega)
      | (refine decide_eq_false ?_; omega)
      | skip
  · exact h.elim
theorem sf75 : SF Try.prog 75 belS := by
  refine sf_of types_ok mixed (l := []) trivial (es := []) trivial 2 Try.func75 rfl (by kernel_rfl) fun args h => ?_
  unfold belS at h
  split at h
  · rename_i T P L V S T1 P1 L1 V1 S1
    clear h
    refine ⟨rfl, ?_⟩
    repeat' first
      | refine ⟨?_, ?_⟩
      | refine fun h => absurd h (by decide)
      | refine fun _ => ?_
      | refine ple_ok ?_
    all_goals first
      | trivial
      | rfl
      | (show @Eq Int _ _)
      | (show @Eq Bool _ _)
      | skip
    all_goals try simp only [belP, cond_true, cond_false, okS, sel, Bool.not_eq_true', Bool.not_eq_false', decide_eq_true_eq, decide_eq_false_iff_not, bne_iff_ne, bne_eq_false_iff_eq, beq_iff_eq, beq_eq_false_iff_ne, ne_eq, ite_eq_left_iff, Decidable.not_not, Bool.and_eq_true, Bool.or_eq_true, Bool.and_eq_false_iff, Bool.or_eq_false_iff, not_and, Bool.not_true, Bool.not_false] at *
    all_goals try simp (disch := omega) only [w64, if_pos, if_neg] at *
    all_goals try simp only [w64e, belP] at *
    all_goals first
      | trivial
      | omega
      | (split <;> omega)
      | (rw [if_pos (by omega)]; omega)
      | (rw [if_neg (by omega)]; omega)
      | (refine decide_eq_decide.2 ?_; omega)
      | (refine decide_eq_true ?_; omega)
      | (refine decide_eq_false ?_; omega)
      | skip
  · exact h.elim

structure Upto (p : Nat → Prop) (k : Nat) : Prop where
  all : ∀ i, i < k → p i
theorem Upto.zero (p : Nat → Prop) : Upto p 0 := ⟨fun i hi => by omega⟩
theorem Upto.succ {p : Nat → Prop} {k : Nat} (h : Upto p k) (hk : p k) : Upto p (k + 1) :=
  ⟨fun i hi => by
    by_cases e : i = k
    · subst e; exact hk
    · exact h.all i (by omega)⟩
theorem toNat_pred (k : Nat) : ((k : Int) - 1).toNat = k - 1 := by omega
theorem toNat_self (k : Nat) : ((k : Int)).toNat = k := rfl
abbrev okAt (t : Nat → Row) (i : Nat) : Prop := okR (t i) ∧ (0 < i → belP (t (i - 1)) (t i))
def okT (n : Nat) (t : Nat → Row) : Prop := 2 ≤ n ∧ n ≤ 20 ∧ Upto (okAt t) n
noncomputable def okTb (n : Nat) (t : Nat → Row) : Bool := @decide (okT n t) (Classical.propDecidable _)
theorem okTb_t {n : Nat} {t : Nat → Row} (h : okT n t) : okTb n t = true := by
  unfold okTb
  exact @decide_eq_true _ (Classical.propDecidable _) h
theorem okTb_f {n : Nat} {t : Nat → Row} (h : ¬ okT n t) : okTb n t = false := by
  unfold okTb
  exact @decide_eq_false _ (Classical.propDecidable _) h
def rowOf (l : List PV) : Row :=
  match l with
  | [.int .i64 T, .int .i64 P, .int .i64 L, .int .i64 V, .int .i64 S] => ⟨T, P, L, V, S⟩
  | _ => default
noncomputable def okTS : V.Spec
  | [.slice none n get] => (some (isTab n get), .bool (okTb n fun i => rowOf (get i)))
  | _ => bad

set_option maxRecDepth 20000 in
set_option maxHeartbeats 4000000 in
theorem sf59 : SF Try.prog 59 okTS := by
  refine sf_of types_ok mixed (l := [(56, inS), (74, okRS), (75, belS)]) ⟨sf56, sf74, sf75, trivial⟩ (es := []) trivial 1 Try.func59 rfl (by kernel_rfl) fun args h => ?_
  unfold okTS at h
  split at h
  · rename_i n get
    obtain ⟨hn, t, rfl⟩ := isTab.get h
    have e : (okTS [.slice none n fun i => rowL (t i)]).2 = .bool (okTb n t) := rfl
    refine ⟨rfl, ?_⟩
    rw [e]
    clear e
    refine ⟨fun h1 => ?_, fun h1 => ?_⟩
    · refine ⟨rfl, ple_ok ?_⟩
      show okTb n t = false
      refine okTb_f fun h => ?_
      simp only [okT, Bool.not_eq_true', decide_eq_false_iff_not] at h h1
      omega
    · simp only [Bool.not_eq_false', decide_eq_true_eq] at h1
      refine .mk ⟨[0, 9, 10, 11], [], fun st => ∃ k : Nat, k ≤ n ∧ Upto (okAt t) k ∧ st = mkSt [(0, tab n t), (9, tab n t), (10, I n), (11, I k)] [],
        fun st => n - (match st.slots 11 with | .int _ k => k.toNat | _ => 0), ?_, ?_⟩
      · refine ⟨_, sle_head [tab n t, tab n t, I n, I (0 : Nat)] [] (pleL_ok (fun _ _ => ple_ok) ?_) .nil, 0, Nat.zero_le _, .zero _, rfl⟩
        refine ⟨⟨rfl, fun _ _ => rfl⟩, ⟨rfl, fun _ _ => rfl⟩, rfl, rfl, trivial⟩
      · rintro st ⟨k, hk, hu, rfl⟩
        refine ⟨fun h2 => ?_, fun h2 => ?_⟩
        · have hlt : k < n := by simpa using h2
          clear h2
          repeat' first
            | refine ⟨?_, ?_⟩
            | refine fun h => absurd h (by decide)
            | refine fun _ => ?_
            | refine ple_ok ?_
            | refine Halt.mk ⟨_, sle_head [tab n t, tab n t, I n, I (k + 1 : Nat)] [] (pleL_ok (fun _ _ => ple_ok) ?_) .nil, ⟨k + 1, ?_, ?_, rfl⟩, ?_⟩
          all_goals first
            | trivial
            | rfl
            | (show @Eq Int _ _)
            | (show @Eq Bool _ _)
            | skip
          all_goals try simp only [toNat_pred, toNat_self, okR, belP, cond_true, cond_false, okS, sel, Bool.not_eq_true', Bool.not_eq_false', decide_eq_true_eq, decide_eq_false_iff_not, bne_iff_ne, bne_eq_false_iff_eq, beq_iff_eq, beq_eq_false_iff_ne, ne_eq, ite_eq_left_iff, Decidable.not_not, Bool.and_eq_true, Bool.or_eq_true, Bool.and_eq_false_iff, Bool.or_eq_false_iff, not_and, Bool.not_true, Bool.not_false] at *
          all_goals try simp (disch := omega) only [w64, if_pos, if_neg] at *
          all_goals try simp only [w64e, toNat_pred, toNat_self, okR, belP] at *
          all_goals first
            | trivial
            | omega
            | (split <;> omega)
            | (rw [if_pos (by omega)]; omega)
            | (rw [if_neg (by omega)]; omega)
            | (refine decide_eq_decide.2 ?_; omega)
            | (refine decide_eq_true ?_; omega)
            | (refine decide_eq_false ?_; omega)
            | (show n - (k + 1) < n - k; omega)
            | (refine Upto.succ hu ?_; simp only [okAt, okR, belP]; omega)
            | (refine okTb_f fun h => ?_; have hh := h.2.2.all k hlt; simp only [okAt, okR, belP] at hh; omega)
            | skip
        · refine ⟨rfl, ple_ok ?_⟩
          show okTb n t = true
          refine okTb_t ⟨by omega, by omega, ?_⟩
          have : k = n := by
            have := of_decide_eq_false h2
            omega
          exact this ▸ hu
  · exact h.elim

noncomputable def chkTS : V.Spec
  | [.slice none n get] => (some (isTab n get), I (bif okTb n fun i => rowOf (get i) then 0 else 1))
  | _ => bad
theorem rowOf_rowL (r : Row) : rowOf (rowL r) = r := rfl
theorem sf25 : SF Try.prog 25 chkTS := by
  refine sf_of types_ok mixed (l := [(59, okTS)]) ⟨sf59, trivial⟩ (es := []) trivial 1 Try.func25 rfl (by kernel_rfl) fun args h => ?_
  unfold chkTS at h
  split at h
  · rename_i n get
    obtain ⟨hn, t, rfl⟩ := isTab.get h
    clear h
    refine ⟨rfl, ?_⟩
    repeat' first
      | refine ⟨?_, ?_⟩
      | refine fun h => absurd h (by decide)
      | refine fun _ => ?_
      | refine ple_ok ?_
    all_goals first
      | trivial
      | rfl
      | (show @Eq Int _ _)
      | (show @Eq Bool _ _)
      | skip
    all_goals try simp only [toNat_pred, toNat_self, okR, belP, rowOf_rowL, cond_true, cond_false, okS, sel, Bool.not_eq_true', Bool.not_eq_false', decide_eq_true_eq, decide_eq_false_iff_not, bne_iff_ne, bne_eq_false_iff_eq, beq_iff_eq, beq_eq_false_iff_ne, ne_eq, ite_eq_left_iff, Decidable.not_not, Bool.and_eq_true, Bool.or_eq_true, Bool.and_eq_false_iff, Bool.or_eq_false_iff, not_and, Bool.not_true, Bool.not_false] at *
    all_goals try simp (disch := omega) only [w64, if_pos, if_neg] at *
    all_goals try simp only [w64e, toNat_pred, toNat_self, okR, belP, rowOf_rowL] at *
    all_goals first
      | trivial
      | omega
      | (split <;> omega)
      | (rw [if_pos (by omega)]; omega)
      | (rw [if_neg (by omega)]; omega)
      | (refine decide_eq_decide.2 ?_; omega)
      | (refine decide_eq_true ?_; omega)
      | (refine decide_eq_false ?_; omega)
      | exact .mk t hn rfl
      | (simp_all only [cond_true, cond_false])
      | skip

  · exact h.elim
end Go.Proofs.Ytiidjohhcappdaa
