/- Layer 1: the parts of a flash. -/
import Derived.Test.YtiidjohhcappdaaS5
namespace Go.Proofs.Ytiidjohhcappdaa
open Go.V
set_option linter.unusedSimpArgs false

def pMk (r : Row) (x : Stream) (sm sh sg wm wh wg : Int) : PV :=
  .agg [I sm, I sh, I 0, I sg, I wm, I wh, I (if wm * r.S < x.s then wm * r.S else x.s), I wg, I (if wh - wm * r.L > 0 then wh - wm * r.L else 0), I (x.s - (if wm * r.S < x.s then wm * r.S else x.s))]
def partsR (r : Row) (x : Stream) : PV :=
  if massR r x = 0 then pMk r x 0 0 0 x.m x.h x.g else if massR r x = x.m then pMk r x x.m x.h x.g 0 0 0 else pMk r x (massR r x) (massR r x * r.V) x.g (x.m - massR r x) (x.h - massR r x * r.V) 0
def partsS : V.Spec
  | [.agg [.int .i64 T, .int .i64 P, .int .i64 L, .int .i64 V, .int .i64 S, .int .i64 a, .int .i64 b, .int .i64 c, .int .i64 d]] => (some (okR ⟨T, P, L, V, S⟩ ∧ okS ⟨a, b, c, d⟩), partsR ⟨T, P, L, V, S⟩ ⟨a, b, c, d⟩)
  | _ => bad

set_option maxHeartbeats 1000000 in
set_option maxRecDepth 20000 in
theorem sf68 : SF Try.prog 68 partsS := by
  refine sf_of types_ok mixed (l := [(83, massS)]) ⟨sf83, trivial⟩ (es := []) trivial 1 Try.func68 rfl (by kernel_rfl) fun args h => ?_
  unfold partsS at h
  split at h
  · rename_i T P L V S a b c d
    obtain ⟨hr, hx⟩ : okR ⟨T, P, L, V, S⟩ ∧ okS ⟨a, b, c, d⟩ := h
    have hM := massR_le hr hx
    have hS := hr.S' (m := a) hx.1 hx.2.1
    have hL := hr.L (m := a) hx.1 hx.2.1
    have hMV := hr.V' (m := massR ⟨T, P, L, V, S⟩ ⟨a, b, c, d⟩) hM.1 (Int.le_trans hM.2.1 hx.2.1)
    have hS' := hr.S' (m := a - massR ⟨T, P, L, V, S⟩ ⟨a, b, c, d⟩) (Int.sub_nonneg_of_le hM.2.1) (Int.le_trans (Int.sub_le_self _ hM.1) hx.2.1)
    have hL' := hr.L (m := a - massR ⟨T, P, L, V, S⟩ ⟨a, b, c, d⟩) (Int.sub_nonneg_of_le hM.2.1) (Int.le_trans (Int.sub_le_self _ hM.1) hx.2.1)
    simp only [okR, okS] at hr hx hM hS hL hMV hS' hL'
    refine ⟨rfl, ?_⟩
    by_cases h0 : massR ⟨T, P, L, V, S⟩ ⟨a, b, c, d⟩ = 0
    · have e : (partsS [.agg [.int .i64 T, .int .i64 P, .int .i64 L, .int .i64 V, .int .i64 S, .int .i64 a, .int .i64 b, .int .i64 c, .int .i64 d]]).2 = pMk ⟨T, P, L, V, S⟩ ⟨a, b, c, d⟩ 0 0 0 a b d := if_pos h0
      rw [e]
      repeat' first
        | refine ple_ok ?_
        | refine ⟨?_, ?_⟩
        | refine fun _ => ?_
      all_goals first
        | trivial
        | rfl
        | (show @Eq Int _ _)
        | (show @Eq Bool _ _)
        | skip
      all_goals try simp only [okS, sel, Bool.not_eq_true', Bool.not_eq_false', decide_eq_true_eq, decide_eq_false_iff_not, bne_iff_ne, bne_eq_false_iff_eq, beq_iff_eq, beq_eq_false_iff_ne, ne_eq, ite_eq_left_iff, Decidable.not_not, Bool.and_eq_true, Bool.or_eq_true, Bool.and_eq_false_iff, Bool.or_eq_false_iff, not_and, Bool.not_true, Bool.not_false] at *
      all_goals try simp (disch := omega) only [w64, if_pos, if_neg] at *
      all_goals try simp only [w64e] at *
      all_goals first
        | trivial
        | omega
        | (split <;> omega)
        | (rw [if_pos (by omega)]; omega)
        | (rw [if_neg (by omega)]; omega)
        | (refine decide_eq_decide.2 ?_; omega)
        | (refine decide_eq_true ?_; omega)
        | (refine decide_eq_false ?_; omega)
        | skip
    · by_cases h1 : massR ⟨T, P, L, V, S⟩ ⟨a, b, c, d⟩ = a
      · have e : (partsS [.agg [.int .i64 T, .int .i64 P, .int .i64 L, .int .i64 V, .int .i64 S, .int .i64 a, .int .i64 b, .int .i64 c, .int .i64 d]]).2 = pMk ⟨T, P, L, V, S⟩ ⟨a, b, c, d⟩ a b d 0 0 0 := (if_neg h0).trans (if_pos h1)
        rw [e]
        repeat' first
          | refine ple_ok ?_
          | refine ⟨?_, ?_⟩
          | refine fun _ => ?_
        all_goals first
          | trivial
          | rfl
          | (show @Eq Int _ _)
          | (show @Eq Bool _ _)
          | skip
        all_goals try simp only [Int.zero_mul, okS, sel, Bool.not_eq_true', Bool.not_eq_false', decide_eq_true_eq, decide_eq_false_iff_not, bne_iff_ne, bne_eq_false_iff_eq, beq_iff_eq, beq_eq_false_iff_ne, ne_eq, ite_eq_left_iff, Decidable.not_not, Bool.and_eq_true, Bool.or_eq_true, Bool.and_eq_false_iff, Bool.or_eq_false_iff, not_and, Bool.not_true, Bool.not_false] at *
        all_goals try simp (disch := omega) only [w64, if_pos, if_neg] at *
        all_goals try simp only [w64e] at *
        all_goals first
          | trivial
          | omega
          | (split <;> omega)
          | (rw [if_pos (by omega)]; omega)
          | (rw [if_neg (by omega)]; omega)
          | (refine decide_eq_decide.2 ?_; omega)
          | (refine decide_eq_true ?_; omega)
          | (refine decide_eq_false ?_; omega)
          | skip
      · have e : (partsS [.agg [.int .i64 T, .int .i64 P, .int .i64 L, .int .i64 V, .int .i64 S, .int .i64 a, .int .i64 b, .int .i64 c, .int .i64 d]]).2 = pMk ⟨T, P, L, V, S⟩ ⟨a, b, c, d⟩ (massR ⟨T, P, L, V, S⟩ ⟨a, b, c, d⟩) (massR ⟨T, P, L, V, S⟩ ⟨a, b, c, d⟩ * V) d (a - massR ⟨T, P, L, V, S⟩ ⟨a, b, c, d⟩) (b - massR ⟨T, P, L, V, S⟩ ⟨a, b, c, d⟩ * V) 0 := (if_neg h0).trans (if_neg h1)
        rw [e]
        repeat' first
          | refine ple_ok ?_
          | refine ⟨?_, ?_⟩
          | refine fun _ => ?_
        all_goals first
          | trivial
          | rfl
          | (show @Eq Int _ _)
          | (show @Eq Bool _ _)
          | skip
        all_goals try simp only [okS, sel, Bool.not_eq_true', Bool.not_eq_false', decide_eq_true_eq, decide_eq_false_iff_not, bne_iff_ne, bne_eq_false_iff_eq, beq_iff_eq, beq_eq_false_iff_ne, ne_eq, ite_eq_left_iff, Decidable.not_not, Bool.and_eq_true, Bool.or_eq_true, Bool.and_eq_false_iff, Bool.or_eq_false_iff, not_and, Bool.not_true, Bool.not_false] at *
        all_goals try simp (disch := omega) only [w64, if_pos, if_neg] at *
        all_goals try simp only [w64e] at *
        all_goals first
          | trivial
          | omega
          | (split <;> omega)
          | (rw [if_pos (by omega)]; omega)
          | (rw [if_neg (by omega)]; omega)
          | (refine decide_eq_decide.2 ?_; omega)
          | (refine decide_eq_true ?_; omega)
          | (refine decide_eq_false ?_; omega)
          | skip
  · exact h.elim
end Go.Proofs.Ytiidjohhcappdaa
