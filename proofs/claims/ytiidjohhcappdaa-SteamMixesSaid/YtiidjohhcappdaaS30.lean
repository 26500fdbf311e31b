/- Layer 1: Mix. -/
import Derived.Test.YtiidjohhcappdaaS29
namespace Go.Proofs.Ytiidjohhcappdaa
open Go.V
set_option linter.unusedSimpArgs false

noncomputable def mixE (m : Nat) (l : Nat → Stream) : Int := if chkStr m l = 0 then (if 1000000 < (sumS l m).m ∨ 1000000000 < (sumS l m).g then 3 else 0) else chkStr m l
noncomputable def mixV (m : Nat) (l : Nat → Stream) : Stream := if mixE m l = 0 then sumS l m else zeroS
noncomputable def mixS : V.Spec
  | [.slice none m get] => (some (isStrs m get), .tup [encS (mixV m fun i => strOf (get i)), I (mixE m fun i => strOf (get i))])
  | _ => bad
theorem strOf_strL (x : Stream) : strOf (strL x) = x := rfl
theorem chkStr_0 {m : Nat} {l : Nat → Stream} (h : chkStr m l = 0) : m ≤ 40 ∧ ∀ i, i < m → okS (l i) := by
  unfold chkStr at h
  by_cases hm : 40 < m
  · rw [if_pos (by omega)] at h; exact absurd h (by decide)
  · rw [if_neg (by omega)] at h
    cases hA : allB m fun i => okS (l i) with
    | true => exact ⟨by omega, (allB_get hA).all⟩
    | false => rw [hA] at h; exact absurd (show (1 : Int) = 0 from h) (by decide)
set_option maxRecDepth 20000 in
set_option maxHeartbeats 4000000 in
theorem sf29 : SF Try.prog 29 mixS := by
  refine sf_of types_ok mixed (l := [(60, chkStrS), (61, sumSS)]) ⟨sf60, sf61, trivial⟩ (es := []) trivial 1 Try.func29 rfl (by kernel_rfl) fun args h => ?_
  unfold mixS at h
  split at h
  · rename_i m get
    have h : isStrs m get := h
    cases h with
    | no h => exact h.elim
    | mk l hm e =>
    subst e
    have e : (mixS [.slice none m fun i => strL (l i)]).2 = .tup [encS (mixV m l), I (mixE m l)] := rfl
    refine ⟨rfl, ?_⟩
    rw [e]
    clear e
    refine ⟨.mk l hm rfl, fun h1 => ?_, fun h1 => ?_⟩
    · have h1 : (chkStr m l != 0) = true := h1
      rw [bne_iff_ne] at h1
      have hE : mixE m l = chkStr m l := if_neg h1
      have hV : mixV m l = zeroS := if_neg (by rw [hE]; exact h1)
      rw [hV, hE]
      repeat' first
        | refine ⟨?_, ?_⟩
        | refine fun h => absurd h (by decide)
        | refine ple_ok ?_
      all_goals first
        | trivial
        | rfl
    · have h1 : (chkStr m l != 0) = false := h1
      rw [bne_eq_false_iff_eq] at h1
      obtain ⟨h40, hx⟩ := chkStr_0 h1
      have hsum : isSum m fun i => strL (l i) := .mk l (by omega) hx rfl
      by_cases g1 : 1000000 < (sumS l m).m
      · have hE : mixE m l = 3 := by unfold mixE; rw [if_pos h1, if_pos (.inl g1)]
        have hV : mixV m l = zeroS := if_neg (by rw [hE]; decide)
        have f1 : decide (1000000 < (sumS l m).m) = true := decide_eq_true g1
        rw [hV, hE]
        repeat' first
          | refine ⟨?_, ?_⟩
          | refine fun h => absurd h (by decide)
          | (refine fun h => ?_; exfalso; have h : decide (1000000 < (sumS l m).m) = false := h; rw [f1] at h; cases h; done)
          | (refine fun h => ?_; exfalso; simp only [strOf_strL, f1, cond_true, cond_false, Bool.not_true, Bool.not_false, Bool.not_not, Bool.and_true, Bool.true_and, Bool.and_false, Bool.false_and, Bool.or_true, Bool.true_or, Bool.or_false, Bool.false_or, beq_self_eq_true, bne_self_eq_false, Bool.true_eq_false, Bool.false_eq_true, reduceCtorEq, Bool.and_self, decide_true, decide_false] at h; done)
          | refine fun _ => ?_
          | refine ple_ok ?_
        all_goals first
          | trivial
          | rfl
          | exact hsum
          | skip
      · have f1 : decide (1000000 < (sumS l m).m) = false := decide_eq_false g1
        by_cases g2 : 1000000000 < (sumS l m).g
        · have f2 : decide (1000000000 < (sumS l m).g) = true := decide_eq_true g2
          have hE : mixE m l = 3 := by unfold mixE; rw [if_pos h1, if_pos (.inr g2)]
          have hV : mixV m l = zeroS := if_neg (by rw [hE]; decide)
          rw [hV, hE]
          repeat' first
            | refine ⟨?_, ?_⟩
            | refine fun h => absurd h (by decide)
            | (refine fun h => ?_; exfalso; have h : decide (1000000 < (sumS l m).m) = true := h; rw [f1] at h; cases h; done)
            | (refine fun h => ?_; exfalso; have h : decide (1000000000 < (sumS l m).g) = false := h; rw [f2] at h; cases h; done)
            | (refine fun h => ?_; exfalso; simp only [strOf_strL, f1, f2, cond_true, cond_false, Bool.not_true, Bool.not_false, Bool.not_not, Bool.and_true, Bool.true_and, Bool.and_false, Bool.false_and, Bool.or_true, Bool.true_or, Bool.or_false, Bool.false_or, beq_self_eq_true, bne_self_eq_false, Bool.true_eq_false, Bool.false_eq_true, reduceCtorEq, Bool.and_self, decide_true, decide_false] at h; done)
            | refine fun _ => ?_
            | refine ple_ok ?_
          all_goals first
            | trivial
            | rfl
            | exact hsum
            | skip
        · have f2 : decide (1000000000 < (sumS l m).g) = false := decide_eq_false g2
          have hE : mixE m l = 0 := by unfold mixE; rw [if_pos h1, if_neg (by rintro (h | h) <;> omega)]
          have hV : mixV m l = sumS l m := if_pos hE
          rw [hV, hE]
          repeat' first
            | refine ⟨?_, ?_⟩
            | refine fun h => absurd h (by decide)
            | (refine fun h => ?_; exfalso; have h : decide (1000000 < (sumS l m).m) = true := h; rw [f1] at h; cases h; done)
            | (refine fun h => ?_; exfalso; have h : decide (1000000000 < (sumS l m).g) = true := h; rw [f2] at h; cases h; done)
            | (refine fun h => ?_; exfalso; simp only [strOf_strL, f1, f2, cond_true, cond_false, Bool.not_true, Bool.not_false, Bool.not_not, Bool.and_true, Bool.true_and, Bool.and_false, Bool.false_and, Bool.or_true, Bool.true_or, Bool.or_false, Bool.false_or, beq_self_eq_true, bne_self_eq_false, Bool.true_eq_false, Bool.false_eq_true, reduceCtorEq, Bool.and_self, decide_true, decide_false] at h; done)
            | refine fun _ => ?_
            | refine ple_ok ?_
          all_goals first
            | trivial
            | rfl
            | exact hsum
            | skip
  · exact h.elim
end Go.Proofs.Ytiidjohhcappdaa
