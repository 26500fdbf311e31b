/- Layer 1: valid weights. -/
import Derived.Test.YtiidjohhcappdaaS19
namespace Go.Proofs.Ytiidjohhcappdaa
open Go.V
set_option linter.unusedSimpArgs false

def wtP (n : Nat) (l : Nat → Int) : Prop := 1 ≤ n ∧ n ≤ 20 ∧ Upto (fun i => 0 ≤ l i ∧ l i ≤ 1000) n ∧ 0 < mx l (n - 1)
noncomputable def wtB (n : Nat) (l : Nat → Int) : Bool := @decide (wtP n l) (Classical.propDecidable _)
theorem wtB_t {n : Nat} {l : Nat → Int} (h : wtP n l) : wtB n l = true := @decide_eq_true _ (Classical.propDecidable _) h
theorem wtB_f {n : Nat} {l : Nat → Int} (h : ¬ wtP n l) : wtB n l = false := @decide_eq_false _ (Classical.propDecidable _) h
noncomputable def wtS : V.Spec
  | [.slice none n get] => (some (isInts n get), .bool (wtB n fun i => intOf (get i)))
  | _ => bad
theorem sf62 : SF Try.prog 62 wtS := by
  refine sf_of types_ok mixed (l := [(56, inS), (78, everyWS), (80, maxS)]) ⟨sf56, sf78w, sf80, trivial⟩ (es := []) trivial 1 Try.func62 rfl (by kernel_rfl) fun args h => ?_
  unfold wtS at h
  split at h
  · rename_i n get
    obtain ⟨hn, l, rfl⟩ := isInts.get h
    clear h
    have e : (wtS [.slice none n fun i => intL (l i)]).2 = .bool (wtB n l) := rfl
    refine ⟨rfl, ?_⟩
    rw [e]
    clear e
    refine ⟨fun h1 => ?_, fun h1 => ?_⟩
    · have h1 : ¬ (1 ≤ (n : Int) ∧ (n : Int) ≤ 20) := by simpa only [Bool.not_eq_true', decide_eq_false_iff_not] using h1
      refine ⟨rfl, ple_ok ?_⟩
      show wtB n l = false
      exact wtB_f fun h => h1 ⟨by have := h.1; omega, by have := h.2.1; omega⟩
    · have h1 : 1 ≤ (n : Int) ∧ (n : Int) ≤ 20 := by simpa only [Bool.not_eq_false', decide_eq_true_eq] using h1
      refine ⟨.mk l hn rfl rfl rfl rfl, fun h2 => ?_, fun h2 => ?_⟩
      · have h2 : (!allB n fun i => 0 ≤ l i ∧ l i ≤ 1000) = true := h2
        simp only [Bool.not_eq_true'] at h2
        refine ⟨rfl, ple_ok ?_⟩
        show wtB n l = false
        refine wtB_f fun h => ?_
        rw [allB_t h.2.2.1] at h2
        cases h2
      · have h2 : (!allB n fun i => 0 ≤ l i ∧ l i ≤ 1000) = false := h2
        simp only [Bool.not_eq_false'] at h2
        refine ⟨.mk l (by omega) hn rfl, rfl, ple_ok ?_⟩
        show decide (0 < mx l (n - 1)) = wtB n l
        by_cases hm : 0 < mx l (n - 1)
        · rw [decide_eq_true hm, wtB_t ⟨by omega, by omega, allB_get h2, hm⟩]
        · rw [decide_eq_false hm, wtB_f fun h => hm h.2.2.2]
  · exact h.elim
end Go.Proofs.Ytiidjohhcappdaa
