/- Layer 1: what a flash leaves; more heat makes no less steam. -/
import Derived.Test.YtiidjohhcappdaaS12
namespace Go.Proofs.Ytiidjohhcappdaa
open Go.V
set_option linter.unusedSimpArgs false

/-- The three ways of a flash. -/
theorem flash_ways {r : Row} {x : Stream} (hr : okR r) (hx : okS x) :
    (∃ ws rs sc, partsV r x = ⟨0, 0, 0, 0, x.m, x.h, ws, x.g, rs, sc⟩ ∧ 0 ≤ rs ∧ rs < r.V - r.L) ∨
    (0 < x.m ∧ x.m * r.V ≤ x.h ∧ ∃ ws sc, partsV r x = ⟨x.m, x.h, 0, x.g, 0, 0, ws, 0, 0, sc⟩) ∨
    (∃ q ws rs sc, partsV r x = ⟨q, q * r.V, 0, x.g, x.m - q, x.h - q * r.V, ws, 0, rs, sc⟩ ∧ 0 < q ∧ q < x.m ∧ 0 ≤ rs ∧ rs < r.V - r.L ∧ x.h - q * r.V = (x.m - q) * r.L + rs ∧ ws ≤ (x.m - q) * r.S ∧ 0 ≤ ws) := by
  have hr' := hr
  have hx' := hx
  simp only [okR] at hr'
  simp only [okS] at hx'
  have hA : 0 ≤ x.m * r.L := Int.mul_nonneg (by omega) (by omega)
  have eD : x.m * r.V = x.m * r.L + x.m * (r.V - r.L) := by rw [← Int.mul_add]; congr 1; omega
  unfold partsV
  by_cases h1 : x.h ≤ x.m * r.L
  · left
    have e : massR r x = 0 := by unfold massR; rw [if_pos h1]
    rw [if_pos e]
    refine ⟨_, _, _, rfl, ?_⟩
    rw [if_neg (by omega)]
    omega
  · by_cases h2 : x.m * r.V ≤ x.h
    · have e : massR r x = x.m := by unfold massR; rw [if_neg h1, if_pos h2]
      have hm : x.m ≠ 0 := by
        intro h0
        rw [h0] at h1 h2
        have := hx'.2.2.2.1
        rw [h0] at this
        omega
      right; left
      rw [e, if_neg hm, if_pos rfl]
      refine ⟨by omega, h2, (if (0 : Int) * r.S < x.s then 0 * r.S else x.s), x.s - (if (0 : Int) * r.S < x.s then 0 * r.S else x.s), ?_⟩
      unfold pMkV
      rw [if_neg (show ¬ ((0 : Int) - 0 * r.L > 0) by omega)]
    · have hD : 0 < r.V - r.L := by omega
      generalize hg : x.h - x.m * r.L = g at *
      have hg0 : 0 < g := by omega
      have e : massR r x = g / (r.V - r.L) := by
        unfold massR
        rw [if_neg (by omega), if_neg h2, hg, Int.tdiv_eq_ediv_of_nonneg (by omega)]
      have e1 := Int.mul_ediv_add_emod g (r.V - r.L)
      have e2 := Int.emod_nonneg g (show r.V - r.L ≠ 0 by omega)
      have e3 := Int.emod_lt_of_pos g hD
      have hq0 : 0 ≤ g / (r.V - r.L) := Int.ediv_nonneg (by omega) (by omega)
      have hqm : g / (r.V - r.L) < x.m := by
        refine Int.ediv_lt_of_lt_mul hD ?_
        omega
      rw [e]
      generalize hq : g / (r.V - r.L) = q at *
      by_cases h0 : q = 0
      · left
        rw [if_pos h0]
        refine ⟨_, _, _, rfl, ?_⟩
        rw [hg, if_pos hg0]
        rw [h0, Int.mul_zero, Int.zero_add] at e1
        omega
      · right; right
        rw [if_neg h0, if_neg (by omega)]
        have p1 : q * r.V = q * r.L + (r.V - r.L) * q := by rw [Int.mul_comm (r.V - r.L) q, ← Int.mul_add]; congr 1; omega
        have p2 : (x.m - q) * r.L = x.m * r.L - q * r.L := Int.sub_mul ..
        have p3 : 0 ≤ (x.m - q) * r.S := Int.mul_nonneg (by omega) (by omega)
        have ew : x.h - q * r.V - (x.m - q) * r.L = g % (r.V - r.L) := by omega
        refine ⟨q, (if (x.m - q) * r.S < x.s then (x.m - q) * r.S else x.s), g % (r.V - r.L), x.s - (if (x.m - q) * r.S < x.s then (x.m - q) * r.S else x.s), ?_, by omega, hqm, e2, e3, by omega, ?_, ?_⟩
        · unfold pMkV
          congr 1
          rw [ew]
          split <;> omega
        · show (if (x.m - q) * r.S < x.s then (x.m - q) * r.S else x.s) ≤ _
          split <;> omega
        · show 0 ≤ (if (x.m - q) * r.S < x.s then (x.m - q) * r.S else x.s)
          split <;> omega

theorem mass_mono {r : Row} {x y : Stream} (hr : okR r) (hy : okS y) (hm : y.m = x.m) (h : x.h ≤ y.h) : massR r x ≤ massR r y := by
  simp only [okR] at hr
  simp only [okS] at hy
  have hA : 0 ≤ x.m * r.L := Int.mul_nonneg (by omega) (by omega)
  have eD : x.m * r.V = x.m * r.L + x.m * (r.V - r.L) := by rw [← Int.mul_add]; congr 1; omega
  have hD : 0 < r.V - r.L := by omega
  unfold massR
  rw [hm]
  by_cases h1 : x.h ≤ x.m * r.L
  · rw [if_pos h1]
    split
    · omega
    · split
      · omega
      · rw [Int.tdiv_eq_ediv_of_nonneg (by omega)]
        exact Int.ediv_nonneg (by omega) (by omega)
  · rw [if_neg h1, if_neg (show ¬ y.h ≤ x.m * r.L by omega)]
    by_cases h2 : x.m * r.V ≤ x.h
    · rw [if_pos h2, if_pos (by omega)]; omega
    · rw [if_neg h2, Int.tdiv_eq_ediv_of_nonneg (by omega)]
      split
      · have : (x.h - x.m * r.L) / (r.V - r.L) < x.m := Int.ediv_lt_of_lt_mul hD (by omega)
        omega
      · rw [Int.tdiv_eq_ediv_of_nonneg (by omega)]
        exact Int.ediv_le_ediv hD (by omega)
theorem parts_sm (r : Row) (x : Stream) : (partsV r x).sm = massR r x := by
  unfold partsV
  split
  · rename_i h; rw [h]; rfl
  · split
    · rename_i h; rw [h]; rfl
    · rfl
end Go.Proofs.Ytiidjohhcappdaa
