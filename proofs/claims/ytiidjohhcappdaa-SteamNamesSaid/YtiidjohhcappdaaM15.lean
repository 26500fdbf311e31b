/- Layer 1: a flash keeps all; what it leaves is valid. -/
import Derived.Test.YtiidjohhcappdaaM12
namespace Go.Proofs.Ytiidjohhcappdaa
open Go.V
set_option linter.unusedSimpArgs false

def wat (p : Parts) : Stream := ⟨p.wm, p.wh, p.ws, p.wg⟩
def stm (p : Parts) : Stream := ⟨p.sm, p.sh, p.ss, p.sg⟩
theorem parts_sums (r : Row) (x : Stream) : (partsV r x).sm + (partsV r x).wm = x.m ∧ (partsV r x).sh + (partsV r x).wh = x.h ∧ (partsV r x).ss = 0 ∧ (partsV r x).ws + (partsV r x).scale = x.s ∧ (partsV r x).sg + (partsV r x).wg = x.g := by
  unfold partsV
  split
  · simp only [pMkV]; refine ⟨by omega, by omega, trivial, ?_, by omega⟩; split <;> omega
  · split
    · simp only [pMkV]; refine ⟨by omega, by omega, trivial, ?_, by omega⟩; split <;> omega
    · simp only [pMkV]; refine ⟨by omega, by omega, trivial, ?_, by omega⟩; split <;> omega
theorem parts_ws (r : Row) (x : Stream) : (partsV r x).ws = if (partsV r x).wm * r.S < x.s then (partsV r x).wm * r.S else x.s := by
  unfold partsV
  split
  · rfl
  · split <;> rfl
theorem okS_parts {r : Row} {x : Stream} (hr : okR r) (hx : okS x) : okS (wat (partsV r x)) ∧ okS (stm (partsV r x)) ∧ 0 ≤ (partsV r x).scale ∧ (partsV r x).scale ≤ x.s := by
  have hx' := hx
  have hr' := hr
  simp only [okS] at hx'
  simp only [okR] at hr'
  obtain ⟨k1, k2, k3, k4, k5⟩ := parts_sums r x
  have kw := parts_ws r x
  have hwm : 0 ≤ (partsV r x).wm ∧ (partsV r x).wm ≤ x.m ∧ 0 ≤ (partsV r x).wh ∧ (partsV r x).wh ≤ 4000 * (partsV r x).wm ∧ (partsV r x).sh ≤ 4000 * (partsV r x).sm ∧ 0 ≤ (partsV r x).sh ∧ 0 ≤ (partsV r x).wg ∧ 0 ≤ (partsV r x).sg := by
    rcases flash_ways hr hx with ⟨ws, rs, sc, e, _⟩ | ⟨_, _, ws, sc, e⟩ | ⟨q, ws, rs, sc, e, h1, h2, h3, h4, h5, _⟩
    · rw [e]; simp only; omega
    · rw [e]; simp only; omega
    · rw [e]
      simp only
      have p1 := Int.mul_nonneg (show 0 ≤ q by omega) (show 0 ≤ r.V by omega)
      have p2 := Int.mul_le_mul_of_nonneg_left (show r.V ≤ 4000 by omega) (show 0 ≤ q by omega)
      have p3 := Int.mul_nonneg (show 0 ≤ x.m - q by omega) (show 0 ≤ r.L by omega)
      have p4 : (x.m - q) * r.V = (x.m - q) * r.L + (x.m - q) * (r.V - r.L) := by rw [← Int.mul_add]; congr 1; omega
      have p5 := Int.mul_le_mul_of_nonneg_right (show 1 ≤ x.m - q by omega) (show 0 ≤ r.V - r.L by omega)
      have p6 := Int.mul_le_mul_of_nonneg_left (show r.V ≤ 4000 by omega) (show 0 ≤ x.m - q by omega)
      omega
  have hS := Int.mul_nonneg hwm.1 (show 0 ≤ r.S by omega)
  have hS2 := Int.mul_le_mul_of_nonneg_left (show r.S ≤ 2000 by omega) hwm.1
  simp only [wat, stm, okS]
  split at kw <;> omega
end Go.Proofs.Ytiidjohhcappdaa
