/- Layer 1: more heat and more silica make no less scale. -/
import Derived.Test.YtiidjohhcappdaaM12
namespace Go.Proofs.Ytiidjohhcappdaa
open Go.V

theorem parts_wm (r : Row) (x : Stream) : (partsV r x).wm = x.m - massR r x := by
  unfold partsV
  split
  · rename_i h; rw [h]; show x.m = x.m - 0; omega
  · split
    · rename_i h; rw [h]; show (0 : Int) = x.m - x.m; omega
    · rfl
theorem pmk_scale (r : Row) (x : Stream) (sm sh sg wm wh wg : Int) : (pMkV r x sm sh sg wm wh wg).scale = if wm * r.S < x.s then x.s - wm * r.S else 0 := by
  show x.s - (if wm * r.S < x.s then wm * r.S else x.s) = _
  split <;> omega
theorem parts_scale (r : Row) (x : Stream) : (partsV r x).scale = if (x.m - massR r x) * r.S < x.s then x.s - (x.m - massR r x) * r.S else 0 := by
  unfold partsV
  split
  · rename_i h; rw [pmk_scale, h, Int.sub_zero]
  · split
    · rename_i h; rw [pmk_scale, h, Int.sub_self]
    · rw [pmk_scale]
theorem scale_mono {r : Row} {x y : Stream} (hr : okR r) (hy : okS y) (hm : y.m = x.m) (h : x.h ≤ y.h) (hs : x.s ≤ y.s) : (partsV r x).scale ≤ (partsV r y).scale := by
  have h1 := mass_mono hr hy hm h
  rw [parts_scale, parts_scale, hm]
  have h2 : (x.m - massR r y) * r.S ≤ (x.m - massR r x) * r.S := Int.mul_le_mul_of_nonneg_right (by omega) (by simp only [okR] at hr; omega)
  split <;> split <;> omega
end Go.Proofs.Ytiidjohhcappdaa
