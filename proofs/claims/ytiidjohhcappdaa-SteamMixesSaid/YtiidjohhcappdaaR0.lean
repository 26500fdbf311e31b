/- Small facts for the rows: the shapes of arguments. -/
import Derived.Test.YtiidjohhcappdaaVn
import Derived.Test.YtiidjohhcappdaaS7
namespace Go.Proofs.Ytiidjohhcappdaa
open Go.V Go.RowKit

theorem own : ownKnob Try.prog.godebug = none := by kernel_rfl
theorem laidOut : laidOutB Try.prog = true := by kernel_rfl
def i1 : V.Sh := .int .i64
def sStream : ASh := .agg [i1, i1, i1, i1]
def sTab : ASh := .one (.slice [i1, i1, i1, i1, i1])

theorem good_int {pv : PV} (h : V.Good i1 pv) : ∃ n, pv = .int .i64 n := by
  cases h with
  | int k n h => exact ⟨n, rfl⟩
theorem good_int1 {pv : PV} (h : GoodA (.one i1) pv) : ∃ n, pv = .int .i64 n := by
  cases h with
  | one s pv h => exact good_int h
theorem good_stream {pv : PV} (h : GoodA sStream pv) : ∃ a b c d, pv = .agg [.int .i64 a, .int .i64 b, .int .i64 c, .int .i64 d] := by
  cases h with
  | agg l cs hl hg =>
    match cs, hl, hg with
    | [x, y, z, u], _, hg =>
      obtain ⟨a, ha⟩ := good_int (hg 0 (by decide))
      obtain ⟨b, hb⟩ := good_int (hg 1 (by decide))
      obtain ⟨c, hc⟩ := good_int (hg 2 (by decide))
      obtain ⟨d, hd⟩ := good_int (hg 3 (by decide))
      have ha : x = _ := ha
      have hb : y = _ := hb
      have hc : z = _ := hc
      have hd : u = _ := hd
      subst ha hb hc hd
      exact ⟨a, b, c, d, rfl⟩
theorem good_tab {pv : PV} (h : GoodA sTab pv) : ∃ n get, pv = .slice none n get ∧ n ≤ maxLen ∧ ∀ i, i < n → get i = rowL (rowOf (get i)) := by
  cases h with
  | one s pv h =>
    cases h with
    | slice l n get hn hl hg =>
      refine ⟨n, get, rfl, hn, fun i hi => ?_⟩
      have h5 := hl i hi
      have hg := hg i hi
      match hq : get i, h5 with
      | [x, y, z, u, v], _ =>
        rw [hq] at hg
        obtain ⟨a, ha⟩ := good_int (hg 0 (by decide))
        obtain ⟨b, hb⟩ := good_int (hg 1 (by decide))
        obtain ⟨c, hc⟩ := good_int (hg 2 (by decide))
        obtain ⟨d, hd⟩ := good_int (hg 3 (by decide))
        obtain ⟨e, he⟩ := good_int (hg 4 (by decide))
        have ha : x = _ := ha
        have hb : y = _ := hb
        have hc : z = _ := hc
        have hd : u = _ := hd
        have he : v = _ := he
        subst ha hb hc hd he
        rfl
theorem good_u8 {pv : PV} (h : GoodA (.one (.int .u8)) pv) : ∃ n, pv = .int .u8 n ∧ 0 ≤ n ∧ n ≤ 255 := by
  cases h with
  | one s pv h =>
    cases h with
    | int k n h =>
      have h : (decide (IntKind.u8.min ≤ n) && decide (n ≤ IntKind.u8.max)) = true := h
      rw [Bool.and_eq_true] at h
      exact ⟨n, rfl, of_decide_eq_true h.1, of_decide_eq_true h.2⟩
theorem good_u16 {pv : PV} (h : GoodA (.one (.int .u16)) pv) : ∃ n, pv = .int .u16 n ∧ 0 ≤ n ∧ n ≤ 65535 := by
  cases h with
  | one s pv h =>
    cases h with
    | int k n h =>
      have h : (decide (IntKind.u16.min ≤ n) && decide (n ≤ IntKind.u16.max)) = true := h
      rw [Bool.and_eq_true] at h
      exact ⟨n, rfl, of_decide_eq_true h.1, of_decide_eq_true h.2⟩
theorem good_u32 {pv : PV} (h : GoodA (.one (.int .u32)) pv) : ∃ n, pv = .int .u32 n ∧ 0 ≤ n ∧ n ≤ 4294967295 := by
  cases h with
  | one s pv h =>
    cases h with
    | int k n h =>
      have h : (decide (IntKind.u32.min ≤ n) && decide (n ≤ IntKind.u32.max)) = true := h
      rw [Bool.and_eq_true] at h
      exact ⟨n, rfl, of_decide_eq_true h.1, of_decide_eq_true h.2⟩
/-- A list argument whose elements are as they must be. -/
theorem tab_weak {n : Nat} {get : Nat → List PV} (h : ∀ i, i < n → get i = rowL (rowOf (get i))) : PLe (.slice none n get) (.slice none n fun i => rowL (rowOf (get i))) := .slice _ _ _ _ h
end Go.Proofs.Ytiidjohhcappdaa
