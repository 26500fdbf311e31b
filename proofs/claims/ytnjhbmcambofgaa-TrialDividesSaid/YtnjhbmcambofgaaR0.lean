/- Small facts for the rows: the shapes of arguments. -/
import Derived.Test.YtnjhbmcambofgaaVn
import Derived.Test.YtnjhbmcambofgaaS11
namespace Go.Proofs.Ytnjhbmcambofgaa
open Go.V Go.RowKit

theorem own : ownKnob Try.prog.godebug = none := by kernel_rfl
theorem laidOut : laidOutB Try.prog = true := by kernel_rfl
def i1 : V.Sh := .int .i64
def sTest : ASh := .agg [i1, i1, i1, i1, i1, i1, .slice [i1, i1, i1]]
def sCurve : ASh := .agg [i1, i1, i1]
def sSurvey : ASh := .agg [i1, i1, .slice [i1, i1, i1, i1]]
def sInts : ASh := .one (.slice [i1])

theorem good_int {pv : PV} (h : V.Good i1 pv) : ∃ n, pv = .int .i64 n := by
  cases h with
  | int k n h => exact ⟨n, rfl⟩
theorem good_int1 {pv : PV} (h : GoodA (.one i1) pv) : ∃ n, pv = .int .i64 n := by
  cases h with
  | one s pv h => exact good_int h
theorem good_bool1 {pv : PV} (h : GoodA (.one .bool) pv) : ∃ b, pv = .bool b := by
  cases h with
  | one s pv h =>
    cases h with
    | bool b => exact ⟨b, rfl⟩
theorem good_curve {pv : PV} (h : GoodA sCurve pv) : ∃ a b c, pv = .agg [.int .i64 a, .int .i64 b, .int .i64 c] := by
  cases h with
  | agg l cs hl hg =>
    match cs, hl, hg with
    | [x, y, z], _, hg =>
      obtain ⟨a, ha⟩ := good_int (hg 0 (by decide))
      obtain ⟨b, hb⟩ := good_int (hg 1 (by decide))
      obtain ⟨c, hc⟩ := good_int (hg 2 (by decide))
      have ha : x = _ := ha
      have hb : y = _ := hb
      have hc : z = _ := hc
      subst ha hb hc
      exact ⟨a, b, c, rfl⟩
theorem good_pair {pv : PV} (h : GoodA (.agg [i1, i1]) pv) : ∃ a b, pv = .agg [.int .i64 a, .int .i64 b] := by
  cases h with
  | agg l cs hl hg =>
    match cs, hl, hg with
    | [x, y], _, hg =>
      obtain ⟨a, ha⟩ := good_int (hg 0 (by decide))
      obtain ⟨b, hb⟩ := good_int (hg 1 (by decide))
      have ha : x = _ := ha
      have hb : y = _ := hb
      subst ha hb
      exact ⟨a, b, rfl⟩
theorem good_steps {pv : PV} (h : V.Good (.slice [i1, i1, i1]) pv) : ∃ n get, pv = .slice none n get ∧ n ≤ maxLen ∧ ∀ i, i < n → get i = stpL (stpOf (get i)) := by
  cases h with
  | slice l n get hn hl hg =>
    refine ⟨n, get, rfl, hn, fun i hi => ?_⟩
    have h5 := hl i hi
    have hg := hg i hi
    match hq : get i, h5 with
    | [x, y, z], _ =>
      rw [hq] at hg
      obtain ⟨a, ha⟩ := good_int (hg 0 (by decide))
      obtain ⟨b, hb⟩ := good_int (hg 1 (by decide))
      obtain ⟨c, hc⟩ := good_int (hg 2 (by decide))
      have ha : x = _ := ha
      have hb : y = _ := hb
      have hc : z = _ := hc
      subst ha hb hc
      rfl
theorem good_obs {pv : PV} (h : V.Good (.slice [i1, i1, i1, i1]) pv) : ∃ n get, pv = .slice none n get ∧ n ≤ maxLen ∧ ∀ i, i < n → get i = obsL (obsOf (get i)) := by
  cases h with
  | slice l n get hn hl hg =>
    refine ⟨n, get, rfl, hn, fun i hi => ?_⟩
    have h5 := hl i hi
    have hg := hg i hi
    match hq : get i, h5 with
    | [x, y, z, u], _ =>
      rw [hq] at hg
      obtain ⟨a, ha⟩ := good_int (hg 0 (by decide))
      obtain ⟨b, hb⟩ := good_int (hg 1 (by decide))
      obtain ⟨c, hc⟩ := good_int (hg 2 (by decide))
      obtain ⟨d, hd⟩ := good_int (hg 3 (by decide))
      have ha : x = _ := ha
      have hb : y = _ := hb
      have hc : z = _ := hc
      have hd : u = _ := hd
      subst ha hb hc hd
      rfl
theorem good_ints {pv : PV} (h : GoodA sInts pv) : ∃ n get, pv = .slice none n get ∧ n ≤ maxLen ∧ ∀ i, i < n → get i = intL (intOf (get i)) := by
  cases h with
  | one s pv h =>
    cases h with
    | slice l n get hn hl hg =>
      refine ⟨n, get, rfl, hn, fun i hi => ?_⟩
      have h5 := hl i hi
      have hg := hg i hi
      match hq : get i, h5 with
      | [x], _ =>
        rw [hq] at hg
        obtain ⟨a, ha⟩ := good_int (hg 0 (by decide))
        have ha : x = _ := ha
        subst ha
        rfl
theorem good_test {pv : PV} (h : GoodA sTest pv) : ∃ a1 a2 b1 b2 c1 c2 n get, pv = .agg [.int .i64 a1, .int .i64 a2, .int .i64 b1, .int .i64 b2, .int .i64 c1, .int .i64 c2, .slice none n get] ∧ n ≤ maxLen ∧ ∀ i, i < n → get i = stpL (stpOf (get i)) := by
  cases h with
  | agg l cs hl hg =>
    match cs, hl, hg with
    | [x1, x2, x3, x4, x5, x6, x7], _, hg =>
      obtain ⟨a1, h1⟩ := good_int (hg 0 (by decide))
      obtain ⟨a2, h2⟩ := good_int (hg 1 (by decide))
      obtain ⟨b1, h3⟩ := good_int (hg 2 (by decide))
      obtain ⟨b2, h4⟩ := good_int (hg 3 (by decide))
      obtain ⟨c1, h5⟩ := good_int (hg 4 (by decide))
      obtain ⟨c2, h6⟩ := good_int (hg 5 (by decide))
      obtain ⟨n, get, h7, hn, hget⟩ := good_steps (hg 6 (by decide))
      have h1 : x1 = _ := h1
      have h2 : x2 = _ := h2
      have h3 : x3 = _ := h3
      have h4 : x4 = _ := h4
      have h5 : x5 = _ := h5
      have h6 : x6 = _ := h6
      have h7 : x7 = _ := h7
      subst h1 h2 h3 h4 h5 h6 h7
      exact ⟨a1, a2, b1, b2, c1, c2, n, get, rfl, hn, hget⟩
theorem good_survey {pv : PV} (h : GoodA sSurvey pv) : ∃ wl lv n get, pv = .agg [.int .i64 wl, .int .i64 lv, .slice none n get] ∧ n ≤ maxLen ∧ ∀ i, i < n → get i = obsL (obsOf (get i)) := by
  cases h with
  | agg l cs hl hg =>
    match cs, hl, hg with
    | [x1, x2, x3], _, hg =>
      obtain ⟨a1, h1⟩ := good_int (hg 0 (by decide))
      obtain ⟨a2, h2⟩ := good_int (hg 1 (by decide))
      obtain ⟨n, get, h7, hn, hget⟩ := good_obs (hg 2 (by decide))
      have h1 : x1 = _ := h1
      have h2 : x2 = _ := h2
      have h7 : x3 = _ := h7
      subst h1 h2 h7
      exact ⟨a1, a2, n, get, rfl, hn, hget⟩
theorem good_u8 {pv : PV} (h : GoodA (.one (.int .u8)) pv) : ∃ n, pv = .int .u8 n ∧ 0 ≤ n ∧ n ≤ 255 := by
  cases h with
  | one s pv h =>
    cases h with
    | int k n h =>
      have h : (decide (IntKind.u8.min ≤ n) && decide (n ≤ IntKind.u8.max)) = true := h
      rw [Bool.and_eq_true] at h
      exact ⟨n, rfl, of_decide_eq_true h.1, of_decide_eq_true h.2⟩
theorem good_u16 {pv : PV} (h : GoodA (.one (.int .u16)) pv) : ∃ n, pv = .int .u16 n ∧ 0 ≤ n ∧ n ≤ 65535 := by
  cases h with
  | one s pv h =>
    cases h with
    | int k n h =>
      have h : (decide (IntKind.u16.min ≤ n) && decide (n ≤ IntKind.u16.max)) = true := h
      rw [Bool.and_eq_true] at h
      exact ⟨n, rfl, of_decide_eq_true h.1, of_decide_eq_true h.2⟩
theorem good_u64 {pv : PV} (h : GoodA (.one (.int .u64)) pv) : ∃ n, pv = .int .u64 n ∧ 0 ≤ n ∧ n ≤ 18446744073709551615 := by
  cases h with
  | one s pv h =>
    cases h with
    | int k n h =>
      have h : (decide (IntKind.u64.min ≤ n) && decide (n ≤ IntKind.u64.max)) = true := h
      rw [Bool.and_eq_true] at h
      exact ⟨n, rfl, of_decide_eq_true h.1, of_decide_eq_true h.2⟩
end Go.Proofs.Ytnjhbmcambofgaa
