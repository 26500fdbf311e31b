/- For any two streams and any number, the law on heats answers true: more heat or less, and an exchange, are as the document says, or the error is. No condition. -/
import Derived.Test.YtiidjohhcappdaaR5
import Derived.Test.YtiidjohhcappdaaA5
namespace Go.Proofs.Ytiidjohhcappdaa
open Go.V

theorem good_int {pv : PV} (h : V.Good i1 pv) : ∃ n, pv = .int .i64 n := by
  cases h with
  | int k n h => exact ⟨n, rfl⟩
theorem good_stream {pv : PV} (h : GoodA sStream pv) : ∃ a b c d, pv = .agg [.int .i64 a, .int .i64 b, .int .i64 c, .int .i64 d] := by
  cases h with
  | agg l cs hl hg =>
    match cs, hl, hg with
    | [x, y, z, u], _, hg =>
      obtain ⟨a, ha⟩ := good_int (hg 0 (by decide))
      obtain ⟨b, hb⟩ := good_int (hg 1 (by decide))
      obtain ⟨c, hc⟩ := good_int (hg 2 (by decide))
      obtain ⟨d, hd⟩ := good_int (hg 3 (by decide))
      have ha : x = _ := ha
      have hb : y = _ := hb
      have hc : z = _ := hc
      have hd : u = _ := hd
      subst ha hb hc hd
      exact ⟨a, b, c, d, rfl⟩
theorem steamHeats_holds : Rows.SteamHeatsSaid := by
  refine heats_row sf5 fun pvs h => ?_
  cases h with
  | cons h1 h =>
    cases h with
    | cons h2 h =>
      cases h with
      | cons h3 h =>
        cases h
        obtain ⟨a, b, c, d, rfl⟩ := good_stream h1
        obtain ⟨a1, b1, c1, d1, rfl⟩ := good_stream h2
        cases h3 with
        | one s pv h3 =>
          obtain ⟨k, hk⟩ := good_int h3
          subst hk
          exact ⟨trivial, rfl⟩
#print axioms steamHeats_holds
end Go.Proofs.Ytiidjohhcappdaa
