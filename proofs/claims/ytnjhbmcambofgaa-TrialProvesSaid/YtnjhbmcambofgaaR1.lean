/- The shape of a list of pairs. -/
import Derived.Test.YtnjhbmcambofgaaR0
import Derived.Test.YtnjhbmcambofgaaS25
namespace Go.Proofs.Ytnjhbmcambofgaa
open Go.V Go.RowKit
theorem good_pairs {pv : PV} (h : GoodA (.one (.slice [i1, i1])) pv) : ∃ n get, pv = .slice none n get ∧ n ≤ maxLen ∧ ∀ i, i < n → get i = pairL (pairOf (get i)) := by
  cases h with
  | one s pv h =>
    cases h with
    | slice l n get hn hl hg =>
      refine ⟨n, get, rfl, hn, fun i hi => ?_⟩
      have h5 := hl i hi
      have hg := hg i hi
      match hq : get i, h5 with
      | [x, y], _ =>
        rw [hq] at hg
        obtain ⟨a, ha⟩ := good_int (hg 0 (by decide))
        obtain ⟨b, hb⟩ := good_int (hg 1 (by decide))
        have ha : x = _ := ha
        have hb : y = _ := hb
        subst ha hb
        rfl
end Go.Proofs.Ytnjhbmcambofgaa
