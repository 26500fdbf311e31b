/- Layer 4: the law on plans: all cases. -/
import Derived.Test.YtnjhbmcambofgaaA16d
import Derived.Test.YtnjhbmcambofgaaA16g
namespace Go.Proofs.Ytnjhbmcambofgaa
open Go.V
set_option linter.unusedSimpArgs false
set_option linter.unusedVariables false

theorem plansA (v : Svy) (x : Int) (hx : 0 ≤ x ∧ x ≤ 18446744073709551615) (a : Int) (ha : 0 ≤ a ∧ a ≤ 65535) : SF Try.prog 16 (V.atS [.agg (svyC v), .int .u64 x, .int .u16 a] (.bool true)) := by
  by_cases hn : v.n ≤ 10
  · cases p1 : (svE v != 0) with
    | true => exact plansE v x a hn p1
    | false =>
      have p1 : svE v = 0 := by simpa using p1
      cases p2 : (v.lv == -2000000000) with
      | true => exact plansL v x a hn p1 p2
      | false =>
        have hok : okV v := svE_ok p1
        obtain ⟨wl, lv, n, s⟩ := v
        have hw := hok.wl
        have hw : 1 ≤ wl ∧ wl ≤ 10 := hw
        obtain ⟨k, rfl⟩ : ∃ k : Nat, wl = (k : Int) := ⟨wl.toNat, by omega⟩
        cases hc : clashB (sv4 k n lv s) with
        | true => exact plansC k n lv s x a ha hok hn p2 hc
        | false =>
          cases hd : fitsM (sv4 k n lv s) (digit x) with
          | true => exact plansD k n lv s x a ha hok hn p2 hc hd
          | false => exact plansG k n lv s x a ha hok hn p2 hc hd
  · exact plansBig v x a (by omega)
end Go.Proofs.Ytnjhbmcambofgaa
