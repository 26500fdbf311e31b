/- Layer 4: the law on what a pulse tells: all cases. -/
import Derived.Test.YtnjhbmcambofgaaA17g
namespace Go.Proofs.Ytnjhbmcambofgaa
open Go.V
set_option linter.unusedSimpArgs false
set_option linter.unusedVariables false

theorem pulsedA (v : Svy) (x : Int) (hx : 0 ≤ x ∧ x ≤ 18446744073709551615) (a : Int) (ha : 0 ≤ a ∧ a ≤ 255) : SF Try.prog 17 (V.atS [.agg (svyC v), .int .u64 x, .int .u8 a] (.bool true)) := by
  by_cases hn : v.n ≤ 50
  · cases p1 : (svE v != 0) with
    | true => exact pulsedE v x a hn p1
    | false =>
      have p1 : svE v = 0 := by simpa using p1
      cases p2 : (v.lv == -2000000000) with
      | true => exact pulsedL v x a hn p1 p2
      | false =>
        have hok : okV v := svE_ok p1
        obtain ⟨wl, lv, n, s⟩ := v
        have hw := hok.wl
        have hw : 1 ≤ wl ∧ wl ≤ 10 := hw
        obtain ⟨k, rfl⟩ : ∃ k : Nat, wl = (k : Int) := ⟨wl.toNat, by omega⟩
        obtain ⟨a, rfl⟩ : ∃ m : Nat, a = (m : Int) := ⟨a.toNat, by omega⟩
        have hq : (IntKind.i64.wrap (a : Int)).tmod (k : Int) = ((a % k : Nat) : Int) := by
          rw [show IntKind.i64.wrap (a : Int) = (a : Int) from wj (by omega), Int.tmod_eq_emod_of_nonneg ha.1]
          rfl
        have hqk : a % k < k := Nat.mod_lt _ (by omega)
        cases hc : clashB (sv4 k n lv s) with
        | true => exact pulsedC k n lv s x a _ hq hqk hok hn p2 hc
        | false =>
          cases hd : fitsM (sv4 k n lv s) (digit x) with
          | true => exact pulsedD k n lv s x a _ hq hqk hok hn p2 hd
          | false => exact pulsedG k n lv s x a _ hq hqk hok hn p2 hd hc
  · exact pulsedBig v x a (by omega)
end Go.Proofs.Ytnjhbmcambofgaa
