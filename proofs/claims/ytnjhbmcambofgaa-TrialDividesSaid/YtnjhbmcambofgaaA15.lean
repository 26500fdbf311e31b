/- Layer 4: the law on divisions: all cases. -/
import Derived.Test.YtnjhbmcambofgaaA15f
import Derived.Test.YtnjhbmcambofgaaA15t
namespace Go.Proofs.Ytnjhbmcambofgaa
open Go.V
set_option linter.unusedSimpArgs false
set_option linter.unusedVariables false

theorem firstN_cases (f : Nat → Bool) : ∀ n, firstN f n = -1 ∨ ∃ i : Nat, firstN f n = (i : Int) ∧ i < n
  | 0 => .inl rfl
  | n + 1 => by
    unfold firstN
    rcases firstN_cases f n with h | ⟨i, h, hi⟩
    · rw [h]
      cases f n with
      | true => exact .inr ⟨n, rfl, Nat.lt_succ_self n⟩
      | false => exact .inl rfl
    · rw [h]
      have : decide ((0 : Int) ≤ (i : Int)) = true := decide_eq_true (by omega)
      rw [this]
      exact .inr ⟨i, rfl, by omega⟩
theorem dividesA (v : Svy) (x : Int) (hx : 0 ≤ x ∧ x ≤ 18446744073709551615) : SF Try.prog 15 (V.atS [.agg (svyC v), .int .u64 x] (.bool true)) := by
  by_cases hn : v.n ≤ 70
  · cases p1 : (svE v != 0) with
    | true => exact dividesE v x hn p1
    | false =>
      have hok : okV v := svE_ok (by simpa using p1)
      have hw := hok.wl
      obtain ⟨wl, lv, n, s⟩ := v
      have hw : 1 ≤ wl ∧ wl ≤ 10 := hw
      obtain ⟨k, rfl⟩ : ∃ k : Nat, wl = (k : Int) := ⟨wl.toNat, by omega⟩
      rcases firstN_cases (clC (sv4 k n lv s)) n with h | ⟨i, h, hi⟩
      · cases hd : fitsM (sv4 k n lv s) (digit x) with
        | true => exact dividesT k n lv s x hok hn h hd
        | false => exact dividesF k n lv s x hok hn h hd
      · exact dividesC k n lv s x hok hn i h hi
  · exact dividesBig v x (by omega)
end Go.Proofs.Ytnjhbmcambofgaa
