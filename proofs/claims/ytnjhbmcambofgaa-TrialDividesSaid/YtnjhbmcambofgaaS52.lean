/- Layer 4: specs with lists told by their numbers; Survey copied. -/
import Derived.Test.YtnjhbmcambofgaaS42
import Derived.Test.YtnjhbmcambofgaaS27
namespace Go.Proofs.Ytnjhbmcambofgaa
open Go.V
set_option linter.unusedSimpArgs false
set_option linter.unusedVariables false

def svL2S (v : Svy) (k : Nat) (p : Nat → Int) (r : PV) : V.Spec
  | [.agg x, .slice none m g] => (some (x = svyC v ∧ m = k ∧ ∀ i, i < k → g i = intL (p i)), r)
  | _ => bad
theorem sf_svL2 {f : Nat} {v : Svy} {k : Nat} {p : Nat → Int} {r : PV} (h : SF Try.prog f (V.atS [.agg (svyC v), .slice none k fun i => intL (p i)] r)) : SF Try.prog f (svL2S v k p r) := by
  refine sf_args h fun args hx => ?_
  unfold svL2S at hx ⊢
  split at hx
  · rename_i x m g
    obtain ⟨rfl, rfl, hg⟩ : x = svyC v ∧ m = k ∧ ∀ i, i < k → g i = intL (p i) := hx
    refine ⟨[.agg (svyC v), .slice none m fun i => intL (p i)], rfl, fun i hi => ?_, rfl, rfl⟩
    match i, hi with
    | 0, _ => exact .refl _
    | 1, _ => exact .slice _ _ _ _ hg
  · exact hx.elim
def svL3S (v : Svy) (q : Int) (k : Nat) (p : Nat → Int) (r : PV) : V.Spec
  | [.agg x, .int .i64 q', .slice none m g] => (some (x = svyC v ∧ q' = q ∧ m = k ∧ ∀ i, i < k → g i = intL (p i)), r)
  | _ => bad
theorem sf_svL3 {f : Nat} {v : Svy} {q : Int} {k : Nat} {p : Nat → Int} {r : PV} (h : SF Try.prog f (V.atS [.agg (svyC v), I q, .slice none k fun i => intL (p i)] r)) : SF Try.prog f (svL3S v q k p r) := by
  refine sf_args h fun args hx => ?_
  unfold svL3S at hx ⊢
  split at hx
  · rename_i x q' m g
    obtain ⟨rfl, rfl, rfl, hg⟩ : x = svyC v ∧ q' = q ∧ m = k ∧ ∀ i, i < k → g i = intL (p i) := hx
    refine ⟨[.agg (svyC v), I q', .slice none m fun i => intL (p i)], rfl, fun i hi => ?_, rfl, rfl⟩
    match i, hi with
    | 0, _ => exact .refl _
    | 1, _ => exact .refl _
    | 2, _ => exact .slice _ _ _ _ hg
  · exact hx.elim
theorem d43 (v : Svy) (hn : v.n ≤ 1000) : SF Try.prog 43 (V.atS [.agg (svyC v)] (.agg (svyC v))) := sf_at sf43 (show isL obsL v.n _ ∧ v.n ≤ 1000 from ⟨isLo v hn, hn⟩) rfl
end Go.Proofs.Ytnjhbmcambofgaa
