/- Layer 1: sums of streams. -/
import Derived.Test.YtiidjohhcappdaaS24
import Derived.Test.YtiidjohhcappdaaW2
namespace Go.Proofs.Ytiidjohhcappdaa
open Go.V
set_option linter.unusedSimpArgs false

def addS (x y : Stream) : Stream := ⟨x.m + y.m, x.h + y.h, x.s + y.s, x.g + y.g⟩
def sumS (l : Nat → Stream) : Nat → Stream
  | 0 => zeroS
  | k + 1 => addS (sumS l k) (l k)
abbrev bigS (B : Int) (x : Stream) : Prop := (0 ≤ x.m ∧ x.m ≤ B) ∧ (0 ≤ x.h ∧ x.h ≤ B) ∧ (0 ≤ x.s ∧ x.s ≤ B) ∧ 0 ≤ x.g ∧ x.g ≤ B
theorem sumS_big {l : Nat → Stream} {m : Nat} (hx : ∀ i, i < m → okS (l i)) : ∀ k, k ≤ m → bigS (10000000000 * (k : Int)) (sumS l k)
  | 0, _ => by simp only [bigS, sumS, zeroS]; omega
  | k + 1, hk => by
    have ih := sumS_big hx k (by omega)
    have := hx k (by omega)
    simp only [okS] at this
    simp only [bigS, sumS, addS] at ih ⊢
    omega
def plusS : V.Spec
  | [.agg [.int .i64 a, .int .i64 b, .int .i64 c, .int .i64 d], .agg [.int .i64 a1, .int .i64 b1, .int .i64 c1, .int .i64 d1]] =>
    (none, .agg [I (IntKind.i64.wrap (a + a1)), I (IntKind.i64.wrap (b + b1)), I (IntKind.i64.wrap (c + c1)), I (IntKind.i64.wrap (d + d1))])
  | _ => bad
theorem sf53 : SF Try.prog 53 plusS := by
  refine sf_of types_ok mixed (l := []) trivial (es := []) trivial 2 Try.func53 rfl (by kernel_rfl) fun args h => ?_
  unfold plusS at h
  split at h
  · refine ⟨rfl, ?_⟩
    exact ⟨rfl, .refl _⟩
  · exact h.elim

inductive isSum (m : Nat) (get : Nat → List PV) : Prop
  | mk (l : Nat → Stream) (hm : m ≤ 100) (hx : ∀ i, i < m → okS (l i)) (e : get = fun i => strL (l i))
  | no (h : False)
def sumSS : V.Spec
  | [.slice none m get] => (some (isSum m get), encS (sumS (fun i => strOf (get i)) m))
  | _ => bad
set_option maxRecDepth 20000 in
set_option maxHeartbeats 4000000 in
theorem sf33 : SF Try.prog 33 sumSS := by
  refine sf_of types_ok mixed (l := []) trivial (es := []) trivial 1 Try.func33 rfl (by kernel_rfl) fun args h => ?_
  unfold sumSS at h
  split at h
  · rename_i m get
    have h : isSum m get := h
    cases h with
    | no h => exact h.elim
    | mk l hm hx e =>
    subst e
    have e : (sumSS [.slice none m fun i => strL (l i)]).2 = encS (sumS l m) := rfl
    refine ⟨rfl, ?_⟩
    rw [e]
    clear e
    refine .mk ⟨[0, 2, 3, 4], [2, 3], fun st => ∃ k : Nat, k ≤ m ∧ st = mkSt [(0, .slice none m fun i => strL (l i)), (2, .ptr 2 0), (3, .ptr 3 0), (4, I k)]
        [(2, .cells [I 0, I 0, I 0, I 0]), (3, .cells [I (sumS l k).m, I (sumS l k).h, I (sumS l k).s, I (sumS l k).g])],
      fun st => m - (match st.slots 4 with | .int _ k => k.toNat | _ => 0), ?_, ?_⟩
    · exact ⟨_, sle_head [.slice none m fun i => strL (l i), .ptr 2 0, .ptr 3 0, I (0 : Nat)] [.cells [I 0, I 0, I 0, I 0], .cells [I 0, I 0, I 0, I 0]] (.cons (.refl _) (.cons (.refl _) (.cons (.refl _) (.cons (.refl _) .nil)))) (.cons (.refl _) (.cons (.refl _) .nil)), 0, Nat.zero_le _, rfl⟩
    · rintro st ⟨k, hk, rfl⟩
      refine ⟨fun h4 => ?_, fun h4 => ?_⟩
      · have hlt : k < m := by simpa using h4
        clear h4
        have hb := sumS_big hx k hk
        have hxk := hx k hlt
        simp only [okS] at hxk
        simp only [bigS] at hb
        have e1 : IntKind.i64.wrap ((sumS l k).m + (l k).m) = (sumS l k).m + (l k).m := w64 (by omega) (by omega)
        have e2 : IntKind.i64.wrap ((sumS l k).h + (l k).h) = (sumS l k).h + (l k).h := w64 (by omega) (by omega)
        have e3 : IntKind.i64.wrap ((sumS l k).s + (l k).s) = (sumS l k).s + (l k).s := w64 (by omega) (by omega)
        have e4 : IntKind.i64.wrap ((sumS l k).g + (l k).g) = (sumS l k).g + (l k).g := w64 (by omega) (by omega)
        repeat' first
          | refine ⟨?_, ?_⟩
          | refine fun h => absurd h (by decide)
          | refine fun _ => ?_
          | refine Halt.mk ⟨_, sle_head [.slice none m fun i => strL (l i), .ptr 2 0, .ptr 3 0, I (k + 1 : Nat)] [.cells [I 0, I 0, I 0, I 0], .cells [I (sumS l (k + 1)).m, I (sumS l (k + 1)).h, I (sumS l (k + 1)).s, I (sumS l (k + 1)).g]]
              (.cons (.refl _) (.cons (.refl _) (.cons (.refl _) (.cons (ple_ok ?_) .nil)))) (.cons (.refl _) (.cons (.cellsL (.cons (ple_ok ?_) (.cons (ple_ok ?_) (.cons (ple_ok ?_) (.cons (ple_ok ?_) .nil))))) .nil)), ⟨k + 1, ?_, rfl⟩, ?_⟩
        all_goals first
          | trivial
          | rfl
          | omega
          | exact e1
          | exact e2
          | exact e3
          | exact e4
          | (show IntKind.i64.wrap ((k : Int) + 1) = ((k + 1 : Nat) : Int); rw [w64 (by omega) (by omega)]; omega)
          | (show m - (k + 1) < m - k; omega)
          | skip
      · have : k = m := by
          have h4 : ¬ ((k : Int) < m) := of_decide_eq_false h4
          omega
        subst this
        exact ⟨rfl, .refl _⟩
  · exact h.elim
end Go.Proofs.Ytiidjohhcappdaa
