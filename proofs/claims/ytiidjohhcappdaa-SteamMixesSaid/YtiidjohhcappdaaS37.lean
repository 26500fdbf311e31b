/- Layer 1: a part of a stream. -/
import Derived.Test.YtiidjohhcappdaaS36
namespace Go.Proofs.Ytiidjohhcappdaa
open Go.V
set_option linter.unusedSimpArgs false

noncomputable def prtS (x : Stream) (m : Int) : Stream := if x.m = 0 then zeroS else ⟨x.m * m / x.m, x.h * m / x.m, x.s * m / x.m, x.g * m / x.m⟩
inductive isPt (x : Stream) (m : Int) : Prop
  | mk (h : okS x) (hm : 0 ≤ m ∧ m ≤ x.m)
noncomputable def partSS : V.Spec
  | [.agg [.int .i64 a, .int .i64 b, .int .i64 c, .int .i64 d], .int .i64 m] => (some (isPt ⟨a, b, c, d⟩ m), encS (prtS ⟨a, b, c, d⟩ m))
  | _ => bad
def pr (i k : Nat) (a m M : Int) : Int := bif Nat.blt k i then a * m / M else a
theorem prq {a m M B : Int} (ha : 0 ≤ a) (hb : a ≤ 10000 * 1000000) (hm : 0 ≤ m) (hm' : m ≤ 1000000) (hM : 0 < M) : IntKind.i64.wrap ((IntKind.i64.wrap (a * m)).tdiv M) = a * m / M := by
  have h0 : 0 ≤ a * m := Int.mul_nonneg ha hm
  have h1 : a * m ≤ 10000 * 1000000 * 1000000 := Int.mul_le_mul hb hm' hm (by decide)
  have h2 : 0 ≤ a * m / M := Int.ediv_nonneg h0 (by omega)
  have h3 : a * m / M ≤ a * m := Int.ediv_le_self _ h0
  rw [w64 (n := a * m) (by omega) (by omega), Int.tdiv_eq_ediv_of_nonneg h0]
  exact w64 (by omega) (by omega)
def ptSt (a b c d m : Int) (i : Nat) : St := mkSt ([1, 2, 4, 5, 13, 14].zip [I m, .ptr 2 0, .ptr 4 0, .ptr 5 0, .agg [.ptr 5 0, .ptr 5 1, .ptr 5 2, .ptr 5 3], I i]) ([2, 4, 5].zip [.cells [I a, I b, I c, I d], .cells [I 0, I 0, I 0, I 0], .cells [I (pr i 0 a m a), I (pr i 1 b m a), I (pr i 2 c m a), I (pr i 3 d m a)]])
set_option maxRecDepth 20000 in
set_option maxHeartbeats 4000000 in
theorem sf64 : SF Try.prog 64 partSS := by
  refine sf_of types_ok mixed (l := []) trivial (es := [(77, 1000, ef77 1000)]) ⟨se77 1000, trivial⟩ 2 Try.func64 rfl (by kernel_rfl) fun args h => ?_
  unfold partSS at h
  split at h
  · rename_i a b c d m
    have h : isPt ⟨a, b, c, d⟩ m := h
    obtain ⟨⟨h0, h1, h2, h3, h4, h5, h6, h7⟩, hm⟩ := h
    have h0 : 0 ≤ a := h0
    have h1 : a ≤ 1000000 := h1
    have h2 : 0 ≤ b := h2
    have h3 : b ≤ 4000 * a := h3
    have h4 : 0 ≤ c := h4
    have h5 : c ≤ 10000 * a := h5
    have h6 : 0 ≤ d := h6
    have h7 : d ≤ 1000000000 := h7
    have hm : 0 ≤ m ∧ m ≤ a := hm
    have e : (partSS [.agg [.int .i64 a, .int .i64 b, .int .i64 c, .int .i64 d], .int .i64 m]).2 = encS (prtS ⟨a, b, c, d⟩ m) := rfl
    refine ⟨rfl, ?_⟩
    rw [e]
    clear e
    refine ⟨fun hz => ?_, fun hz => ?_⟩
    · have hz : a = 0 := by simpa using hz
      have e : prtS ⟨a, b, c, d⟩ m = zeroS := if_pos hz
      rw [e]
      repeat' first
        | refine ⟨?_, ?_⟩
        | refine ple_ok ?_
      all_goals first
        | trivial
        | rfl
    · have hz : ¬ a = 0 := by simpa using hz
      have e : prtS ⟨a, b, c, d⟩ m = ⟨a * m / a, b * m / a, c * m / a, d * m / a⟩ := if_neg hz
      rw [e]
      have e1 := prq (B := 0) h0 (by omega) hm.1 (by omega) (show 0 < a by omega)
      have e2 := prq (B := 0) h2 (by omega) hm.1 (by omega) (show 0 < a by omega)
      have e3 := prq (B := 0) h4 (by omega) hm.1 (by omega) (show 0 < a by omega)
      have e4 := prq (B := 0) h6 (by omega) hm.1 (by omega) (show 0 < a by omega)
      repeat' first
        | refine ⟨?_, ?_⟩
        | refine Halt.mk ⟨[1, 2, 4, 5, 13, 14], [2, 4, 5], fun st => ∃ i : Nat, i ≤ 4 ∧ st = ptSt a b c d m i, fun st => 4 - (match st.slots 14 with | .int _ k => k.toNat | _ => 0),
            ⟨_, sle_head (live := [1, 2, 4, 5, 13, 14]) (keep := [2, 4, 5]) [I m, .ptr 2 0, .ptr 4 0, .ptr 5 0, .agg [.ptr 5 0, .ptr 5 1, .ptr 5 2, .ptr 5 3], I (0 : Nat)] [.cells [I a, I b, I c, I d], .cells [I 0, I 0, I 0, I 0], .cells [I (pr 0 0 a m a), I (pr 0 1 b m a), I (pr 0 2 c m a), I (pr 0 3 d m a)]]
              (.cons (.refl _) (.cons (.refl _) (.cons (.refl _) (.cons (.refl _) (.cons (.refl _) (.cons (.refl _) .nil)))))) (.cons (.refl _) (.cons (.refl _) (.cons (.refl _) .nil))), 0, by omega, rfl⟩, ?_⟩
      all_goals first
        | trivial
        | rfl
        | skip
      rintro st ⟨i, hi, rfl⟩
      obtain rfl | rfl | rfl | rfl | rfl : i = 0 ∨ i = 1 ∨ i = 2 ∨ i = 3 ∨ i = 4 := by omega
      · refine ⟨fun p1 => ?_, fun p1 => absurd p1 (by decide)⟩
        repeat' first
          | refine ⟨?_, ?_⟩
          | refine Halt.mk ⟨_, sle_head (live := [1, 2, 4, 5, 13, 14]) (keep := [2, 4, 5]) [I m, .ptr 2 0, .ptr 4 0, .ptr 5 0, .agg [.ptr 5 0, .ptr 5 1, .ptr 5 2, .ptr 5 3], I (1 : Nat)] [.cells [I a, I b, I c, I d], .cells [I 0, I 0, I 0, I 0], .cells [I (pr 1 0 a m a), I (pr 1 1 b m a), I (pr 1 2 c m a), I (pr 1 3 d m a)]]
              (.cons (.refl _) (.cons (.refl _) (.cons (.refl _) (.cons (.refl _) (.cons (.refl _) (.cons (.refl _) .nil)))))) (.cons (.refl _) (.cons (.refl _) (.cons (.cellsL (.cons (ple_ok ?_) (.cons (.refl _) (.cons (.refl _) (.cons (.refl _) .nil))))) .nil))), ⟨1, by omega, rfl⟩, ?_⟩
        all_goals first
          | trivial
          | rfl
          | exact hz
          | exact e1
          | (show 4 - 1 < 4 - 0; omega)
          | skip
      · refine ⟨fun p1 => ?_, fun p1 => absurd p1 (by decide)⟩
        repeat' first
          | refine ⟨?_, ?_⟩
          | refine Halt.mk ⟨_, sle_head (live := [1, 2, 4, 5, 13, 14]) (keep := [2, 4, 5]) [I m, .ptr 2 0, .ptr 4 0, .ptr 5 0, .agg [.ptr 5 0, .ptr 5 1, .ptr 5 2, .ptr 5 3], I (2 : Nat)] [.cells [I a, I b, I c, I d], .cells [I 0, I 0, I 0, I 0], .cells [I (pr 2 0 a m a), I (pr 2 1 b m a), I (pr 2 2 c m a), I (pr 2 3 d m a)]]
              (.cons (.refl _) (.cons (.refl _) (.cons (.refl _) (.cons (.refl _) (.cons (.refl _) (.cons (.refl _) .nil)))))) (.cons (.refl _) (.cons (.refl _) (.cons (.cellsL (.cons (.refl _) (.cons (ple_ok ?_) (.cons (.refl _) (.cons (.refl _) .nil))))) .nil))), ⟨2, by omega, rfl⟩, ?_⟩
        all_goals first
          | trivial
          | rfl
          | exact hz
          | exact e2
          | (show 4 - 2 < 4 - 1; omega)
          | skip
      · refine ⟨fun p1 => ?_, fun p1 => absurd p1 (by decide)⟩
        repeat' first
          | refine ⟨?_, ?_⟩
          | refine Halt.mk ⟨_, sle_head (live := [1, 2, 4, 5, 13, 14]) (keep := [2, 4, 5]) [I m, .ptr 2 0, .ptr 4 0, .ptr 5 0, .agg [.ptr 5 0, .ptr 5 1, .ptr 5 2, .ptr 5 3], I (3 : Nat)] [.cells [I a, I b, I c, I d], .cells [I 0, I 0, I 0, I 0], .cells [I (pr 3 0 a m a), I (pr 3 1 b m a), I (pr 3 2 c m a), I (pr 3 3 d m a)]]
              (.cons (.refl _) (.cons (.refl _) (.cons (.refl _) (.cons (.refl _) (.cons (.refl _) (.cons (.refl _) .nil)))))) (.cons (.refl _) (.cons (.refl _) (.cons (.cellsL (.cons (.refl _) (.cons (.refl _) (.cons (ple_ok ?_) (.cons (.refl _) .nil))))) .nil))), ⟨3, by omega, rfl⟩, ?_⟩
        all_goals first
          | trivial
          | rfl
          | exact hz
          | exact e3
          | (show 4 - 3 < 4 - 2; omega)
          | skip
      · refine ⟨fun p1 => ?_, fun p1 => absurd p1 (by decide)⟩
        repeat' first
          | refine ⟨?_, ?_⟩
          | refine Halt.mk ⟨_, sle_head (live := [1, 2, 4, 5, 13, 14]) (keep := [2, 4, 5]) [I m, .ptr 2 0, .ptr 4 0, .ptr 5 0, .agg [.ptr 5 0, .ptr 5 1, .ptr 5 2, .ptr 5 3], I (4 : Nat)] [.cells [I a, I b, I c, I d], .cells [I 0, I 0, I 0, I 0], .cells [I (pr 4 0 a m a), I (pr 4 1 b m a), I (pr 4 2 c m a), I (pr 4 3 d m a)]]
              (.cons (.refl _) (.cons (.refl _) (.cons (.refl _) (.cons (.refl _) (.cons (.refl _) (.cons (.refl _) .nil)))))) (.cons (.refl _) (.cons (.refl _) (.cons (.cellsL (.cons (.refl _) (.cons (.refl _) (.cons (.refl _) (.cons (ple_ok ?_) .nil))))) .nil))), ⟨4, by omega, rfl⟩, ?_⟩
        all_goals first
          | trivial
          | rfl
          | exact hz
          | exact e4
          | (show 4 - 4 < 4 - 3; omega)
          | skip
      · refine ⟨fun p1 => absurd p1 (by decide), fun p1 => ?_⟩
        repeat' first
          | refine ⟨?_, ?_⟩
          | refine ple_ok ?_
        all_goals first
          | trivial
          | rfl
          | skip
  · exact h.elim
end Go.Proofs.Ytiidjohhcappdaa
