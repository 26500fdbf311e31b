/- Layer 1: sums of the program. -/
import Derived.Test.YtiidjohhcappdaaS28
namespace Go.Proofs.Ytiidjohhcappdaa
open Go.V
set_option linter.unusedSimpArgs false

def ef77 (off : Nat) : Eff := fun args bl k => args.length = 1 ∧ effBody ⟨types, [], [], off, false, [], [], [], none, false⟩ (Try.f77.body.getD .skip) Try.f77.results.toList args bl k
theorem se77 (off : Nat) : SE Try.prog 77 off (ef77 off) := se_of types_ok mixed (l := []) trivial (es := []) trivial off 1 Try.func77 rfl (by kernel_rfl)
def ef76 : Eff := fun args bl k => args.length = 2 ∧ effBody ⟨types, [], [(77, 2000, ef77 2000)], 1000, false, [], [], [], none, false⟩ (Try.f76.body.getD .skip) Try.f76.results.toList args bl k
theorem se76 : SE Try.prog 76 1000 ef76 := se_of types_ok mixed (l := []) trivial (es := [(77, 2000, ef77 2000)]) ⟨se77 2000, trivial⟩ 1000 2 Try.func76 rfl (by kernel_rfl)

def upTo (i j : Nat) (a b : Int) : Int := bif Nat.blt j i then a + b else a
set_option maxRecDepth 20000 in
set_option maxHeartbeats 4000000 in
theorem sf61 : SF Try.prog 61 sumSS := by
  refine sf_of types_ok mixed (l := []) trivial (es := [(76, 1000, ef76)]) ⟨se76, trivial⟩ 1 Try.func61 rfl (by kernel_rfl) fun args h => ?_
  unfold sumSS at h
  split at h
  · rename_i m get
    have h : isSum m get := h
    cases h with
    | no h => exact h.elim
    | mk l hm hx e =>
    subst e
    have e : (sumSS [.slice none m fun i => strL (l i)]).2 = encS (sumS l m) := rfl
    refine ⟨rfl, ?_⟩
    rw [e]
    clear e
    refine .mk ⟨[2, 3, 4, 8, 9, 10], [2, 3], fun st => ∃ k : Nat, k ≤ m ∧ st = mkSt ([2, 3, 4, 8, 9, 10].zip [.ptr 2 0, .ptr 3 0, .fn (.func 76) [] [.ptr 3 0], .slice none m fun i => strL (l i), I m, I k])
        [(2, .cells [I 0, I 0, I 0, I 0]), (3, .cells [I (sumS l k).m, I (sumS l k).h, I (sumS l k).s, I (sumS l k).g])],
      fun st => m - (match st.slots 10 with | .int _ k => k.toNat | _ => 0), ?_, ?_⟩
    · exact ⟨_, sle_head (live := [2, 3, 4, 8, 9, 10]) [.ptr 2 0, .ptr 3 0, .fn (.func 76) [] [.ptr 3 0], .slice none m fun i => strL (l i), I m, I (0 : Nat)] [.cells [I 0, I 0, I 0, I 0], .cells [I 0, I 0, I 0, I 0]] (.cons (.refl _) (.cons (.refl _) (.cons (.refl _) (.cons (.refl _) (.cons (.refl _) (.cons (.refl _) .nil)))))) (.cons (.refl _) (.cons (.refl _) .nil)), 0, Nat.zero_le _, rfl⟩
    · rintro st ⟨k, hk, rfl⟩
      refine ⟨fun h4 => ?_, fun h4 => ?_⟩
      · have hlt : k < m := by simpa using h4
        clear h4
        have hb := sumS_big hx k hk
        have hxk := hx k hlt
        simp only [okS] at hxk
        simp only [bigS] at hb
        have e1 : IntKind.i64.wrap ((sumS l k).m + (l k).m) = (sumS l k).m + (l k).m := w64 (by omega) (by omega)
        have e2 : IntKind.i64.wrap ((sumS l k).h + (l k).h) = (sumS l k).h + (l k).h := w64 (by omega) (by omega)
        have e3 : IntKind.i64.wrap ((sumS l k).s + (l k).s) = (sumS l k).s + (l k).s := w64 (by omega) (by omega)
        have e4 : IntKind.i64.wrap ((sumS l k).g + (l k).g) = (sumS l k).g + (l k).g := w64 (by omega) (by omega)
        repeat' first
          | refine ⟨?_, ?_⟩
          | refine fun h => absurd h (by decide)
        all_goals first
          | trivial
          | rfl
          | omega
          | skip
        refine Halt.mk ⟨[3, 7, 8], [1002, 1003], fun st => ∃ i : Nat, i ≤ 4 ∧ st = mkSt ([3, 7, 8].zip [.ptr 1003 0, .agg [.ptr 1002 0, .ptr 1002 1, .ptr 1002 2, .ptr 1002 3], I i]) [(2, .cells [I 0, I 0, I 0, I 0]), (3, .cells [I (upTo i 0 (sumS l k).m (l k).m), I (upTo i 1 (sumS l k).h (l k).h), I (upTo i 2 (sumS l k).s (l k).s), I (upTo i 3 (sumS l k).g (l k).g)]), (6, .cells [I (l k).m, I (l k).h, I (l k).s, I (l k).g]), (1002, .cells [I (l k).m, I (l k).h, I (l k).s, I (l k).g]), (1003, .cells [.ptr 3 0, .ptr 3 1, .ptr 3 2, .ptr 3 3])],
          fun st => 4 - (match st.slots 8 with | .int _ k => k.toNat | _ => 0), ?_, ?_⟩
        · refine ⟨_, sle_headK 1000 [1002, 1003] (live := [3, 7, 8]) [.ptr 1003 0, .agg [.ptr 1002 0, .ptr 1002 1, .ptr 1002 2, .ptr 1002 3], I (0 : Nat)] _ (.cons (.refl _) (.cons (.refl _) (.cons (.refl _) .nil))) (bn_all [2, 3, 6, 1002, 1003] ⟨.refl _, .refl _, .refl _, .refl _, .refl _, trivial⟩ ?_), 0, by omega, rfl⟩
          rintro s ⟨h2, h3, h6, h1002, h1003, _⟩
          refine ble_none (cl_none ?_) (look_none h2 (look_none h3 (look_none h6 (look_none h1002 (look_none h1003 rfl)))))
          repeat first
            | refine upd_none h2 ?_
            | refine upd_none h3 ?_
            | refine upd_none h6 ?_
            | refine upd_none h1002 ?_
            | refine upd_none h1003 ?_
            | refine upd_none (show s ≠ 2002 by omega) ?_
            | (refine eb_none fun hb => ?_; have hs : s < 2000 := lt_of_blt hb; clear hb)
          exact look_none h2 (look_none h3 rfl)
        · rintro st ⟨i, hi, rfl⟩
          refine ⟨fun p1 => ?_, fun p1 => ?_⟩
          · have hlt : i < 4 := by
              have p1 : (i : Int) < 4 := of_decide_eq_true p1
              omega
            clear p1
            obtain rfl | rfl | rfl | rfl : i = 0 ∨ i = 1 ∨ i = 2 ∨ i = 3 := by omega
            · repeat' first
                | refine ⟨?_, ?_⟩
                | refine fun h => absurd h (by decide)
                | refine Halt.mk ⟨_, sle_headK 1000 [1002, 1003] (live := [3, 7, 8]) [.ptr 1003 0, .agg [.ptr 1002 0, .ptr 1002 1, .ptr 1002 2, .ptr 1002 3], I (1 : Nat)] [(2, .cells [I 0, I 0, I 0, I 0]), (3, .cells [I (upTo 1 0 (sumS l k).m (l k).m), I (upTo 1 1 (sumS l k).h (l k).h), I (upTo 1 2 (sumS l k).s (l k).s), I (upTo 1 3 (sumS l k).g (l k).g)]), (6, .cells [I (l k).m, I (l k).h, I (l k).s, I (l k).g]), (1002, .cells [I (l k).m, I (l k).h, I (l k).s, I (l k).g]), (1003, .cells [.ptr 3 0, .ptr 3 1, .ptr 3 2, .ptr 3 3])] (.cons (.refl _) (.cons (.refl _) (.cons (ple_ok ?_) .nil))) (bn_all [2, 3, 6, 1002, 1003] ⟨.refl _, .cellsL (.cons (ple_ok ?_) (.cons (ple_ok ?_) (.cons (ple_ok ?_) (.cons (ple_ok ?_) .nil)))), .refl _, .refl _, .refl _, trivial⟩ ?_), ⟨1, by omega, rfl⟩, ?_⟩
              all_goals first
                | trivial
                | rfl
                | exact e1
                | (show 4 - 1 < 4 - 0; omega)
                | skip
              rintro s ⟨h2, h3, h6, h1002, h1003, _⟩
              refine ble_none (cl_none ?_) (look_none h2 (look_none h3 (look_none h6 (look_none h1002 (look_none h1003 rfl)))))
              repeat first
                | refine upd_none h2 ?_
                | refine upd_none h3 ?_
                | refine upd_none h6 ?_
                | refine upd_none h1002 ?_
                | refine upd_none h1003 ?_
                | (refine eb_none fun hb => ?_; have hs : s < 2000 := lt_of_blt hb; clear hb)
              exact look_none h2 (look_none h3 (look_none h6 (look_none h1002 (look_none h1003 rfl))))
            · repeat' first
                | refine ⟨?_, ?_⟩
                | refine fun h => absurd h (by decide)
                | refine Halt.mk ⟨_, sle_headK 1000 [1002, 1003] (live := [3, 7, 8]) [.ptr 1003 0, .agg [.ptr 1002 0, .ptr 1002 1, .ptr 1002 2, .ptr 1002 3], I (2 : Nat)] [(2, .cells [I 0, I 0, I 0, I 0]), (3, .cells [I (upTo 2 0 (sumS l k).m (l k).m), I (upTo 2 1 (sumS l k).h (l k).h), I (upTo 2 2 (sumS l k).s (l k).s), I (upTo 2 3 (sumS l k).g (l k).g)]), (6, .cells [I (l k).m, I (l k).h, I (l k).s, I (l k).g]), (1002, .cells [I (l k).m, I (l k).h, I (l k).s, I (l k).g]), (1003, .cells [.ptr 3 0, .ptr 3 1, .ptr 3 2, .ptr 3 3])] (.cons (.refl _) (.cons (.refl _) (.cons (ple_ok ?_) .nil))) (bn_all [2, 3, 6, 1002, 1003] ⟨.refl _, .cellsL (.cons (ple_ok ?_) (.cons (ple_ok ?_) (.cons (ple_ok ?_) (.cons (ple_ok ?_) .nil)))), .refl _, .refl _, .refl _, trivial⟩ ?_), ⟨2, by omega, rfl⟩, ?_⟩
              all_goals first
                | trivial
                | rfl
                | exact e2
                | (show 4 - 2 < 4 - 1; omega)
                | skip
              rintro s ⟨h2, h3, h6, h1002, h1003, _⟩
              refine ble_none (cl_none ?_) (look_none h2 (look_none h3 (look_none h6 (look_none h1002 (look_none h1003 rfl)))))
              repeat first
                | refine upd_none h2 ?_
                | refine upd_none h3 ?_
                | refine upd_none h6 ?_
                | refine upd_none h1002 ?_
                | refine upd_none h1003 ?_
                | (refine eb_none fun hb => ?_; have hs : s < 2000 := lt_of_blt hb; clear hb)
              exact look_none h2 (look_none h3 (look_none h6 (look_none h1002 (look_none h1003 rfl))))
            · repeat' first
                | refine ⟨?_, ?_⟩
                | refine fun h => absurd h (by decide)
                | refine Halt.mk ⟨_, sle_headK 1000 [1002, 1003] (live := [3, 7, 8]) [.ptr 1003 0, .agg [.ptr 1002 0, .ptr 1002 1, .ptr 1002 2, .ptr 1002 3], I (3 : Nat)] [(2, .cells [I 0, I 0, I 0, I 0]), (3, .cells [I (upTo 3 0 (sumS l k).m (l k).m), I (upTo 3 1 (sumS l k).h (l k).h), I (upTo 3 2 (sumS l k).s (l k).s), I (upTo 3 3 (sumS l k).g (l k).g)]), (6, .cells [I (l k).m, I (l k).h, I (l k).s, I (l k).g]), (1002, .cells [I (l k).m, I (l k).h, I (l k).s, I (l k).g]), (1003, .cells [.ptr 3 0, .ptr 3 1, .ptr 3 2, .ptr 3 3])] (.cons (.refl _) (.cons (.refl _) (.cons (ple_ok ?_) .nil))) (bn_all [2, 3, 6, 1002, 1003] ⟨.refl _, .cellsL (.cons (ple_ok ?_) (.cons (ple_ok ?_) (.cons (ple_ok ?_) (.cons (ple_ok ?_) .nil)))), .refl _, .refl _, .refl _, trivial⟩ ?_), ⟨3, by omega, rfl⟩, ?_⟩
              all_goals first
                | trivial
                | rfl
                | exact e3
                | (show 4 - 3 < 4 - 2; omega)
                | skip
              rintro s ⟨h2, h3, h6, h1002, h1003, _⟩
              refine ble_none (cl_none ?_) (look_none h2 (look_none h3 (look_none h6 (look_none h1002 (look_none h1003 rfl)))))
              repeat first
                | refine upd_none h2 ?_
                | refine upd_none h3 ?_
                | refine upd_none h6 ?_
                | refine upd_none h1002 ?_
                | refine upd_none h1003 ?_
                | (refine eb_none fun hb => ?_; have hs : s < 2000 := lt_of_blt hb; clear hb)
              exact look_none h2 (look_none h3 (look_none h6 (look_none h1002 (look_none h1003 rfl))))
            · repeat' first
                | refine ⟨?_, ?_⟩
                | refine fun h => absurd h (by decide)
                | refine Halt.mk ⟨_, sle_headK 1000 [1002, 1003] (live := [3, 7, 8]) [.ptr 1003 0, .agg [.ptr 1002 0, .ptr 1002 1, .ptr 1002 2, .ptr 1002 3], I (4 : Nat)] [(2, .cells [I 0, I 0, I 0, I 0]), (3, .cells [I (upTo 4 0 (sumS l k).m (l k).m), I (upTo 4 1 (sumS l k).h (l k).h), I (upTo 4 2 (sumS l k).s (l k).s), I (upTo 4 3 (sumS l k).g (l k).g)]), (6, .cells [I (l k).m, I (l k).h, I (l k).s, I (l k).g]), (1002, .cells [I (l k).m, I (l k).h, I (l k).s, I (l k).g]), (1003, .cells [.ptr 3 0, .ptr 3 1, .ptr 3 2, .ptr 3 3])] (.cons (.refl _) (.cons (.refl _) (.cons (ple_ok ?_) .nil))) (bn_all [2, 3, 6, 1002, 1003] ⟨.refl _, .cellsL (.cons (ple_ok ?_) (.cons (ple_ok ?_) (.cons (ple_ok ?_) (.cons (ple_ok ?_) .nil)))), .refl _, .refl _, .refl _, trivial⟩ ?_), ⟨4, by omega, rfl⟩, ?_⟩
              all_goals first
                | trivial
                | rfl
                | exact e4
                | (show 4 - 4 < 4 - 3; omega)
                | skip
              rintro s ⟨h2, h3, h6, h1002, h1003, _⟩
              refine ble_none (cl_none ?_) (look_none h2 (look_none h3 (look_none h6 (look_none h1002 (look_none h1003 rfl)))))
              repeat first
                | refine upd_none h2 ?_
                | refine upd_none h3 ?_
                | refine upd_none h6 ?_
                | refine upd_none h1002 ?_
                | refine upd_none h1003 ?_
                | (refine eb_none fun hb => ?_; have hs : s < 2000 := lt_of_blt hb; clear hb)
              exact look_none h2 (look_none h3 (look_none h6 (look_none h1002 (look_none h1003 rfl))))
          · have : i = 4 := by
              have p1 : ¬ (i : Int) < 4 := of_decide_eq_false p1
              omega
            subst this
            repeat' first
              | refine ⟨?_, ?_⟩
              | refine fun h => absurd h (by decide)
              | refine Halt.mk ⟨_, sle_head (live := [2, 3, 4, 8, 9, 10]) [.ptr 2 0, .ptr 3 0, .fn (.func 76) [] [.ptr 3 0], .slice none m fun i => strL (l i), I m, I (k + 1 : Nat)] [.cells [I 0, I 0, I 0, I 0], .cells [I (sumS l (k + 1)).m, I (sumS l (k + 1)).h, I (sumS l (k + 1)).s, I (sumS l (k + 1)).g]]
                  (.cons (.refl _) (.cons (.refl _) (.cons (.refl _) (.cons (.refl _) (.cons (.refl _) (.cons (ple_ok ?_) .nil)))))) (.cons (.refl _) (.cons (.refl _) .nil)), ⟨k + 1, by omega, rfl⟩, ?_⟩
            all_goals first
              | trivial
              | rfl
              | (show IntKind.i64.wrap ((k : Int) + 1) = ((k + 1 : Nat) : Int); rw [w64 (by omega) (by omega)]; omega)
              | (show m - (k + 1) < m - k; omega)
      · have : k = m := by
          have h4 : ¬ ((k : Int) < m) := of_decide_eq_false h4
          omega
        subst this
        exact ⟨rfl, .refl _⟩
  · exact h.elim
end Go.Proofs.Ytiidjohhcappdaa
