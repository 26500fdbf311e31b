/- Layer 1: Share. -/
import Derived.Test.YtiidjohhcappdaaM19
namespace Go.Proofs.Ytiidjohhcappdaa
open Go.V
set_option linter.unusedSimpArgs false

noncomputable def shE (x : Stream) (n : Nat) (w : Nat → Int) : Int := if okS x then (bif wtB n w then 0 else 1) else 1
noncomputable def shP (x : Stream) (n : Nat) (w : Nat → Int) (i : Nat) : Stream := prtS x (shMass x.m w n i)
noncomputable def shN (x : Stream) (n : Nat) (w : Nat → Int) : Nat := if shE x n w = 0 then n else 0
noncomputable def shL (x : Stream) (n : Nat) (w : Nat → Int) : PV := if shE x n w = 0 then .agg [I (x.h - (sumS (shP x n w) n).h), I (x.s - (sumS (shP x n w) n).s), I (x.g - (sumS (shP x n w) n).g)] else .agg [I 0, I 0, I 0]
noncomputable def shareS : V.Spec
  | [.agg [.int .i64 a, .int .i64 b, .int .i64 c, .int .i64 d], .slice none n get] => (some (isInts n get), .tup [.slice none (shN ⟨a, b, c, d⟩ n fun i => intOf (get i)) (fun i => strL (shP ⟨a, b, c, d⟩ n (fun i => intOf (get i)) i)), shL ⟨a, b, c, d⟩ n (fun i => intOf (get i)), I (shE ⟨a, b, c, d⟩ n fun i => intOf (get i))])
  | _ => bad
set_option maxRecDepth 20000 in
set_option maxHeartbeats 4000000 in
theorem sf31 : SF Try.prog 31 shareS := by
  refine sf_of types_ok mixed (l := [(22, chkS), (62, wtS), (63, shMS), (64, partSS), (61, sumSS)]) ⟨sf22, sf62, sf63, sf64, sf61, trivial⟩ (es := []) trivial 2 Try.func31 rfl (by kernel_rfl) fun args h => ?_
  unfold shareS at h
  split at h
  · rename_i a b c d n get
    have h : isInts n get := h
    obtain ⟨hn, w, rfl⟩ := isInts.get h
    clear h
    have e : (shareS [.agg [.int .i64 a, .int .i64 b, .int .i64 c, .int .i64 d], .slice none n fun i => intL (w i)]).2 = .tup [.slice none (shN ⟨a, b, c, d⟩ n w) (fun i => strL (shP ⟨a, b, c, d⟩ n w i)), shL ⟨a, b, c, d⟩ n w, I (shE ⟨a, b, c, d⟩ n w)] := rfl
    refine ⟨rfl, ?_⟩
    rw [e]
    clear e
    refine ⟨fun h3 => ?_, fun h3 => ?_⟩
    · have h3 : ((if decide (okS ⟨a, b, c, d⟩) = true then (0 : Int) else 1) != 0) = true := h3
      have hx : ¬ okS ⟨a, b, c, d⟩ := by
        intro hx
        rw [decide_eq_true hx] at h3
        exact absurd h3 (by decide)
      have hE : shE ⟨a, b, c, d⟩ n w = 1 := if_neg hx
      have hN : shN ⟨a, b, c, d⟩ n w = 0 := if_neg (by rw [hE]; decide)
      have hL : shL ⟨a, b, c, d⟩ n w = .agg [I 0, I 0, I 0] := if_neg (by rw [hE]; decide)
      rw [hN, hL, hE]
      refine ⟨rfl, ple_ok ⟨⟨rfl, fun i hi => by omega⟩, ⟨rfl, rfl, rfl, trivial⟩, ?_, trivial⟩⟩
      show (if decide (okS ⟨a, b, c, d⟩) = true then (0 : Int) else 1) = 1
      rw [decide_eq_false hx]; rfl
    · have h3 : ((if decide (okS ⟨a, b, c, d⟩) = true then (0 : Int) else 1) != 0) = false := h3
      have hx : okS ⟨a, b, c, d⟩ := by
        cases hd : decide (okS ⟨a, b, c, d⟩) with
        | true => exact of_decide_eq_true hd
        | false => rw [hd] at h3; exact absurd h3 (by decide)
      clear h3
      refine ⟨.mk w hn rfl, fun h2 => ?_, fun h2 => ?_⟩
      · have h2 : (!wtB n w) = true := h2
        rw [Bool.not_eq_true'] at h2
        have hE : shE ⟨a, b, c, d⟩ n w = 1 := by unfold shE; rw [if_pos hx, h2]; rfl
        have hN : shN ⟨a, b, c, d⟩ n w = 0 := if_neg (by rw [hE]; decide)
        have hL : shL ⟨a, b, c, d⟩ n w = .agg [I 0, I 0, I 0] := if_neg (by rw [hE]; decide)
        rw [hN, hL, hE]
        exact ⟨rfl, ple_ok ⟨⟨rfl, fun i hi => by omega⟩, ⟨rfl, rfl, rfl, trivial⟩, rfl, trivial⟩⟩
      · have h2 : (!wtB n w) = false := h2
        rw [Bool.not_eq_false'] at h2
        have hE : shE ⟨a, b, c, d⟩ n w = 0 := by unfold shE; rw [if_pos hx, h2]; rfl
        have hN : shN ⟨a, b, c, d⟩ n w = n := if_pos hE
        have hL : shL ⟨a, b, c, d⟩ n w = .agg [I (b - (sumS (shP ⟨a, b, c, d⟩ n w) n).h), I (c - (sumS (shP ⟨a, b, c, d⟩ n w) n).s), I (d - (sumS (shP ⟨a, b, c, d⟩ n w) n).g)] := if_pos hE
        have hw := wtB_get h2
        rw [hN, hL, hE]
        have hM : 0 ≤ a ∧ a ≤ 1000000 := ⟨hx.1, hx.2.1⟩
        refine ⟨.mk w hw hM rfl, ?_⟩
        have hp : ∀ i, i < n → okS (shP ⟨a, b, c, d⟩ n w i) := fun i hi => okS_prt hx (sh_bd hw hM hi)
        have hn2 := hw.h2
        refine Halt.mk ⟨[2, 4, 5, 24, 25, 26], [2, 4, 5], fun st => ∃ k : Nat, k ≤ n ∧ st = mkSt ([2, 4, 5, 24, 25, 26].zip [.ptr 2 0, .slice (some 4) k fun i => strL (shP ⟨a, b, c, d⟩ n w i), .ptr 5 0, .slice none n fun i => [I (shMass a w n i)], I n, I k])
            ([2, 4, 5].zip [.cells [I a, I b, I c, I d], .grow k 39 4, .cells [I 0, I 0, I 0]]),
          fun st => n - (match st.slots 26 with | .int _ k => k.toNat | _ => 0), ⟨_, sle_head (live := [2, 4, 5, 24, 25, 26]) (keep := [2, 4, 5]) [.ptr 2 0, .slice (some 4) 0 fun i => strL (shP ⟨a, b, c, d⟩ n w i), .ptr 5 0, .slice none n fun i => [I (shMass a w n i)], I n, I (0 : Nat)] [.cells [I a, I b, I c, I d], .grow 0 39 4, .cells [I 0, I 0, I 0]]
            (.cons (.refl _) (.cons (.slice _ _ _ _ fun i hi => by omega) (.cons (.refl _) (.cons (.refl _) (.cons (.refl _) (.cons (.refl _) .nil)))))) (.cons (.refl _) (.cons (.refl _) (.cons (.refl _) .nil))), 0, Nat.zero_le _, rfl⟩, ?_⟩
        rintro st ⟨k, hk, rfl⟩
        refine ⟨fun h4 => ?_, fun h4 => ?_⟩
        · have hlt : k < n := by simpa using h4
          clear h4
          have ek : IntKind.i64.wrap ((k : Int) + 1) = ((k + 1 : Nat) : Int) := by rw [w64 (by omega) (by omega)]; omega
          have hpt : isPt ⟨a, b, c, d⟩ (shMass a w n k) := ⟨hx, sh_bd hw hM hlt⟩
          repeat' first
            | refine ⟨?_, ?_⟩
            | refine fun h => absurd h (by decide)
            | refine fun _ => ?_
            | refine Halt.mk ⟨_, sle_head (live := [2, 4, 5, 24, 25, 26]) (keep := [2, 4, 5]) [.ptr 2 0, .slice (some 4) (k + 1) fun i => strL (shP ⟨a, b, c, d⟩ n w i), .ptr 5 0, .slice none n fun i => [I (shMass a w n i)], I n, I (k + 1 : Nat)] [.cells [I a, I b, I c, I d], .grow (k + 1) 39 4, .cells [I 0, I 0, I 0]]
                (.cons (.refl _) (.cons (.slice _ _ _ _ fun i hi => ?_) (.cons (.refl _) (.cons (.refl _) (.cons (.refl _) (.cons (ple_ok ek) .nil)))))) (.cons (.refl _) (.cons (.refl _) (.cons (.refl _) .nil))), ⟨k + 1, by omega, rfl⟩, ?_⟩
          all_goals first
            | trivial
            | rfl
            | omega
            | exact hpt
            | exact (sh_bd hw hM hlt).1
            | exact (sh_bd hw hM hlt).2
            | (rename_i i hi; obtain rfl : i = 0 := (by omega); rfl)
            | (show (bif Nat.blt i k then _ else _) = _; by_cases hl : i < k; (· rw [blt_t hl]; rfl); (· obtain rfl : i = k := (by omega); rw [blt_f hl, Nat.sub_self]; rfl))
            | exact Nat.le_refl 1
            | (show (k + 1) * 32 ≤ 140737488355328; omega)
            | (show n - ((k + 1 : Nat) : Int).toNat < n - ((k : Nat) : Int).toNat; omega)
            | skip
        · obtain rfl : n = k := by
            have h4 : ¬ ((k : Int) < n) := of_decide_eq_false h4
            omega
          clear h4
          have hb := sumS_big hp n (Nat.le_refl n)
          have hx' := hx
          simp only [okS] at hx'
          simp only [bigS] at hb
          have v1 : IntKind.i64.wrap (b - (sumS (shP ⟨a, b, c, d⟩ n w) n).h) = b - (sumS (shP ⟨a, b, c, d⟩ n w) n).h := w64 (by omega) (by omega)
          have v2 : IntKind.i64.wrap (c - (sumS (shP ⟨a, b, c, d⟩ n w) n).s) = c - (sumS (shP ⟨a, b, c, d⟩ n w) n).s := w64 (by omega) (by omega)
          have v3 : IntKind.i64.wrap (d - (sumS (shP ⟨a, b, c, d⟩ n w) n).g) = d - (sumS (shP ⟨a, b, c, d⟩ n w) n).g := w64 (by omega) (by omega)
          refine ⟨.mk _ (by omega) hp rfl, ?_⟩
          repeat' first
            | refine ⟨?_, ?_⟩
            | refine fun h => absurd h (by decide)
            | refine fun _ => ?_
            | refine ple_ok ⟨⟨rfl, fun i hi => rfl⟩, ⟨v1, v2, v3, trivial⟩, rfl, trivial⟩
          all_goals first
            | trivial
            | rfl
            | skip
  · exact h.elim
end Go.Proofs.Ytiidjohhcappdaa
