/- Layer 1: weights and parts by the document's words. -/
import Derived.Test.YtiidjohhcappdaaM19
namespace Go.Proofs.Ytiidjohhcappdaa
open Go.V
set_option linter.unusedSimpArgs false

set_option maxRecDepth 20000 in
set_option maxHeartbeats 4000000 in
theorem sf34 : SF Try.prog 34 wtS := by
  refine sf_of types_ok mixed (l := [(27, inS)]) ⟨sf27, trivial⟩ (es := []) trivial 1 Try.func34 rfl (by kernel_rfl) fun args h => ?_
  unfold wtS at h
  split at h
  · rename_i n get
    obtain ⟨hn, w, rfl⟩ := isInts.get h
    clear h
    have e : (wtS [.slice none n fun i => intL (w i)]).2 = .bool (wtB n w) := rfl
    refine ⟨rfl, ?_⟩
    rw [e]
    clear e
    refine .mk ⟨[0, 3, 4], [], fun st => ∃ k : Nat, k ≤ n ∧ Upto (fun i => 0 ≤ w i ∧ w i ≤ 1000) k ∧ st = mkSt ([0, 3, 4].zip [.slice none n fun i => intL (w i), I (sumZ w k), I k]) [],
      fun st => n - (match st.slots 4 with | .int _ k => k.toNat | _ => 0), ⟨_, sle_head (live := [0, 3, 4]) [.slice none n fun i => intL (w i), I 0, I (0 : Nat)] [] (.cons (.refl _) (.cons (.refl _) (.cons (.refl _) .nil))) .nil, 0, Nat.zero_le _, .zero _, rfl⟩, ?_⟩
    rintro st ⟨k, hk, hu, rfl⟩
    refine ⟨fun h2 => ?_, fun h2 => ?_⟩
    · have hlt : k < n := by simpa using h2
      clear h2
      have ek : IntKind.i64.wrap ((k : Int) + 1) = ((k + 1 : Nat) : Int) := by rw [w64 (by omega) (by omega)]; omega
      have hs0 : 0 ≤ sumZ w k := sumZ_nn k fun i hi => (hu.all i hi).1
      have hs1 : sumZ w k ≤ 1000 * k := sumZ_le k fun i hi => (hu.all i hi).2
      refine ⟨⟨by omega, show (k : Int) < n by omega, rfl⟩, fun h3 => ?_, fun h3 => ?_⟩
      · have h3 : (!decide (0 ≤ w k ∧ w k ≤ 1000)) = true := h3
        have h3 : ¬ (0 ≤ w k ∧ w k ≤ 1000) := by rw [Bool.not_eq_true'] at h3; exact of_decide_eq_false h3
        refine ⟨rfl, ple_ok ?_⟩
        show wtB n w = false
        refine wtB_f fun h => h3 ((wt_ok h).w0 k hlt)
      · have h3 : (!decide (0 ≤ w k ∧ w k ≤ 1000)) = false := h3
        have h3 : (0 ≤ w k ∧ w k ≤ 1000) := by rw [Bool.not_eq_false'] at h3; exact of_decide_eq_true h3
        have es : IntKind.i64.wrap (sumZ w k + w k) = sumZ w (k + 1) := w64 (by omega) (by omega)
        refine ⟨⟨by omega, show (k : Int) < n by omega, rfl⟩, Halt.mk ⟨_, sle_head (live := [0, 3, 4]) [.slice none n fun i => intL (w i), I (sumZ w (k + 1)), I (k + 1 : Nat)] [] (.cons (.refl _) (.cons (ple_ok es) (.cons (ple_ok ek) .nil))) .nil, ⟨k + 1, by omega, hu.succ h3, rfl⟩, ?_⟩⟩
        show n - ((k + 1 : Nat) : Int).toNat < n - ((k : Nat) : Int).toNat
        omega
    · obtain rfl : n = k := by
        have h2 : ¬ ((k : Int) < n) := of_decide_eq_false h2
        omega
      clear h2
      refine ⟨fun h3 => ?_, fun h3 => ?_⟩
      · have h3 : ((n : Int) ≤ 20) := of_decide_eq_true h3
        refine ⟨rfl, ple_ok ?_⟩
        show decide (0 < sumZ w n) = wtB n w
        by_cases hp : 0 < sumZ w n
        · have : 1 ≤ n := by
            rcases Nat.eq_zero_or_pos n with h | h
            · subst h; exact absurd hp (Int.lt_irrefl 0)
            · exact h
          rw [decide_eq_true hp, wtB_t (ok_wt ⟨this, by omega, hu.all, hp⟩)]
        · rw [decide_eq_false hp, wtB_f fun h => hp (wt_ok h).pos]
      · have h3 : ¬ ((n : Int) ≤ 20) := of_decide_eq_false h3
        refine ⟨rfl, ple_ok ?_⟩
        show wtB n w = false
        rw [wtB_f fun h => h3 (by have := (wt_ok h).h2; omega)]
  · exact h.elim
inductive isRp (a m M : Int) : Prop
  | mk (h0 : 0 ≤ a) (h1 : a ≤ 10000 * 1000000) (h2 : 0 ≤ m) (h3 : m ≤ 1000000) (h4 : 0 ≤ M)
  | no (h : False)
def rpS : V.Spec
  | [.int .i64 a, .int .i64 m, .int .i64 M] => (some (isRp a m M), I (if M = 0 then 0 else a * m / M))
  | _ => bad
theorem sf65 : SF Try.prog 65 rpS := by
  refine sf_of types_ok mixed (l := []) trivial (es := []) trivial 3 Try.func65 rfl (by kernel_rfl) fun args h => ?_
  unfold rpS at h
  split at h
  · rename_i a m M
    have h : isRp a m M := h
    cases h with
    | no h => exact h.elim
    | mk h0 h1 h2 h3 h4 =>
    refine ⟨rfl, fun hz => ?_, fun hz => ?_⟩
    · have hz : M = 0 := by simpa using hz
      refine ⟨rfl, ple_ok ?_⟩
      show (0 : Int) = if M = 0 then 0 else _
      rw [if_pos hz]
    · have hz : ¬ M = 0 := by simpa using hz
      refine ⟨hz, rfl, ple_ok ?_⟩
      show IntKind.i64.wrap ((IntKind.i64.wrap (a * m)).tdiv M) = if M = 0 then 0 else a * m / M
      rw [if_neg hz, prq (B := 0) h0 h1 h2 h3 (by omega)]
  · exact h.elim
inductive isSameL (n m : Nat) (get get' : Nat → List PV) : Prop
  | mk (l l' : Nat → Stream) (hn : n ≤ 1000) (e : n = m) (hl : ∀ i, i < n → l i = l' i) (e1 : get = fun i => strL (l i)) (e2 : get' = fun i => strL (l' i))
  | no (h : False)
def sameS : V.Spec
  | [.slice none n get, .slice none m get'] => (some (isSameL n m get get'), .bool true)
  | _ => bad
set_option maxRecDepth 20000 in
set_option maxHeartbeats 4000000 in
theorem sf36 : SF Try.prog 36 sameS := by
  refine sf_of types_ok mixed (l := [(23, strS)]) ⟨sf23, trivial⟩ (es := []) trivial 2 Try.func36 rfl (by kernel_rfl) fun args h => ?_
  unfold sameS at h
  split at h
  · rename_i n get m get'
    have h : isSameL n m get get' := h
    cases h with
    | no h => exact h.elim
    | mk l l' hn e hl e1 e2 =>
    subst e e1 e2
    refine ⟨rfl, fun h1 => ?_, fun _ => ?_⟩
    · have h1 : ((n : Int) != (n : Int)) = true := h1
      rw [bne_self_eq_false] at h1; cases h1
    refine .mk ⟨[0, 1, 5], [], fun st => ∃ k : Nat, k ≤ n ∧ st = mkSt ([0, 1, 5].zip [.slice none n fun i => strL (l i), .slice none n fun i => strL (l' i), I k]) [],
      fun st => n - (match st.slots 5 with | .int _ k => k.toNat | _ => 0), ⟨_, sle_head (live := [0, 1, 5]) [.slice none n fun i => strL (l i), .slice none n fun i => strL (l' i), I (0 : Nat)] [] (.cons (.refl _) (.cons (.refl _) (.cons (.refl _) .nil))) .nil, 0, Nat.zero_le _, rfl⟩, ?_⟩
    rintro st ⟨k, hk, rfl⟩
    refine ⟨fun h2 => ?_, fun h2 => ?_⟩
    · have hlt : k < n := by simpa using h2
      clear h2
      have ek : IntKind.i64.wrap ((k : Int) + 1) = ((k + 1 : Nat) : Int) := by rw [w64 (by omega) (by omega)]; omega
      have hlk := hl k hlt
      repeat' first
        | refine ⟨?_, ?_⟩
        | (refine fun h => ?_; exfalso; have h : (!((l k).m == (l' k).m && ((l k).h == (l' k).h && ((l k).s == (l' k).s && ((l k).g == (l' k).g && true))))) = true := h; rw [hlk] at h; simp at h; done)
        | refine fun _ => ?_
        | refine Halt.mk ⟨_, sle_head (live := [0, 1, 5]) [.slice none n fun i => strL (l i), .slice none n fun i => strL (l' i), I (k + 1 : Nat)] [] (.cons (.refl _) (.cons (.refl _) (.cons (ple_ok ek) .nil))) .nil, ⟨k + 1, by omega, rfl⟩, ?_⟩
      all_goals first
        | trivial
        | rfl
        | omega
        | (show n - ((k + 1 : Nat) : Int).toNat < n - ((k : Nat) : Int).toNat; omega)
        | skip
    · exact ⟨rfl, ple_ok rfl⟩
  · exact h.elim
end Go.Proofs.Ytiidjohhcappdaa
