/- Layer 1: tables handed over. -/
import Derived.Test.YtiidjohhcappdaaS1
namespace Go.Proofs.Ytiidjohhcappdaa
open Go.V

structure Row where
  T : Int
  P : Int
  L : Int
  V : Int
  S : Int
  deriving DecidableEq, Inhabited
def rowL (r : Row) : List PV := [.int .i64 r.T, .int .i64 r.P, .int .i64 r.L, .int .i64 r.V, .int .i64 r.S]
def tab (n : Nat) (t : Nat → Row) : PV := .slice none n fun i => rowL (t i)
inductive isTab (n : Nat) (get : Nat → List PV) : Prop
  | mk (t : Nat → Row) (hn : n < 1000000) (e : get = fun i => rowL (t i))
  | no (h : False)
theorem isTab.get {n : Nat} {get : Nat → List PV} (h : isTab n get) : n < 1000000 ∧ ∃ t : Nat → Row, get = fun i => rowL (t i) := by
  cases h with
  | mk t hn e => exact ⟨hn, t, e⟩
  | no h => exact h.elim

theorem app1_get {α : Type} (get x : Nat → α) (k : Nat) (h : x 0 = get k) (i : Nat) (hi : i < k + 1) : (bif Nat.blt i k then get i else x (i - k)) = get i := by
  by_cases hl : i < k
  · rw [blt_t hl]; rfl
  · obtain rfl : i = k := by omega
    rw [blt_f hl, Nat.sub_self]
    exact h
def tabS : V.Spec
  | [.slice none n get] => (some (isTab n get), .slice none n get)
  | _ => bad

theorem sf19 : SF Try.prog 19 tabS := by
  refine sf_of types_ok mixed (l := []) trivial (es := []) trivial 1 Try.func19 rfl (by kernel_rfl) fun args h => ?_
  unfold tabS at h
  split at h
  · rename_i n get
    obtain ⟨hn, t, rfl⟩ := isTab.get h
    refine ⟨rfl, .mk ⟨[0, 3, 4], [3], fun st => ∃ k : Nat, k ≤ n ∧ st = mkSt [(0, tab n t), (3, .slice (some 3) k fun i => rowL (t i)), (4, .int .i64 k)] [(3, .grow k 113 5)],
      fun st => n - (match st.slots 4 with | .int _ k => k.toNat | _ => 0), ?_, ?_⟩⟩
    · refine ⟨_, sle_head [tab n t, .slice (some 3) 0 fun i => rowL (t i), .int .i64 0] [.grow 0 113 5] ?_ ?_, 0, Nat.zero_le _, rfl⟩
      · exact .cons (.refl _) (.cons (.slice _ _ _ _ fun i hi => by omega) (.cons (.refl _) .nil))
      · exact .cons (.refl _) .nil
    · rintro st ⟨k, hk, rfl⟩
      refine ⟨fun h1 => ?_, fun h1 => ?_⟩
      · have hlt : k < n := by simpa using h1
        refine ⟨⟨by omega, by omega, rfl⟩, ⟨by omega, by omega, rfl⟩, ⟨by omega, by omega, rfl⟩, ⟨by omega, by omega, rfl⟩, ⟨by omega, by omega, rfl⟩, ⟨rfl, by omega, by show (k + 1) * 40 ≤ _; omega, fun _ _ => rfl, fun i hi => ?_⟩, rfl, ?_⟩
        · obtain rfl : i = 0 := by omega
          exact ⟨rfl, rfl⟩
        · refine .mk ⟨_, sle_head [tab n t, .slice (some 3) (k + 1) fun i => rowL (t i), .int .i64 (k + 1 : Nat)] [.grow (k + 1) 113 5] ?_ ?_, ⟨k + 1, by omega, rfl⟩, ?_⟩
          · refine .cons (.refl _) (.cons (.slice _ _ _ _ ?_) (.cons (.int _ _ _ ?_) .nil))
            · intro i hi
              by_cases hl : i < k
              · rw [blt_t hl]; rfl
              · obtain rfl : i = k := by omega
                rw [blt_f hl, Nat.sub_self]
                rfl
            · rw [w64 (by omega) (by omega)]; simp
          · exact .cons (.refl _) .nil
          · show n - (k + 1) < n - k
            omega
      · obtain rfl : k = n := by
          have : ¬ ((k : Int) < n) := of_decide_eq_false h1
          omega
        exact ⟨rfl, .refl _⟩
  · exact h.elim
end Go.Proofs.Ytiidjohhcappdaa
