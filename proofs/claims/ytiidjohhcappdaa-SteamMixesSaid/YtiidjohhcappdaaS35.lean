/- Layer 1: the ranks. -/
import Derived.Test.YtiidjohhcappdaaS34
namespace Go.Proofs.Ytiidjohhcappdaa
open Go.V
set_option linter.unusedSimpArgs false

def L0 (n : Nat) (q r : Nat → Int) : List (Nat × Blk) := [(4, .grow 0 3 1), (27, .arr n 1 fun i => [I (q i)]), (30, .arr n 1 fun i => [I (r i)])]
def upI (m : Nat) (i : Nat) : Int := bif Nat.blt i m then (i : Int) else 0
def Lz (n : Nat) (q r : Nat → Int) (m : Nat) : List (Nat × Blk) :=
  [(4, .grow 0 3 1), (27, .arr n 1 fun i => [I (q i)]), (30, .arr n 1 fun i => [I (r i)]), (1001, .cells [.own 30 n]), (1002, .grow 0 3 1), (1007, .arr n 1 fun i => [I (upI m i)])]
theorem lz_none {n : Nat} {q r : Nat → Int} {m : Nat} {s : Nat} (h : Off s [4, 27, 30, 1001, 1002, 1007]) : (V.look (Lz n q r m) s).getD .none = .none := by
  obtain ⟨h4, h27, h30, h1001, h1002, h1007, _⟩ := h
  exact look_none h4 (look_none h27 (look_none h30 (look_none h1001 (look_none h1002 (look_none h1007 rfl)))))
theorem l0_none {n : Nat} {q r : Nat → Int} {s : Nat} (h : Off s [4, 27, 30, 1001, 1002, 1007]) : (V.look (L0 n q r) s).getD .none = .none := by
  obtain ⟨h4, h27, h30, _⟩ := h
  exact look_none h4 (look_none h27 (look_none h30 rfl))
def frOrd (n : Nat) (r : Nat → Int) : PV := .slice none n fun i => [I (ordR r n i)]
def F81 (n : Nat) (q r : Nat → Int) : Nat → Blk := fun s => bif Nat.blt s 1000 then pruneB (fun s => Nat.blt s 1000) (bif Nat.blt s 2000 then pruneB (fun s => Nat.blt s 2000) (LbF 3000 n q r (ordR r n) s) else .none) else .none
set_option maxRecDepth 20000 in
set_option maxHeartbeats 4000000 in
theorem e81 {n : Nat} {q r : Nat → Int} {k : PV → (Nat → Blk) → Prop} (hn : n ≤ 20) (h1 : 1 ≤ n) (hk : k (frOrd n r) (F81 n q r)) :
    ef81 [.own 30 n] (fun s => (V.look (L0 n q r) s).getD .none) k := by
  refine ⟨rfl, ?_⟩
  repeat' first
    | refine ⟨?_, ?_⟩
    | refine Halt.mk ⟨[1, 3, 9, 10], [1001, 1002, 1007], fun st => ∃ m : Nat, m ≤ n ∧ st = mkSt ([1, 3, 9, 10].zip [.ptr 1001 0, .own 1007 n, I n, I m]) (Lz n q r m),
      fun st => n - (match st.slots 10 with | .int _ k => k.toNat | _ => 0), ⟨_, sle_headK 1000 [1001, 1002, 1007] (live := [1, 3, 9, 10]) [.ptr 1001 0, .own 1007 n, I n, I (0 : Nat)] (Lz n q r 0) (.cons (.refl _) (.cons (.refl _) (.cons (.refl _) (.cons (.refl _) .nil))))
        (bn_all [4, 27, 30, 1001, 1002, 1007] ⟨.refl _, .refl _, .refl _, .refl _, .refl _, .arr _ _ _ _ fun x hx => rfl, trivial⟩ fun s hs => ble_none (eb_none fun _ => upd_none hs.2.2.2.2.2.1 (upd_none hs.2.2.2.2.1 (upd_none hs.2.2.2.1 (l0_none hs)))) (lz_none hs)), 0, Nat.zero_le _, rfl⟩, ?_⟩
  all_goals first
    | trivial
    | rfl
    | omega
    | (show (8 : Int) * (n : Int) ≤ 140737488355328; omega)
    | skip
  rintro st ⟨m, hm, rfl⟩
  refine ⟨fun h4 => ?_, fun h4 => ?_⟩
  · have hlt : m < n := by simpa using h4
    clear h4
    have em : IntKind.i64.wrap ((m : Int) + 1) = ((m + 1 : Nat) : Int) := by rw [w64 (by omega) (by omega)]; omega
    repeat' first
      | refine ⟨?_, ?_⟩
      | refine fun h => absurd h (by decide)
    all_goals first
      | trivial
      | rfl
      | omega
      | exact Nat.le_refl 1
      | refine Halt.mk ⟨_, sle_headK 1000 [1001, 1002, 1007] (live := [1, 3, 9, 10]) [.ptr 1001 0, .own 1007 n, I n, I (m + 1 : Nat)] (Lz n q r (m + 1)) (.cons (.refl _) (.cons (.refl _) (.cons (.refl _) (.cons (ple_ok em) .nil))))
        (bn_all [4, 27, 30, 1001, 1002, 1007] ⟨.refl _, .refl _, .refl _, .refl _, .refl _, .arr _ _ _ _ fun x hx => ?_, trivial⟩ fun s hs => ble_none (eb_none fun _ => upd_none hs.2.2.2.2.2.1 (lz_none hs)) (lz_none hs)), ⟨m + 1, by omega, rfl⟩, ?_⟩
      | skip
    · show (bif Nat.beq x ((m : Int)).toNat then fillL [I (upI m ((m : Int)).toNat)] 0 [I m] else [I (upI m x)]) = [I (upI (m + 1) x)]
      rw [Int.toNat_natCast]
      unfold upI
      by_cases hx : x = m
      · subst hx
        rw [show Nat.beq x x = true from Nat.beq_refl _, blt_t (show x < x + 1 by omega)]; rfl
      · rw [nb hx]
        by_cases h2 : x < m
        · rw [blt_t h2, blt_t (show x < m + 1 by omega)]; rfl
        · rw [blt_f (show ¬ x < m by omega), blt_f (show ¬ x < m + 1 by omega)]; rfl
    · show n - ((m + 1 : Nat) : Int).toNat < n - ((m : Nat) : Int).toNat
      omega
  · obtain rfl : m = n := by
      have h4 : ¬ ((m : Int) < n) := of_decide_eq_false h4
      omega
    refine ⟨rfl, rfl, rfl, e88 (q := q) (r := r) hn h1 ?_ ?_⟩
    · refine bn_all [4, 27, 30, 1001, 1002, 1007] ⟨.refl _, .refl _, .refl _, .refl _, .refl _, .arr _ _ _ _ fun x hx => ?_, trivial⟩ fun s hs => ble_none (eb_none fun _ => lz_none hs) (lb_none hs)
      show [I (upI _ x)] = [I (x : Nat)]
      unfold upI
      rw [blt_t hx]; rfl
    · have hv : frOrd m r = prune (fun s => Nat.blt s 1000) (bif Nat.ble m m then .slice none m (fun i => [I (ordR r m i)]) else .junk) := by rw [Nat.ble_eq_true_of_le (Nat.le_refl m)]; rfl
      rw [hv] at hk
      exact ⟨rfl, rfl, hk⟩
end Go.Proofs.Ytiidjohhcappdaa
