/- Layer 1: the sort, and the ranks. -/
import Derived.Test.YtiidjohhcappdaaS33
namespace Go.Proofs.Ytiidjohhcappdaa
open Go.V
set_option linter.unusedSimpArgs false

theorem lb_none {n : Nat} {q r : Nat → Int} {o : Nat → Nat} {s : Nat} (h : Off s [4, 27, 30, 1001, 1002, 1007]) : (V.look (Lb n q r o) s).getD .none = .none := by
  obtain ⟨h4, h27, h30, h1001, h1002, h1007, _⟩ := h
  exact look_none h4 (look_none h27 (look_none h30 (look_none h1001 (look_none h1002 (look_none h1007 rfl)))))
set_option maxRecDepth 20000 in
set_option maxHeartbeats 4000000 in
theorem e90n {n : Nat} {q r : Nat → Int} {o : Nat → Nat} {bl : Nat → Blk} {k : PV → (Nat → Blk) → Prop} (hn : n ≤ 20)
    (hb : ∀ s, BLe (kq 4000 bl s) ((V.look (Lb n q r o) s).getD .none)) (hk : k (.tup []) (LbF 4000 n q r o)) :
    ef90 [.own 1007 n, I n, I n, .fn (.func 86) [] [.ptr 1001 0]] bl k := by
  refine ⟨rfl, ?_⟩
  have e1 : IntKind.i64.wrap ((n : Int) + 1) = (n : Int) + 1 := w64 (by omega) (by omega)
  refine Halt.mk ⟨[0, 1, 2, 3, 8], [], fun st => st = mkSt ([0, 1, 2, 3, 8].zip [.own 1007 n, I n, I n, .fn (.func 86) [] [.ptr 1001 0], I ((n : Int) + 1)]) (Lb n q r o),
      fun st => 0, ?_, ?_⟩
  · exact ⟨_, sle_headO 4000 (live := [0, 1, 2, 3, 8]) [.own 1007 n, I n, I n, .fn (.func 86) [] [.ptr 1001 0], I ((n : Int) + 1)] (Lb n q r o) (.cons (.refl _) (.cons (.refl _) (.cons (.refl _) (.cons (.refl _) (.cons (ple_ok e1) .nil))))) hb, rfl⟩
  · rintro st rfl
    refine ⟨fun h4 => ?_, fun h4 => ?_⟩
    · have h4 : ((n : Int) + 1 < (n : Int)) := of_decide_eq_true h4
      omega
    · exact ⟨rfl, hk⟩
def ef88 : Eff := fun args bl k => args.length = 3 ∧ effBody ⟨types, [], [(90, 4000, ef90)], 3000, false, [], [], [], none, false⟩ (Try.f88.body.getD .skip) Try.f88.results.toList args bl k
theorem se88 : SE Try.prog 88 3000 ef88 := se_of types_ok mixed (l := []) trivial (es := [(90, 4000, ef90)]) ⟨se90, trivial⟩ 3000 3 Try.func88 rfl (by kernel_rfl)
set_option maxRecDepth 20000 in
set_option maxHeartbeats 4000000 in
theorem e88 {n : Nat} {q r : Nat → Int} {bl : Nat → Blk} {k : PV → (Nat → Blk) → Prop} (hn : n ≤ 20) (h1 : 1 ≤ n)
    (hb : ∀ s, BLe (kq 3000 bl s) ((V.look (Lb n q r fun i => i) s).getD .none)) (hk : k (.tup []) (LbF 3000 n q r (ordR r n))) :
    ef88 [.own 1007 n, I n, .fn (.func 86) [] [.ptr 1001 0]] bl k := by
  refine ⟨rfl, ?_⟩
  by_cases h20 : n < 20
  · refine Halt.mk ⟨[0, 1, 2, 6, 7, 8], [], fun st => st = mkSt ([0, 1, 2, 6, 7, 8].zip [.own 1007 n, I n, .fn (.func 86) [] [.ptr 1001 0], I 20, I 0, I 20]) (Lb n q r fun i => i), fun st => 0, ?_, ?_⟩
    · exact ⟨_, sle_headO 3000 (live := [0, 1, 2, 6, 7, 8]) [.own 1007 n, I n, .fn (.func 86) [] [.ptr 1001 0], I 20, I 0, I 20] (Lb n q r fun i => i) (.cons (.refl _) (.cons (.refl _) (.cons (.refl _) (.cons (.refl _) (.cons (.refl _) (.cons (.refl _) .nil)))))) hb, rfl⟩
    · rintro st rfl
      refine ⟨fun h4 => ?_, fun h4 => ?_⟩
      · have h4 : ((20 : Int) ≤ (n : Int)) := of_decide_eq_true h4
        omega
      · refine ⟨rfl, e90 (q := q) (r := r) hn h1 ?_ ?_⟩
        · exact bn_all [4, 27, 30, 1001, 1002, 1007] ⟨.refl _, .refl _, .refl _, .refl _, .refl _, .refl _, trivial⟩ fun s hs => ble_none (eb_none fun _ => lb_none hs) (lb_none hs)
        · refine Halt.mk ⟨[0, 1, 2, 6], [], fun st => st = mkSt ([0, 1, 2, 6].zip [.own 1007 n, I n, .fn (.func 86) [] [.ptr 1001 0], I 20]) (Lb n q r (ordR r n)), fun st => 0, ?_, ?_⟩
          · exact ⟨_, sle_headO 3000 (live := [0, 1, 2, 6]) [.own 1007 n, I n, .fn (.func 86) [] [.ptr 1001 0], I 20] (Lb n q r (ordR r n)) (.cons (.refl _) (.cons (.refl _) (.cons (.refl _) (.cons (.refl _) .nil)))) (bn_all [4, 27, 30, 1001, 1002, 1007] ⟨.refl _, .refl _, .refl _, .refl _, .refl _, .refl _, trivial⟩ fun s hs => ble_none (eb_none fun _ => eb_none fun _ => lb_none hs) (lb_none hs)), rfl⟩
          · rintro st rfl
            refine ⟨fun h4 => ?_, fun h4 => ?_⟩
            · have h4 : ((20 : Int) < (n : Int)) := of_decide_eq_true h4
              omega
            · exact ⟨rfl, hk⟩
  · obtain rfl : n = 20 := by omega
    refine Halt.mk ⟨[0, 1, 2, 6, 7, 8], [], fun st => st = mkSt ([0, 1, 2, 6, 7, 8].zip [.own 1007 20, I 20, .fn (.func 86) [] [.ptr 1001 0], I 20, I 0, I 20]) (Lb 20 q r fun i => i) ∨ st = mkSt ([0, 1, 2, 6, 7, 8].zip [.own 1007 20, I 20, .fn (.func 86) [] [.ptr 1001 0], I 20, I 20, I 40]) (Lb 20 q r (ordR r 20)),
      fun st => (match st.slots 7 with | .int _ k => 20 - k.toNat | _ => 0), ?_, ?_⟩
    · exact ⟨_, sle_headO 3000 (live := [0, 1, 2, 6, 7, 8]) [.own 1007 20, I 20, .fn (.func 86) [] [.ptr 1001 0], I 20, I 0, I 20] (Lb 20 q r fun i => i) (.cons (.refl _) (.cons (.refl _) (.cons (.refl _) (.cons (.refl _) (.cons (.refl _) (.cons (.refl _) .nil)))))) hb, .inl rfl⟩
    · rintro st (rfl | rfl)
      · refine ⟨fun h4 => ?_, fun h4 => absurd h4 (by decide)⟩
        refine ⟨rfl, e90 (n := 20) (q := q) (r := r) hn h1 ?_ ?_⟩
        · exact bn_all [4, 27, 30, 1001, 1002, 1007] ⟨.refl _, .refl _, .refl _, .refl _, .refl _, .refl _, trivial⟩ fun s hs => ble_none (eb_none fun _ => lb_none hs) (lb_none hs)
        · refine Halt.mk ⟨_, sle_headO 3000 (live := [0, 1, 2, 6, 7, 8]) [.own 1007 20, I 20, .fn (.func 86) [] [.ptr 1001 0], I 20, I 20, I 40] (Lb 20 q r (ordR r 20)) (.cons (.refl _) (.cons (.refl _) (.cons (.refl _) (.cons (.refl _) (.cons (.refl _) (.cons (.refl _) .nil)))))) (bn_all [4, 27, 30, 1001, 1002, 1007] ⟨.refl _, .refl _, .refl _, .refl _, .refl _, .refl _, trivial⟩ fun s hs => ble_none (eb_none fun _ => eb_none fun _ => lb_none hs) (lb_none hs)), .inr rfl, ?_⟩
          show 20 - 20 < 20 - 0
          decide
      · refine ⟨fun h4 => absurd h4 (by decide), fun h4 => ?_⟩
        refine ⟨rfl, e90n (n := 20) (q := q) (r := r) (o := ordR r 20) hn ?_ ?_⟩
        · exact bn_all [4, 27, 30, 1001, 1002, 1007] ⟨.refl _, .refl _, .refl _, .refl _, .refl _, .refl _, trivial⟩ fun s hs => ble_none (eb_none fun _ => lb_none hs) (lb_none hs)
        · refine Halt.mk ⟨[0, 1, 2, 6], [], fun st => st = mkSt ([0, 1, 2, 6].zip [.own 1007 20, I 20, .fn (.func 86) [] [.ptr 1001 0], I 20]) (Lb 20 q r (ordR r 20)), fun st => 0, ?_, ?_⟩
          · exact ⟨_, sle_headO 3000 (live := [0, 1, 2, 6]) [.own 1007 20, I 20, .fn (.func 86) [] [.ptr 1001 0], I 20] (Lb 20 q r (ordR r 20)) (.cons (.refl _) (.cons (.refl _) (.cons (.refl _) (.cons (.refl _) .nil)))) (bn_all [4, 27, 30, 1001, 1002, 1007] ⟨.refl _, .refl _, .refl _, .refl _, .refl _, .refl _, trivial⟩ fun s hs => ble_none (eb_none fun _ => eb_none fun _ => lb_none hs) (lb_none hs)), rfl⟩
          · rintro st rfl
            refine ⟨fun h4 => absurd h4 (by decide), fun h4 => ?_⟩
            exact ⟨rfl, hk⟩
def ef85 : Eff := fun args bl k => args.length = 2 ∧ effBody ⟨types, [], [(88, 3000, ef88)], 2000, false, [], [], [], none, false⟩ (Try.f85.body.getD .skip) Try.f85.results.toList args bl k
theorem se85 : SE Try.prog 85 2000 ef85 := se_of types_ok mixed (l := []) trivial (es := [(88, 3000, ef88)]) ⟨se88, trivial⟩ 2000 2 Try.func85 rfl (by kernel_rfl)
def ef81 : Eff := fun args bl k => args.length = 1 ∧ effBody ⟨types, [], [(85, 2000, ef85)], 1000, false, [], [], [], none, false⟩ (Try.f81.body.getD .skip) Try.f81.results.toList args bl k
theorem se81 : SE Try.prog 81 1000 ef81 := se_of types_ok mixed (l := []) trivial (es := [(85, 2000, ef85)]) ⟨se85, trivial⟩ 1000 1 Try.func81 rfl (by kernel_rfl)
end Go.Proofs.Ytiidjohhcappdaa
