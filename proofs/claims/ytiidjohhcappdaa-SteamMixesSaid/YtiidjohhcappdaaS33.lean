/- Layer 1: one pass of the sort. -/
import Derived.Test.YtiidjohhcappdaaS32
namespace Go.Proofs.Ytiidjohhcappdaa
open Go.V
set_option linter.unusedSimpArgs false

def B1 (r : Nat → Int) (i : Nat) : List PV := [I (r i)]
def Lb (n : Nat) (q r : Nat → Int) (o : Nat → Nat) : List (Nat × Blk) :=
  [(4, .grow 0 3 1), (27, .arr n 1 fun i => [I (q i)]), (30, .arr n 1 fun i => [I (r i)]), (1001, .cells [.own 30 n]), (1002, .grow 0 3 1), (1007, .arr n 1 fun i => [I (o i)])]
def LbF (off n : Nat) (q r : Nat → Int) (o : Nat → Nat) : Nat → Blk := fun s => bif Nat.blt s off then pruneB (fun s => Nat.blt s off) ((V.look (Lb n q r o) s).getD .none) else .none
def kq (off : Nat) (bl : Nat → Blk) (s : Nat) : Blk := bif Nat.blt s off then pruneB (keepQ off []) (bl s) else .none
theorem swap_get {o : Nat → Nat} {i j x : Nat} (j0 : 0 < j) (hj : j ≤ i) (ej : IntKind.i64.wrap ((j : Int) - 1) = ((j - 1 : Nat) : Int)) :
    (bif Nat.beq x (IntKind.i64.wrap ((j : Int) - 1)).toNat then fillL (bif Nat.beq (IntKind.i64.wrap ((j : Int) - 1)).toNat ((j : Int)).toNat then fillL [I (ins o i j ((j : Int)).toNat : Nat)] 0 [I (ins o i j (IntKind.i64.wrap ((j : Int) - 1)).toNat : Nat)] else [I (ins o i j (IntKind.i64.wrap ((j : Int) - 1)).toNat : Nat)]) 0 [I (ins o i j ((j : Int)).toNat : Nat)]
      else bif Nat.beq x ((j : Int)).toNat then fillL [I (ins o i j ((j : Int)).toNat : Nat)] 0 [I (ins o i j (IntKind.i64.wrap ((j : Int) - 1)).toNat : Nat)] else [I (ins o i j x : Nat)]) = [I (ins o i (j - 1) x : Nat)] := by
  have i0 : ins o i j j = i := by unfold ins; rw [if_neg (by omega), if_pos rfl]
  have i1 : ins o i j (j - 1) = o (j - 1) := if_pos (by omega)
  rw [ej, Int.toNat_natCast, Int.toNat_natCast, i0, i1, nb (show j - 1 ≠ j by omega)]
  by_cases h1 : x = j - 1
  · subst h1
    rw [show Nat.beq (j - 1) (j - 1) = true from Nat.beq_refl _]
    have : ins o i (j - 1) (j - 1) = i := by unfold ins; rw [if_neg (by omega), if_pos rfl]
    rw [this]; rfl
  · rw [nb h1]
    by_cases h2 : x = j
    · subst h2
      rw [show Nat.beq x x = true from Nat.beq_refl _]
      have : ins o i (x - 1) x = o (x - 1) := by unfold ins; rw [if_neg (by omega), if_neg (by omega), if_pos hj]
      rw [this]; rfl
    · rw [nb h2]
      have : ins o i (j - 1) x = ins o i j x := by
        unfold ins
        by_cases h3 : x < j
        · rw [if_pos h3, if_pos (by omega)]
        · rw [if_neg h3, if_neg h2, if_neg (by omega), if_neg h1]
      rw [this]; rfl
theorem cmpZ_neg {a b : Int} : cmpZ a b < 0 ↔ a < b := by unfold cmpZ; split <;> first | omega | (split <;> omega)
theorem stop_go {r : Nat → Int} {o : Nat → Nat} {i j : Nat} (j0 : 0 < j) (h : r (o (j - 1)) < r i) : stop r o i j = stop r o i (j - 1) := by
  obtain ⟨j, rfl⟩ : ∃ k, j = k + 1 := ⟨j - 1, by omega⟩
  show (if r (o j) < r i then stop r o i j else j + 1) = _
  rw [Nat.add_sub_cancel] at h ⊢
  rw [if_pos h]
theorem stop_no {r : Nat → Int} {o : Nat → Nat} {i j : Nat} (h : 0 < j → ¬ r (o (j - 1)) < r i) : stop r o i j = j := by
  cases j with
  | zero => rfl
  | succ j =>
    show (if r (o j) < r i then stop r o i j else j + 1) = _
    have h := h (by omega)
    rw [Nat.add_sub_cancel] at h
    rw [if_neg h]
theorem ord_out {r : Nat → Int} {i j : Nat} (hst : stop r (ordR r i) i i = stop r (ordR r i) i j) (h : 0 < j → ¬ r (ordR r i (j - 1)) < r i) : ordR r (i + 1) = ins (ordR r i) i j := by
  show ins (ordR r i) i (stop r (ordR r i) i i) = _
  rw [hst, stop_no h]
set_option maxRecDepth 20000 in
set_option maxHeartbeats 4000000 in
theorem e90 {n : Nat} {q r : Nat → Int} {bl : Nat → Blk} {k : PV → (Nat → Blk) → Prop} (hn : n ≤ 20) (h1 : 1 ≤ n)
    (hb : ∀ s, BLe (kq 4000 bl s) ((V.look (Lb n q r fun i => i) s).getD .none)) (hk : k (.tup []) (LbF 4000 n q r (ordR r n))) :
    ef90 [.own 1007 n, I 0, I n, .fn (.func 86) [] [.ptr 1001 0]] bl k := by
  refine ⟨rfl, ?_⟩
  refine Halt.mk ⟨[0, 1, 2, 3, 8], [], fun st => ∃ i : Nat, 1 ≤ i ∧ i ≤ n ∧ st = mkSt ([0, 1, 2, 3, 8].zip [.own 1007 n, I 0, I n, .fn (.func 86) [] [.ptr 1001 0], I i]) (Lb n q r (ordR r i)),
      fun st => n - (match st.slots 8 with | .int _ k => k.toNat | _ => 0), ?_, ?_⟩
  · refine ⟨_, sle_headO 4000 (live := [0, 1, 2, 3, 8]) [.own 1007 n, I 0, I n, .fn (.func 86) [] [.ptr 1001 0], I (1 : Nat)] (Lb n q r (ordR r 1)) (.cons (.refl _) (.cons (.refl _) (.cons (.refl _) (.cons (.refl _) (.cons (.refl _) .nil))))) ?_, 1, by omega, h1, rfl⟩
    have e : ordR r 1 = fun i => i := ins_start (fun _ _ => rfl)
    rw [e]
    exact hb
  · rintro st ⟨i, hi1, hin, rfl⟩
    refine ⟨fun h4 => ?_, fun h4 => ?_⟩
    · have hlt : i < n := by simpa using h4
      clear h4
      have eii : IntKind.i64.wrap ((i : Int) + 1) = ((i + 1 : Nat) : Int) := by rw [w64 (by omega) (by omega)]; omega
      refine Halt.mk ⟨[0, 1, 2, 3, 8, 9], [], fun st => ∃ j : Nat, j ≤ i ∧ stop r (ordR r i) i i = stop r (ordR r i) i j ∧ st = mkSt ([0, 1, 2, 3, 8, 9].zip [.own 1007 n, I 0, I n, .fn (.func 86) [] [.ptr 1001 0], I i, I j]) (Lb n q r (ins (ordR r i) i j)),
          fun st => (match st.slots 9 with | .int _ k => k.toNat | _ => 0), ?_, ?_⟩
      · refine ⟨_, sle_headO 4000 (live := [0, 1, 2, 3, 8, 9]) [.own 1007 n, I 0, I n, .fn (.func 86) [] [.ptr 1001 0], I i, I i] (Lb n q r (ins (ordR r i) i i)) (.cons (.refl _) (.cons (.refl _) (.cons (.refl _) (.cons (.refl _) (.cons (.refl _) (.cons (.refl _) .nil)))))) ?_, i, Nat.le_refl _, rfl, rfl⟩
        rw [ins_start (ordR_out r i)]
        refine bn_all [4, 27, 30, 1001, 1002, 1007] ⟨.refl _, .refl _, .refl _, .refl _, .refl _, .refl _, trivial⟩ ?_
        rintro s ⟨h4, h27, h30, h1001, h1002, h1007, _⟩
        refine ble_none (eb_none fun hb => ?_) (look_none h4 (look_none h27 (look_none h30 (look_none h1001 (look_none h1002 (look_none h1007 rfl))))))
        exact look_none h4 (look_none h27 (look_none h30 (look_none h1001 (look_none h1002 (look_none h1007 rfl)))))
      · rintro st ⟨j, hj, hst, rfl⟩
        by_cases j0 : 0 < j
        · have ej : IntKind.i64.wrap ((j : Int) - 1) = ((j - 1 : Nat) : Int) := by rw [w64 (by omega) (by omega)]; omega
          have i0 : ins (ordR r i) i j j = i := by unfold ins; rw [if_neg (by omega), if_pos rfl]
          have i1 : ins (ordR r i) i j (j - 1) = ordR r i (j - 1) := if_pos (by omega)
          have hoj : ordR r i (j - 1) < i := (ordR_srt r i).lt _ (by omega)
          have hc : cmpZ (r (((ins (ordR r i) i j (IntKind.i64.wrap ((j : Int) - 1)).toNat : Nat) : Int)).toNat) (r (((ins (ordR r i) i j ((j : Int)).toNat : Nat) : Int)).toNat) = cmpZ (r (ordR r i (j - 1))) (r i) := by simp only [ej, Int.toNat_natCast, i0, i1]
          have d0 : decide (0 < (j : Int)) = true := decide_eq_true (by omega)
          repeat' first
            | refine ⟨?_, ?_⟩
            | refine fun h => absurd h (by decide)
            | (refine fun h => ?_; exfalso; have h : decide (0 < (j : Int)) = false := h; rw [d0] at h; cases h; done)
            | refine fun h => ?_
          all_goals first
            | trivial
            | rfl
            | exact Nat.le_refl 1
            | exact Nat.le_refl _
            | omega
            | refine Halt.mk ⟨_, sle_headO 4000 (live := [0, 1, 2, 3, 8, 9]) [.own 1007 n, I 0, I n, .fn (.func 86) [] [.ptr 1001 0], I i, I (j - 1 : Nat)] (Lb n q r (ins (ordR r i) i (j - 1))) (.cons (.refl _) (.cons (.refl _) (.cons (.refl _) (.cons (.refl _) (.cons (.refl _) (.cons (ple_ok ?_) .nil)))))) (bn_all [4, 27, 30, 1001, 1002, 1007] ⟨.refl _, .refl _, .refl _, .refl _, .refl _, .arr _ _ _ _ fun x hx => ?_, trivial⟩ ?_), ⟨j - 1, by omega, ?_, rfl⟩, ?_⟩
            | refine Halt.mk ⟨_, sle_headO 4000 (live := [0, 1, 2, 3, 8]) [.own 1007 n, I 0, I n, .fn (.func 86) [] [.ptr 1001 0], I (i + 1 : Nat)] (Lb n q r (ordR r (i + 1))) (.cons (.refl _) (.cons (.refl _) (.cons (.refl _) (.cons (.refl _) (.cons (ple_ok ?_) .nil))))) (bn_all [4, 27, 30, 1001, 1002, 1007] ⟨.refl _, .refl _, .refl _, .refl _, .refl _, .arr _ _ _ _ fun x hx => ?_, trivial⟩ ?_), ⟨i + 1, by omega, by omega, rfl⟩, ?_⟩
            | (show 0 + 1 ≤ (cond (Nat.beq (IntKind.i64.wrap ((j : Int) - 1)).toNat ((j : Int)).toNat) [_] [_] : List PV).length; cases Nat.beq (IntKind.i64.wrap ((j : Int) - 1)).toNat ((j : Int)).toNat <;> exact Nat.le_refl 1)
            | (simp only [ej, Int.toNat_natCast, i0, i1]; omega)
            | skip
          all_goals first
            | trivial
            | exact ej
            | exact eii
            | exact swap_get j0 hj ej
            | (show [I (ins (ordR r i) i j x : Nat)] = [I (ordR r (i + 1) x : Nat)]; rw [ord_out hst fun _ h' => by have h := of_decide_eq_false h; rw [hc, cmpZ_neg] at h; exact h h'])
            | (rw [hst]; refine stop_go j0 ?_; have h := of_decide_eq_true h; rw [hc, cmpZ_neg] at h; exact h)
            | (show (((j - 1 : Nat) : Int)).toNat < ((j : Nat) : Int).toNat; omega)
            | (show n - (((i + 1 : Nat) : Int)).toNat < n - ((i : Nat) : Int).toNat; omega)
            | skip
          all_goals
            rintro s ⟨h4, h27, h30, h1001, h1002, h1007, _⟩
            refine ble_none (eb_none fun hb => ?_) (look_none h4 (look_none h27 (look_none h30 (look_none h1001 (look_none h1002 (look_none h1007 rfl))))))
            have hs : s < 4000 := lt_of_blt hb
            repeat first
              | refine upd_none h1007 ?_
              | refine upd_none h1002 ?_
              | refine upd_none h1001 ?_
              | refine eb_none fun _ => ?_
            exact look_none h4 (look_none h27 (look_none h30 (look_none h1001 (look_none h1002 (look_none h1007 rfl)))))
        · obtain rfl : j = 0 := by omega
          repeat' first
            | refine ⟨?_, ?_⟩
            | refine fun h => absurd h (by decide)
            | refine fun h => ?_
          all_goals first
            | trivial
            | rfl
            | refine Halt.mk ⟨_, sle_headO 4000 (live := [0, 1, 2, 3, 8]) [.own 1007 n, I 0, I n, .fn (.func 86) [] [.ptr 1001 0], I (i + 1 : Nat)] (Lb n q r (ordR r (i + 1))) (.cons (.refl _) (.cons (.refl _) (.cons (.refl _) (.cons (.refl _) (.cons (ple_ok ?_) .nil))))) (bn_all [4, 27, 30, 1001, 1002, 1007] ⟨.refl _, .refl _, .refl _, .refl _, .refl _, .arr _ _ _ _ fun x hx => ?_, trivial⟩ ?_), ⟨i + 1, by omega, by omega, rfl⟩, ?_⟩
            | skip
          all_goals first
            | trivial
            | exact eii
            | (show [I (ins (ordR r i) i 0 x : Nat)] = [I (ordR r (i + 1) x : Nat)]; rw [ord_out hst fun h => absurd h (by omega)])
            | (show n - (((i + 1 : Nat) : Int)).toNat < n - ((i : Nat) : Int).toNat; omega)
            | skip
          all_goals
            rintro s ⟨h4, h27, h30, h1001, h1002, h1007, _⟩
            refine ble_none (eb_none fun hb => ?_) (look_none h4 (look_none h27 (look_none h30 (look_none h1001 (look_none h1002 (look_none h1007 rfl))))))
            have hs : s < 4000 := lt_of_blt hb
            repeat first
              | refine upd_none h1007 ?_
              | refine upd_none h1002 ?_
              | refine upd_none h1001 ?_
              | refine eb_none fun _ => ?_
            exact look_none h4 (look_none h27 (look_none h30 (look_none h1001 (look_none h1002 (look_none h1007 rfl)))))
    · have : i = n := by
        have h4 : ¬ ((i : Int) < n) := of_decide_eq_false h4
        omega
      subst this
      exact ⟨rfl, hk⟩
end Go.Proofs.Ytiidjohhcappdaa
