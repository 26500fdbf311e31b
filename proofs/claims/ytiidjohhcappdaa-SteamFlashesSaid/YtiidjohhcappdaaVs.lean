/- Part 16: heads of loops in functions that work on their callers' blocks. -/
import Derived.Test.YtiidjohhcappdaaVm
namespace Go.V

theorem nb {s n : Nat} (h : s ≠ n) : Nat.beq s n = false := by rw [Bool.eq_false_iff]; intro e; exact h (Nat.eq_of_beq_eq_true e)
theorem nb' {s n : Nat} (h : s ≠ n) : Nat.beq n s = false := nb fun e => h e.symm
theorem BLe.cellsL {xs ys : List PV} (h : PLeL xs ys) : BLe (.cells xs) (.cells ys) := .cells _ _ h.spec.1 h.spec.2
/-- What is said of blocks, name by name. -/
def BN (f g : Nat → Blk) : List Nat → Prop
  | [] => True
  | n :: ns => BLe (f n) (g n) ∧ BN f g ns
def Off (s : Nat) : List Nat → Prop
  | [] => True
  | n :: ns => s ≠ n ∧ Off s ns
theorem bn_all {f g : Nat → Blk} : ∀ (ns : List Nat), BN f g ns → (∀ s, Off s ns → BLe (f s) (g s)) → ∀ s, BLe (f s) (g s)
  | [], _, h, s => h s trivial
  | n :: ns, ⟨h1, h2⟩, h, s => bn_all ns h2 (fun s hs => by
      by_cases e : s = n
      · subst e; exact h1
      · exact h s ⟨e, hs⟩) s
theorem upd_none {f : Nat → Blk} {s n : Nat} {v : Blk} (h : s ≠ n) (hf : f s = .none) : upd f n v s = .none := by
  show (bif Nat.beq s n then v else f s) = .none
  rw [nb h]; exact hf
theorem cut_none {f : Nat → Blk} {s o2 : Nat} (hf : f s = .none) : cutB o2 f s = .none := by
  show (bif Nat.blt s o2 then pruneB (fun s => Nat.blt s o2) (f s) else .none) = .none
  rw [hf]; cases Nat.blt s o2 <;> rfl
theorem cut_none' {f : Nat → Blk} {s o2 : Nat} (hf : s < o2 → f s = .none) : cutB o2 f s = .none := by
  show (bif Nat.blt s o2 then pruneB (fun s => Nat.blt s o2) (f s) else .none) = .none
  cases hb : Nat.blt s o2 with
  | true => rw [hf (Nat.le_of_ble_eq_true hb)]; rfl
  | false => rfl
theorem cl_none {b : Bool} {q : Nat → Bool} {x : Blk} (hf : x = .none) : (bif b then pruneB q x else .none) = .none := by
  rw [hf]; cases b <;> rfl
theorem look_none {s n : Nat} {v : Blk} {l : List (Nat × Blk)} (h : s ≠ n) (hf : (look l s).getD .none = .none) : (look ((n, v) :: l) s).getD .none = .none := by
  show ((bif Nat.beq n s then some v else look l s).getD .none) = .none
  rw [nb' h]; exact hf
theorem ble_none {a b : Blk} (ha : a = .none) (hb : b = .none) : BLe a b := by rw [ha, hb]; exact .refl _
/-- A loop's head, in a function that works on its caller's blocks. -/
theorem sle_headO (off : Nat) {live : List Nat} {st : St} (vals : List PV) (bls : List (Nat × Blk)) (h1 : PLeL (live.map fun n => prune (keepQ off []) (st.slots n)) vals)
    (h2 : ∀ s, BLe (bif Nat.blt s off then pruneB (keepQ off []) (st.blocks s) else .none) ((look bls s).getD .none)) : SLe (clean off live [] st) (mkSt (live.zip vals) bls) := by
  obtain ⟨a1, a2⟩ := h1.spec
  constructor
  · refine look_zip (R := PLe) .junk (.refl _) _ live vals (by simpa using a1) fun i hi => ?_
    have := a2 i (by simpa using hi)
    simpa [List.getD, hi] using this
  · exact h2
end Go.V
