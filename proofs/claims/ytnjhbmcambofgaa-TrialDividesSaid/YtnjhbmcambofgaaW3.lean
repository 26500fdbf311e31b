/- Loops that count, states held against each other. -/
import Derived.Test.YtnjhbmcambofgaaW2
namespace Go.V

theorem ple_int {k : IntKind} {m n : Int} (h : m = n) : PLe (.int k m) (.int k n) := .int k m n h
theorem ple_slice {t : Option Nat} {len len' : Nat} {get get' : Nat → List PV} (hl : len = len') (h : ∀ i, i < len → get i = get' i) : PLe (.slice t len get) (.slice t len' get') := by
  subst hl; exact .slice _ _ _ _ h
theorem ple_bool {b c : Bool} (h : b = c) : PLe (.bool b) (.bool c) := .bool _ _ h
theorem ple_tt {b : Bool} (h : b = true) : PLe .tt (.bool b) := .tt _ h
theorem ple_ff {b : Bool} (h : b = false) : PLe .ff (.bool b) := .ff _ h
theorem ble_arr {len len' sz : Nat} {get get' : Nat → List PV} (hl : len = len') (h : ∀ i, i < len → get i = get' i) : BLe (.arr len sz get) (.arr len' sz get') := by
  subst hl; exact .arr _ _ _ _ h
theorem ble_grow {L L' el sz : Nat} (h : L = L') : BLe (.grow L el sz) (.grow L' el sz) := by subst h; exact .refl _

def cnt (c : Nat) (st : St) : Nat :=
  match st.slots c with
  | .int _ k => k.toNat
  | _ => 0
/-- The same, counted from a number on. -/
def cntF (c : Nat) (lo : Int) (st : St) : Nat :=
  match st.slots c with
  | .int _ k => (k - lo).toNat
  | _ => 0
/-- What of a state is kept, held against a list of values. -/
inductive HeadIs (live keep : List Nat) (st : St) (vals : List PV) (bls : List Blk) : Prop
  | mk (h1 : PLeL (live.map fun s => prune (keepQ 0 keep) (st.slots s)) vals) (h2 : BLeL (keep.map fun s => pruneB (keepQ 0 keep) (st.blocks s)) bls)
def RInv (n : Nat) (live keep : List Nat) (vals : Nat → List PV) (bls : Nat → List Blk) (Q : Nat → Prop) (st : St) : Prop := ∃ m, m ≤ n ∧ Q m ∧ st = mkSt (live.zip (vals m)) (keep.zip (bls m))
/-- A loop that goes n rounds at most; how many have been, is told of the state. -/
theorem halt_rng {C : Ctx} {a : Code} {st : St} {k : Out → Prop} (cn : St → Nat) (n : Nat) (live keep : List Nat) (vals : Nat → List PV) (bls : Nat → List Blk) (Q : Nat → Prop) (hoff : C.off = 0)
    (h1 : HeadIs live keep st (vals 0) (bls 0)) (h3 : Q 0)
    (step : ∀ m, m ≤ n → Q m → evalCode C a (mkSt (live.zip (vals m)) (keep.zip (bls m))) fun o => match o with
      | .normal st' => Halt (∃ st1, SLe (clean C.off live keep st') st1 ∧ RInv n live keep vals bls Q st1 ∧ n - cn st1 < n - cn (mkSt (live.zip (vals m)) (keep.zip (bls m))))
      | o => k o) :
    Halt (∃ (live keep : List Nat) (Inv : St → Prop) (μ : St → Nat), (∃ st1, SLe (clean C.off live keep st) st1 ∧ Inv st1) ∧
      ∀ st, Inv st → evalCode C a st fun o => match o with | .normal st' => Halt (∃ st1, SLe (clean C.off live keep st') st1 ∧ Inv st1 ∧ μ st1 < μ st) | o => k o) := by
  refine .mk ⟨live, keep, RInv n live keep vals bls Q, fun st => n - cn st, ?_, ?_⟩
  · obtain ⟨g1, g2⟩ := h1
    rw [hoff]
    exact ⟨_, sle_head _ _ g1 g2, 0, Nat.zero_le _, h3, rfl⟩
  · rintro st ⟨m, hm, hq, rfl⟩
    exact step m hm hq
theorem next_rng {off : Nat} {cn : St → Nat} {n m : Nat} {live keep : List Nat} {vals : Nat → List PV} {bls : Nat → List Blk} {Q : Nat → Prop} {st' : St} (hoff : off = 0) (hc : ∀ m, cn (mkSt (live.zip (vals m)) (keep.zip (bls m))) = m)
    (hlt : m < n) (hq : Q (m + 1)) (h : HeadIs live keep st' (vals (m + 1)) (bls (m + 1))) :
    Halt (∃ st1, SLe (clean off live keep st') st1 ∧ RInv n live keep vals bls Q st1 ∧ n - cn st1 < n - cn (mkSt (live.zip (vals m)) (keep.zip (bls m)))) := by
  obtain ⟨g1, g2⟩ := h
  rw [hoff]
  refine .mk ⟨_, sle_head _ _ g1 g2, ⟨m + 1, hlt, hq, rfl⟩, ?_⟩
  rw [hc, hc]
  omega
end Go.V

/- The same, in functions that work on their callers' blocks, and in loops' rounds. -/
namespace Go.V
inductive HeadO (off : Nat) (live keep : List Nat) (st : St) (vals : List PV) (bls : List (Nat × Blk)) : Prop
  | mk (h1 : PLeL (live.map fun s => prune (keepQ off keep) (st.slots s)) vals) (h2 : ∀ s, BLe (bif keepQ off keep s then pruneB (keepQ off keep) (st.blocks s) else .none) ((look bls s).getD .none))
def RInvO (n : Nat) (live : List Nat) (vals : Nat → List PV) (bls : Nat → List (Nat × Blk)) (Q : Nat → Prop) (st : St) : Prop := ∃ m, m ≤ n ∧ Q m ∧ st = mkSt (live.zip (vals m)) (bls m)
theorem halt_rngO {C : Ctx} {a : Code} {st : St} {k : Out → Prop} (off : Nat) (cn : St → Nat) (n : Nat) (live keep : List Nat) (vals : Nat → List PV) (bls : Nat → List (Nat × Blk)) (Q : Nat → Prop) (hoff : C.off = off)
    (h1 : HeadO off live keep st (vals 0) (bls 0)) (h3 : Q 0)
    (step : ∀ m, m ≤ n → Q m → evalCode C a (mkSt (live.zip (vals m)) (bls m)) fun o => match o with
      | .normal st' => Halt (∃ st1, SLe (clean C.off live keep st') st1 ∧ RInvO n live vals bls Q st1 ∧ n - cn st1 < n - cn (mkSt (live.zip (vals m)) (bls m)))
      | o => k o) :
    Halt (∃ (live keep : List Nat) (Inv : St → Prop) (μ : St → Nat), (∃ st1, SLe (clean C.off live keep st) st1 ∧ Inv st1) ∧
      ∀ st, Inv st → evalCode C a st fun o => match o with | .normal st' => Halt (∃ st1, SLe (clean C.off live keep st') st1 ∧ Inv st1 ∧ μ st1 < μ st) | o => k o) := by
  refine .mk ⟨live, keep, RInvO n live vals bls Q, fun st => n - cn st, ?_, ?_⟩
  · obtain ⟨g1, g2⟩ := h1
    rw [hoff]
    exact ⟨_, sle_headK off keep _ _ g1 g2, 0, Nat.zero_le _, h3, rfl⟩
  · rintro st ⟨m, hm, hq, rfl⟩
    exact step m hm hq
theorem next_rngO {off off' : Nat} {cn : St → Nat} {n m : Nat} {live keep : List Nat} {vals : Nat → List PV} {bls : Nat → List (Nat × Blk)} {Q : Nat → Prop} {st' : St} (hoff : off' = off) (hc : ∀ m, cn (mkSt (live.zip (vals m)) (bls m)) = m)
    (hlt : m < n) (hq : Q (m + 1)) (h : HeadO off live keep st' (vals (m + 1)) (bls (m + 1))) :
    Halt (∃ st1, SLe (clean off' live keep st') st1 ∧ RInvO n live vals bls Q st1 ∧ n - cn st1 < n - cn (mkSt (live.zip (vals m)) (bls m))) := by
  obtain ⟨g1, g2⟩ := h
  rw [hoff]
  refine .mk ⟨_, sle_headK off keep _ _ g1 g2, ⟨m + 1, hlt, hq, rfl⟩, ?_⟩
  rw [hc, hc]
  omega
end Go.V
namespace Go.V
theorem keepQ_lt {off s : Nat} (h : keepQ off [] s = true) : s < off := by
  simp only [keepQ, has, List.any_nil, Bool.or_false] at h
  exact lt_of_blt h
theorem keepQ_or {off s : Nat} {keep : List Nat} (h : keepQ off keep s = true) : s < off ∨ has keep s = true := by
  simp only [keepQ, Bool.or_eq_true] at h
  rcases h with h | h
  · exact .inl (lt_of_blt h)
  · exact .inr h
theorem keepQ_off {off s : Nat} {keep : List Nat} (h : keepQ off keep s = true) (hk : ∀ k ∈ keep, s ≠ k) : s < off := by
  rcases keepQ_or h with h | h
  · exact h
  · simp only [has, List.any_eq_true] at h
    obtain ⟨k, h1, h2⟩ := h
    exact (hk k h1 (Nat.eq_of_beq_eq_true h2)).elim
end Go.V
namespace Go.V
theorem app_get2 {α : Type} {get get' : Nat → α} {len : Nat} (h : get' 0 = get len) : ∀ i, i < len + 1 → (bif Nat.blt i len then get i else get' (i - len)) = get i := by
  intro i hi
  by_cases hl : i < len
  · rw [blt_t hl]; rfl
  · obtain rfl : i = len := by omega
    rw [blt_f hl, Nat.sub_self]
    exact h
end Go.V
namespace Go.V
theorem ple_app {t : Option Nat} {get get' g : Nat → List PV} {len len' : Nat} (hl : len + 1 = len') (h0 : ∀ i, i < len → get i = g i) (h : get' 0 = g len) : PLe (.slice t (len + 1) fun i => bif Nat.blt i len then get i else get' (i - len)) (.slice t len' g) := by
  subst hl
  refine .slice _ _ _ _ fun i hi => ?_
  by_cases hl : i < len
  · rw [blt_t hl]; exact h0 i hl
  · obtain rfl : i = len := by omega
    rw [blt_f hl, Nat.sub_self]
    exact h
end Go.V
