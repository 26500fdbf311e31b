/- An operation's condition, reckoned, holds. -/
import Derived.Test.YtiidjohhcappdaaVx
namespace Go.V

section
variable {C : Ctx} {e : Operand → PV} {bl : Nat → Blk} {d ty : Nat} {p : Prop}

theorem range_all {n : Nat} {f : Nat → Bool} (h : (List.range n).all f = true) : ∀ i, i < n → f i = true := by
  intro i hi
  rw [List.all_eq_true] at h
  exact h i (List.mem_range.2 hi)

theorem xc_pick {c a b : Operand} (h : xcond C e bl (.pick c a b) = true) (hp : (evalOp C e bl d ty (.pick c a b)).pre = some p) : p := by
  simp only [xcond] at h
  simp only [evalOp] at hp
  cases hc : e c <;> simp only [hc] at h hp <;> try (cases h; done)
  cases ha : boolOf (e a) <;> cases hb : boolOf (e b) <;> simp only [ha, hb] at h hp <;> try (cases h; done)
  · cases hp; simpa using h
  · cases hp; exact h

theorem xc_load {t : Nat} {x : Operand} (h : xcond C e bl (.load t x) = true) (hp : (evalOp C e bl d ty (.load t x)).pre = some p) : p := by
  simp only [xcond] at h
  simp only [evalOp] at hp
  cases hx : e x <;> simp only [hx] at h hp <;> try (cases h; done)
  rename_i s i off
  cases ht : look C.types t <;> simp only [ht] at h hp <;> try (cases h; done)
  cases hb : bl s <;> simp only [hb] at h hp <;> try (cases h; done)
  cases hp
  simpa using h

theorem xc_store {t : Nat} {x v : Operand} (h : xcond C e bl (.store t x v) = true) (hp : (evalOp C e bl d ty (.store t x v)).pre = some p) : (evalOp C e bl d ty (.store t x v)).val ≠ .junk → p := by
  simp only [xcond] at h
  simp only [evalOp] at hp ⊢
  intro hne
  cases hx : e x <;> simp only [hx] at h hp hne <;> try (cases h; done)
  rename_i s i off
  cases ht : look C.types t with
  | none => simp only [ht] at hne; exact (hne rfl).elim
  | some ti =>
    simp only [ht] at hp hne
    cases hc : (Nat.beq (cellsOf (e v)).length ti.size && (cellsOf (e v)).all sc1) with
    | false => rw [hc] at hne; exact (hne rfl).elim
    | true =>
      rw [hc] at hp
      simp only [cond_true] at hp
      cases hb : bl s <;> simp only [hb] at h hp <;> try (cases h; done)
      simp only [Bool.and_eq_true, Nat.blt_eq, Nat.ble_eq] at h
      rw [h.2] at hp
      cases hp
      exact h.1

theorem xc_binOp {op : BinOp} {t u : Nat} {x y : Operand} (h : xcond C e bl (.binOp op t x y u) = true) (hp : (evalOp C e bl d ty (.binOp op t x y u)).pre = some p) : p := by
  simp only [xcond] at h
  simp only [evalOp] at hp
  cases hx : e x <;> simp only [hx] at h <;> try (cases h; done)
  cases hy : e y <;> simp only [hy] at h <;> try (cases h; done)
  rename_i k a k' b
  simp only [hx, hy] at hp
  cases op <;> simp only at h <;> try (cases h; done)
  all_goals
    simp only [Bool.and_eq_true, Bool.not_eq_true', decide_eq_false_iff_not] at h
    rw [h.1] at hp
    simp only [cond_true, arith, Option.some.injEq] at hp
    subst hp
    exact h.2

theorem xc_makeSlice {t : Nat} {x y : Operand} (h : xcond C e bl (.makeSlice t x y) = true) (hp : (evalOp C e bl d ty (.makeSlice t x y)).pre = some p) : (evalOp C e bl d ty (.makeSlice t x y)).val ≠ .junk → p := by
  intro hne
  simp only [xcond] at h
  simp only [evalOp] at hp hne
  cases ht : look C.types t with
  | none => rw [ht] at h; cases h
  | some ti =>
    obtain ⟨k, s, b, z, q⟩ := ti
    cases k <;> simp only [ht] at h hp hne <;> try (cases h; done)
    rename_i el
    cases he : look C.types el with
    | none => rw [he] at h; cases h
    | some te =>
      simp only [he] at h hp hne
      split at h
      · rename_i te' n m e1 e2 e3
        cases e1
        rw [e2, e3] at hp hne
        simp only [Bool.and_eq_true, decide_eq_true_eq] at h
        cases hb : bl d <;> simp only [hb] at hp hne <;> try (exact (hne rfl).elim)
        rw [h.1] at hp
        cases hp
        exact ⟨h.2.1.1.1, h.2.1.1.2, h.2.1.2, h.2.2⟩
      · cases h

theorem xc_slice {t : Nat} {x : Operand} {lo hi mx : Option Operand} (h : xcond C e bl (.slice t x lo hi mx) = true) (hp : (evalOp C e bl d ty (.slice t x lo hi mx)).pre = some p) : p := by
  cases mx with
  | some m => simp [xcond] at h
  | none =>
  simp only [xcond] at h
  simp only [evalOp] at hp
  cases ht : look C.types t with
  | none => rw [ht] at h; cases h
  | some ti =>
    obtain ⟨k, s, b, z, q⟩ := ti
    cases k <;> simp only [ht] at h hp <;> try (cases h; done)
    rename_i el
    cases he : look C.types el with
    | none => rw [he] at h; cases h
    | some te =>
      simp only [he] at h hp
      cases hx : e x <;> simp only [hx] at h hp <;> try (cases h; done)
      rename_i tg len get
      cases hl : lo.map e with
      | none =>
        cases hh : hi.map e with
        | none => simp only [hl, hh] at h; cases h
        | some vh =>
          cases vh <;> simp only [hl, hh] at h hp <;> try (cases h; done)
          cases hp
          simpa using h
      | some vl =>
        cases vl <;> cases hh : hi.map e <;> simp only [hl, hh] at h hp <;> try (cases h; done)
        · cases hp
          simp only [Bool.and_eq_true, decide_eq_true_eq] at h
          exact ⟨h.1.1, h.1.2, fun i hi => Nat.eq_of_beq_eq_true (range_all h.2 i hi)⟩
        · rename_i vh
          cases vh <;> simp only at h hp <;> try (cases h; done)
          cases hp
          simp only [Bool.and_eq_true, decide_eq_true_eq] at h
          exact ⟨h.1.1.1, h.1.1.2, h.1.2, fun i hi => Nat.eq_of_beq_eq_true (range_all h.2 i hi)⟩

theorem xc_indexAddr {t : Nat} {x i : Operand} (h : xcond C e bl (.indexAddr t x i) = true) (hp : (evalOp C e bl d ty (.indexAddr t x i)).pre = some p) : (evalOp C e bl d ty (.indexAddr t x i)).val ≠ .junk → p := by
  intro hne
  simp only [xcond] at h
  simp only [evalOp] at hp hne
  cases ht : look C.types t with
  | none => rw [ht] at h; cases h
  | some ti =>
    obtain ⟨k, s, b, z, q⟩ := ti
    cases hi : e i <;> cases k <;> simp only [ht, hi] at h hp hne <;> try (cases h; done)
    · rename_i kk n m el
      cases hx : e x <;> simp only [hx] at h hp hne <;> try (cases h; done)
      cases he : look C.types el with
      | none => simp only [he] at hne; exact (hne rfl).elim
      | some te =>
        simp only [he] at hp
        cases hp
        simpa using h
    · rename_i kk n el
      cases he : look C.types el with
      | none => rw [he] at h; cases h
      | some te =>
        simp only [he] at h hp hne
        cases hx : e x <;> simp only [hx] at h hp hne <;> try (cases h; done)
        · cases hp
          simp only [Bool.and_eq_true, decide_eq_true_eq] at h
          exact ⟨h.1.1, h.1.2, Nat.eq_of_beq_eq_true h.2⟩
        · rename_i s' len'
          cases hb : bl s' <;> simp only [hb] at h hp hne <;> try (cases h; done)
          simp only [Bool.and_eq_true, decide_eq_true_eq] at h
          rw [h.1] at hp
          cases hp
          exact ⟨h.2.1.1, h.2.1.2, Nat.le_of_ble_eq_true h.2.2⟩

theorem xc_index {t : Nat} {x i : Operand} (h : xcond C e bl (.index t x i) = true) (hp : (evalOp C e bl d ty (.index t x i)).pre = some p) : p := by
  simp only [xcond] at h
  simp only [evalOp] at hp
  cases ht : look C.types t with
  | none => rw [ht] at h; cases h
  | some ti =>
    obtain ⟨k, s, b, z, q⟩ := ti
    cases k <;> cases hi : e i <;> cases hx : e x <;> simp only [ht, hi, hx] at h hp <;> try (cases h; done)
    rename_i m el kk n cs
    cases he : look C.types el with
    | none => rw [he] at h; cases h
    | some te =>
      simp only [he] at h hp
      cases hp
      simp only [Bool.and_eq_true, decide_eq_true_eq] at h
      exact ⟨h.1.1, h.1.2, Nat.le_of_ble_eq_true h.2⟩

theorem xc_append {args : Array Operand} {ts : Array TypeId} (h : xcond C e bl (.call { callee := .builtin .append, args := args, argTypes := ts }) = true) (hp : (evalOp C e bl d ty (.call { callee := .builtin .append, args := args, argTypes := ts })).pre = some p) : (evalOp C e bl d ty (.call { callee := .builtin .append, args := args, argTypes := ts })).val ≠ .junk → p := by
  intro hne
  simp only [xcond] at h
  simp only [evalOp] at hp hne
  split at h
  · rename_i b tg n get' t t' e1 e2
    rw [e1, e2] at hp hne
    simp only at hp hne
    cases ht : Nat.beq t t' with
    | false => rw [ht] at h; cases h
    | true =>
      rw [ht] at h hp hne
      simp only [cond_true] at h hp hne
      cases hk : look C.types t with
      | none => rw [hk] at h; cases h
      | some ti =>
        obtain ⟨k, s, by', z, q⟩ := ti
        cases k <;> simp only [hk] at h hp hne <;> try (cases h; done)
        rename_i el
        cases he : look C.types el with
        | none => rw [he] at h; cases h
        | some te =>
          simp only [he] at h hp hne
          cases h1 : Nat.ble 1 te.size with
          | false => rw [h1] at h; cases h
          | true =>
            rw [h1] at h hp hne
            simp only [cond_true] at h hp hne
            have fin : ∀ {m : Nat} {g : Nat → List PV}, ((List.range m).all fun i => Nat.beq (g i).length te.size && (g i).all sc1) = true → ∀ i, i < m → (g i).length = te.size ∧ (g i).all sc1 = true := by
              intro m g hg i hi
              have := range_all hg i hi
              rw [Bool.and_eq_true] at this
              exact ⟨Nat.eq_of_beq_eq_true this.1, this.2⟩
            cases b with
            | nils =>
              simp only [Bool.and_eq_true] at h
              simp only at hp hne
              cases hb : bl d <;> simp only [hb] at hp hne <;> try (exact (hne rfl).elim)
              cases hp
              exact ⟨Nat.le_of_ble_eq_true h.1.1, Nat.le_of_ble_eq_true h.1.2, fin h.2⟩
            | slice tg len get =>
              cases tg with
              | none => simp only at h; cases h
              | some s' =>
                simp only at h hp hne
                cases hb : bl s' <;> simp only [hb] at h hp hne <;> try (cases h; done)
                simp only [Bool.and_eq_true] at h
                rw [h.1.1, h.1.2] at hp
                cases hp
                exact ⟨Nat.eq_of_beq_eq_true h.2.1.1.1.1, Nat.le_of_ble_eq_true h.2.1.1.1.2, Nat.le_of_ble_eq_true h.2.1.1.2, fun i hi => Nat.eq_of_beq_eq_true (range_all h.2.1.2 i hi), fin h.2.2⟩
            | _ => simp only at h; cases h
  · cases h

theorem xcond_ok {op : Op} (h : xcond C e bl op = true) (hp : (evalOp C e bl d ty op).pre = some p) (hne : (evalOp C e bl d ty op).val ≠ .junk) : p := by
  cases op with
  | pick c a b => exact xc_pick h hp
  | load t x => exact xc_load h hp
  | store t x v => exact xc_store h hp hne
  | binOp op t x y u => exact xc_binOp h hp
  | makeSlice t x y => exact xc_makeSlice h hp hne
  | slice t x lo hi mx => exact xc_slice h hp
  | indexAddr t x i => exact xc_indexAddr h hp hne
  | index t x i => exact xc_index h hp
  | call c =>
    obtain ⟨cl, args, ts⟩ := c
    cases cl with
    | builtin b =>
      cases b with
      | append => exact xc_append h hp hne
      | _ => simp [xcond] at h
    | _ => simp [xcond] at h
  | _ => simp [xcond] at h
end
end Go.V
