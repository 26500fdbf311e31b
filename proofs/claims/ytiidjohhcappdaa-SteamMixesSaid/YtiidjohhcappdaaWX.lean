/- An evaluator that runs by itself; what it finds is so in the machine. -/
import Derived.Test.YtiidjohhcappdaaW2

/- An evaluator that runs by itself: functions at given plain values, loops gone round by round; what it finds is so in the machine. -/
namespace Go.V

def setL {α : Type} : List (Nat × α) → Nat → α → List (Nat × α)
  | [], n, v => [(n, v)]
  | (m, a) :: r, n, v => bif Nat.beq m n then (m, v) :: r else (m, a) :: setL r n v

structure XS where
  sl : List (Nat × PV)
  bl : List (Nat × Blk)
def XS.st (x : XS) : St := mkSt x.sl x.bl
def XS.put (x : XS) (d : Option Nat) (v : PV) : XS :=
  match d with
  | some d => ⟨setL x.sl d v, x.bl⟩
  | none => x
def XS.setB (x : XS) (s : Nat) (b : Blk) : XS := ⟨x.sl, setL x.bl s b⟩

theorem nbeq {m n : Nat} : Nat.beq m n = true ↔ m = n := ⟨Nat.eq_of_beq_eq_true, fun h => by subst h; simp⟩
theorem look_setL {α : Type} : ∀ (l : List (Nat × α)) (n : Nat) (v : α) (m : Nat), look (setL l n v) m = bif Nat.beq m n then some v else look l m
  | [], n, v, m => by
    simp only [setL, look]
    cases h : Nat.beq n m with
    | true => rw [nbeq] at h; subst h; simp
    | false =>
      have : Nat.beq m n = false := by
        rw [Bool.eq_false_iff, Ne, nbeq] at h ⊢
        exact fun e => h e.symm
      rw [this]
  | (k, a) :: r, n, v, m => by
    simp only [setL]
    cases h : Nat.beq k n with
    | true =>
      rw [nbeq] at h; subst h
      simp only [cond_true, look]
      cases h : Nat.beq k m with
      | true => rw [nbeq] at h; subst h; simp
      | false =>
        have : Nat.beq m k = false := by
          rw [Bool.eq_false_iff, Ne, nbeq] at h ⊢
          exact fun e => h e.symm
        simp [this]
    | false =>
      simp only [cond_false, look]
      cases h2 : Nat.beq k m with
      | true =>
        rw [nbeq] at h2; subst h2
        simp [h]
      | false => simp only [cond_false, look_setL r n v m]

theorem XS.st_put (x : XS) (d : Option Nat) (v : PV) : (x.put d v).st = x.st.put d v := by
  cases d with
  | none => rfl
  | some d =>
    simp only [XS.put, XS.st, mkSt, St.put]
    congr 1
    funext n
    simp only [look_setL, upd]
    cases Nat.beq n d <;> simp
theorem XS.st_set (x : XS) (d : Nat) (v : PV) : (x.put (some d) v).st = x.st.set d v := XS.st_put x (some d) v
theorem XS.st_setB (x : XS) (s : Nat) (b : Blk) : (x.setB s b).st = x.st.setB (some (s, b)) := by
  simp only [XS.setB, XS.st, mkSt, St.setB]
  congr 1
  funext n
  simp only [look_setL, upd]
  cases Nat.beq n s <;> simp

-- Values are brought into their form before anything goes on with them.
def fzN {α : Type} (n : Nat) (k : Nat → α) : α := Nat.casesOn n (k 0) fun m => k (Nat.succ m)
def fzI {α : Type} (n : Int) (k : Int → α) : α := Int.casesOn n (fun n => fzN n fun n => k (Int.ofNat n)) fun n => fzN n fun n => k (Int.negSucc n)
def fzB {α : Type} (b : Bool) (k : Bool → α) : α := Bool.casesOn b (k false) (k true)
def fzL {α β : Type} (f : β → (β → α) → α) : List β → (List β → α) → α
  | [], k => k []
  | v :: vs, k => f v fun v => fzL f vs fun vs => k (v :: vs)
def fz1 {α : Type} (v : PV) (k : PV → α) : α :=
  match v with
  | .bool b => fzB b fun b => k (.bool b)
  | .int a n => fzI n fun n => k (.int a n)
  | .ptr s o => fzN s fun s => fzN o fun o => k (.ptr s o)
  | .eptr s i o => fzN s fun s => fzN i fun i => fzN o fun o => k (.eptr s i o)
  | .slice t len get => fzN len fun len => k (.slice t len get)
  | .own s len => fzN s fun s => fzN len fun len => k (.own s len)
  | v => k v
def fz2 {α : Type} (v : PV) (k : PV → α) : α :=
  match v with
  | .agg cs => fzL fz1 cs fun cs => k (.agg cs)
  | .cptr cs => fzL fz1 cs fun cs => k (.cptr cs)
  | .fn f a b => fzL fz1 a fun a => fzL fz1 b fun b => k (.fn f a b)
  | v => fz1 v k
def fz3 {α : Type} (v : PV) (k : PV → α) : α :=
  match v with
  | .tup vs => fzL fz2 vs fun vs => k (.tup vs)
  | .fn f a b => fzL fz2 a fun a => fzL fz2 b fun b => k (.fn f a b)
  | v => fz2 v k
def fzK {α : Type} (b : Blk) (k : Blk → α) : α :=
  match b with
  | .none => k .none
  | .jmp j => k (.jmp j)
  | .cells l => fzL fz2 l fun l => k (.cells l)
  | .arr n s g => fzN n fun n => k (.arr n s g)
  | .grow n e s => fzN n fun n => k (.grow n e s)
theorem fzN_eq {α : Type} (n : Nat) (k : Nat → α) : fzN n k = k n := by cases n <;> rfl
theorem fzI_eq {α : Type} (n : Int) (k : Int → α) : fzI n k = k n := by cases n with
  | ofNat n => exact fzN_eq n fun n => k (Int.ofNat n)
  | negSucc n => exact fzN_eq n fun n => k (Int.negSucc n)
theorem fzB_eq {α : Type} (b : Bool) (k : Bool → α) : fzB b k = k b := by cases b <;> rfl
theorem fzL_eq {α β : Type} {f : β → (β → α) → α} (hf : ∀ v k, f v k = k v) : ∀ (l : List β) (k : List β → α), fzL f l k = k l
  | [], k => rfl
  | v :: vs, k => by simp only [fzL, hf, fzL_eq hf vs]
theorem fz1_eq {α : Type} (v : PV) (k : PV → α) : fz1 v k = k v := by cases v <;> simp only [fz1, fzN_eq, fzI_eq, fzB_eq]
theorem fz2_eq {α : Type} (v : PV) (k : PV → α) : fz2 v k = k v := by cases v <;> simp only [fz2, fz1_eq, fzL_eq fz1_eq]
theorem fz3_eq {α : Type} (v : PV) (k : PV → α) : fz3 v k = k v := by cases v <;> simp only [fz3, fz2_eq, fzL_eq fz2_eq]
theorem fzK_eq {α : Type} (b : Blk) (k : Blk → α) : fzK b k = k b := by cases b <;> simp only [fzK, fzL_eq fz2_eq, fzN_eq]

/-- An operation's condition, reckoned. -/
def xcond (C : Ctx) (e : Operand → PV) (bl : Nat → Blk) (op : Op) : Bool :=
  match op with
  | .pick c a b =>
    match e c with
    | .bool c => match boolOf (e a), boolOf (e b) with
      | none, some _ => !c
      | some _, none => c
      | _, _ => false
    | _ => false
  | .load t x =>
    match e x, look C.types t with
    | .eptr s i off, some ti => match bl s with
      | .arr len _ get => Nat.blt i len && Nat.ble (off + ti.size) (get i).length
      | _ => false
    | _, _ => false
  | .store _ x v =>
    match e x with
    | .eptr s i off => match bl s with
      | .arr len _ get => Nat.blt i len && Nat.ble (off + (cellsOf (e v)).length) (get i).length && (cellsOf (e v)).all plain1
      | _ => false
    | _ => false
  | .binOp op _ x y _ =>
    match e x, e y with
    | .int k _, .int k' b => match op with
      | .quo | .rem => kindEq k k' && !decide (b = 0)
      | _ => false
    | _, _ => false
  | .makeSlice t x y =>
    match look C.types t with
    | some { k := .slice el, .. } =>
      match look C.types el, e x, e y with
      | some te, .int .i64 n, .int .i64 m => Nat.ble 1 te.size && (decide (n = m) && decide (0 ≤ n) && decide (n ≤ 1099511627776) && decide (te.bytes * n ≤ 140737488355328))
      | _, _, _ => false
    | _ => false
  | .slice t x lo hi none =>
    match look C.types t with
    | some { k := .slice el, .. } =>
      match look C.types el, e x with
      | some te, .slice _ len get =>
        match lo.map e, hi.map e with
        | none, some (.int _ h) => decide (0 ≤ h) && decide (h ≤ len)
        | some (.int _ l), none => decide (0 ≤ l) && decide (l ≤ len) && (List.range len).all fun i => Nat.beq (get i).length te.size
        | some (.int _ l), some (.int _ h) => decide (0 ≤ l) && decide (l ≤ h) && decide (h ≤ len) && (List.range len).all fun i => Nat.beq (get i).length te.size
        | _, _ => false
      | _, _ => false
    | _ => false
  | .indexAddr t x i =>
    match look C.types t, e i with
    | some { k := .slice el, .. }, .int _ n =>
      match look C.types el, e x with
      | some te, .slice _ len get => decide (0 ≤ n) && decide (n < len) && Nat.beq (get n.toNat).length te.size
      | some te, .own s len => match bl s with
        | .arr len' sz _ => Nat.beq sz te.size && (decide (0 ≤ n) && decide (n < len) && Nat.ble len len')
        | _ => false
      | _, _ => false
    | some { k := .array m _, .. }, .int _ n =>
      match e x with
      | .ptr _ _ => decide (0 ≤ n) && decide (n < m)
      | _ => false
    | _, _ => false
  | .index t x i =>
    match look C.types t, e i, e x with
    | some { k := .array m el, .. }, .int _ n, .agg cs =>
      match look C.types el with
      | some te => decide (0 ≤ n) && decide (n < m) && Nat.ble (n.toNat * te.size + te.size) cs.length
      | none => false
    | _, _, _ => false
  | .call { callee := .builtin .append, args, argTypes } =>
    match args.toList.map e, argTypes.toList with
    | [b, .slice _ n get'], [t, t'] =>
      bif Nat.beq t t' then
      match look C.types t with
      | some { k := .slice el, .. } =>
        match look C.types el with
        | some te => bif Nat.ble 1 te.size then
          match b with
          | .nils => Nat.blt n 2147483648 && Nat.ble (n * te.bytes) 140737488355328 && (List.range n).all fun i => Nat.beq (get' i).length te.size && (get' i).all sc1
          | .slice (some s) len get => match bl s with
            | .grow L el' sz' => Nat.beq el el' && Nat.beq sz' te.size && (Nat.beq L len && Nat.blt (len + n) 2147483648 && Nat.ble ((len + n) * te.bytes) 140737488355328 && ((List.range len).all fun i => Nat.beq (get i).length te.size) && (List.range n).all fun i => Nat.beq (get' i).length te.size && (get' i).all sc1)
            | _ => false
          | _ => false
          else false
        | none => false
      | _ => false
      else false
    | _, _ => false
  | _ => false
end Go.V

/- An operation's condition, reckoned, holds. -/
namespace Go.V

section
variable {C : Ctx} {e : Operand → PV} {bl : Nat → Blk} {d ty : Nat} {p : Prop}

theorem range_all {n : Nat} {f : Nat → Bool} (h : (List.range n).all f = true) : ∀ i, i < n → f i = true := by
  intro i hi
  rw [List.all_eq_true] at h
  exact h i (List.mem_range.2 hi)

theorem xc_pick {c a b : Operand} (h : xcond C e bl (.pick c a b) = true) (hp : (evalOp C e bl d ty (.pick c a b)).pre = some p) : p := by
  simp only [xcond] at h
  simp only [evalOp] at hp
  cases hc : e c <;> simp only [hc] at h hp <;> try (cases h; done)
  cases ha : boolOf (e a) <;> cases hb : boolOf (e b) <;> simp only [ha, hb] at h hp <;> try (cases h; done)
  · cases hp; simpa using h
  · cases hp; exact h

theorem xc_load {t : Nat} {x : Operand} (h : xcond C e bl (.load t x) = true) (hp : (evalOp C e bl d ty (.load t x)).pre = some p) : p := by
  simp only [xcond] at h
  simp only [evalOp] at hp
  cases hx : e x <;> simp only [hx] at h hp <;> try (cases h; done)
  rename_i s i off
  cases ht : look C.types t <;> simp only [ht] at h hp <;> try (cases h; done)
  cases hb : bl s <;> simp only [hb] at h hp <;> try (cases h; done)
  cases hp
  simpa using h

theorem xc_store {t : Nat} {x v : Operand} (h : xcond C e bl (.store t x v) = true) (hp : (evalOp C e bl d ty (.store t x v)).pre = some p) : (evalOp C e bl d ty (.store t x v)).val ≠ .junk → p := by
  simp only [xcond] at h
  simp only [evalOp] at hp ⊢
  intro hne
  cases hx : e x <;> simp only [hx] at h hp hne <;> try (cases h; done)
  rename_i s i off
  cases ht : look C.types t with
  | none => simp only [ht] at hne; exact (hne rfl).elim
  | some ti =>
    simp only [ht] at hp hne
    cases hc : (Nat.beq (cellsOf (e v)).length ti.size && (cellsOf (e v)).all sc1) with
    | false => rw [hc] at hne; exact (hne rfl).elim
    | true =>
      rw [hc] at hp
      simp only [cond_true] at hp
      cases hb : bl s <;> simp only [hb] at h hp <;> try (cases h; done)
      simp only [Bool.and_eq_true, Nat.blt_eq, Nat.ble_eq] at h
      rw [h.2] at hp
      cases hp
      exact h.1

theorem xc_binOp {op : BinOp} {t u : Nat} {x y : Operand} (h : xcond C e bl (.binOp op t x y u) = true) (hp : (evalOp C e bl d ty (.binOp op t x y u)).pre = some p) : p := by
  simp only [xcond] at h
  simp only [evalOp] at hp
  cases hx : e x <;> simp only [hx] at h <;> try (cases h; done)
  cases hy : e y <;> simp only [hy] at h <;> try (cases h; done)
  rename_i k a k' b
  simp only [hx, hy] at hp
  cases op <;> simp only at h <;> try (cases h; done)
  all_goals
    simp only [Bool.and_eq_true, Bool.not_eq_true', decide_eq_false_iff_not] at h
    rw [h.1] at hp
    simp only [cond_true, arith, Option.some.injEq] at hp
    subst hp
    exact h.2

theorem xc_makeSlice {t : Nat} {x y : Operand} (h : xcond C e bl (.makeSlice t x y) = true) (hp : (evalOp C e bl d ty (.makeSlice t x y)).pre = some p) : (evalOp C e bl d ty (.makeSlice t x y)).val ≠ .junk → p := by
  intro hne
  simp only [xcond] at h
  simp only [evalOp] at hp hne
  cases ht : look C.types t with
  | none => rw [ht] at h; cases h
  | some ti =>
    obtain ⟨k, s, b, z, q⟩ := ti
    cases k <;> simp only [ht] at h hp hne <;> try (cases h; done)
    rename_i el
    cases he : look C.types el with
    | none => rw [he] at h; cases h
    | some te =>
      simp only [he] at h hp hne
      split at h
      · rename_i te' n m e1 e2 e3
        cases e1
        rw [e2, e3] at hp hne
        simp only [Bool.and_eq_true, decide_eq_true_eq] at h
        cases hb : bl d <;> simp only [hb] at hp hne <;> try (exact (hne rfl).elim)
        rw [h.1] at hp
        cases hp
        exact ⟨h.2.1.1.1, h.2.1.1.2, h.2.1.2, h.2.2⟩
      · cases h

theorem xc_slice {t : Nat} {x : Operand} {lo hi mx : Option Operand} (h : xcond C e bl (.slice t x lo hi mx) = true) (hp : (evalOp C e bl d ty (.slice t x lo hi mx)).pre = some p) : p := by
  cases mx with
  | some m => simp [xcond] at h
  | none =>
  simp only [xcond] at h
  simp only [evalOp] at hp
  cases ht : look C.types t with
  | none => rw [ht] at h; cases h
  | some ti =>
    obtain ⟨k, s, b, z, q⟩ := ti
    cases k <;> simp only [ht] at h hp <;> try (cases h; done)
    rename_i el
    cases he : look C.types el with
    | none => rw [he] at h; cases h
    | some te =>
      simp only [he] at h hp
      cases hx : e x <;> simp only [hx] at h hp <;> try (cases h; done)
      rename_i tg len get
      cases hl : lo.map e with
      | none =>
        cases hh : hi.map e with
        | none => simp only [hl, hh] at h; cases h
        | some vh =>
          cases vh <;> simp only [hl, hh] at h hp <;> try (cases h; done)
          cases hp
          simpa using h
      | some vl =>
        cases vl <;> cases hh : hi.map e <;> simp only [hl, hh] at h hp <;> try (cases h; done)
        · cases hp
          simp only [Bool.and_eq_true, decide_eq_true_eq] at h
          exact ⟨h.1.1, h.1.2, fun i hi => Nat.eq_of_beq_eq_true (range_all h.2 i hi)⟩
        · rename_i vh
          cases vh <;> simp only at h hp <;> try (cases h; done)
          cases hp
          simp only [Bool.and_eq_true, decide_eq_true_eq] at h
          exact ⟨h.1.1.1, h.1.1.2, h.1.2, fun i hi => Nat.eq_of_beq_eq_true (range_all h.2 i hi)⟩

theorem xc_indexAddr {t : Nat} {x i : Operand} (h : xcond C e bl (.indexAddr t x i) = true) (hp : (evalOp C e bl d ty (.indexAddr t x i)).pre = some p) : (evalOp C e bl d ty (.indexAddr t x i)).val ≠ .junk → p := by
  intro hne
  simp only [xcond] at h
  simp only [evalOp] at hp hne
  cases ht : look C.types t with
  | none => rw [ht] at h; cases h
  | some ti =>
    obtain ⟨k, s, b, z, q⟩ := ti
    cases hi : e i <;> cases k <;> simp only [ht, hi] at h hp hne <;> try (cases h; done)
    · rename_i kk n m el
      cases hx : e x <;> simp only [hx] at h hp hne <;> try (cases h; done)
      cases he : look C.types el with
      | none => simp only [he] at hne; exact (hne rfl).elim
      | some te =>
        simp only [he] at hp
        cases hp
        simpa using h
    · rename_i kk n el
      cases he : look C.types el with
      | none => rw [he] at h; cases h
      | some te =>
        simp only [he] at h hp hne
        cases hx : e x <;> simp only [hx] at h hp hne <;> try (cases h; done)
        · cases hp
          simp only [Bool.and_eq_true, decide_eq_true_eq] at h
          exact ⟨h.1.1, h.1.2, Nat.eq_of_beq_eq_true h.2⟩
        · rename_i s' len'
          cases hb : bl s' <;> simp only [hb] at h hp hne <;> try (cases h; done)
          simp only [Bool.and_eq_true, decide_eq_true_eq] at h
          rw [h.1] at hp
          cases hp
          exact ⟨h.2.1.1, h.2.1.2, Nat.le_of_ble_eq_true h.2.2⟩

theorem xc_index {t : Nat} {x i : Operand} (h : xcond C e bl (.index t x i) = true) (hp : (evalOp C e bl d ty (.index t x i)).pre = some p) : p := by
  simp only [xcond] at h
  simp only [evalOp] at hp
  cases ht : look C.types t with
  | none => rw [ht] at h; cases h
  | some ti =>
    obtain ⟨k, s, b, z, q⟩ := ti
    cases k <;> cases hi : e i <;> cases hx : e x <;> simp only [ht, hi, hx] at h hp <;> try (cases h; done)
    rename_i m el kk n cs
    cases he : look C.types el with
    | none => rw [he] at h; cases h
    | some te =>
      simp only [he] at h hp
      cases hp
      simp only [Bool.and_eq_true, decide_eq_true_eq] at h
      exact ⟨h.1.1, h.1.2, Nat.le_of_ble_eq_true h.2⟩

theorem xc_append {args : Array Operand} {ts : Array TypeId} (h : xcond C e bl (.call { callee := .builtin .append, args := args, argTypes := ts }) = true) (hp : (evalOp C e bl d ty (.call { callee := .builtin .append, args := args, argTypes := ts })).pre = some p) : (evalOp C e bl d ty (.call { callee := .builtin .append, args := args, argTypes := ts })).val ≠ .junk → p := by
  intro hne
  simp only [xcond] at h
  simp only [evalOp] at hp hne
  split at h
  · rename_i b tg n get' t t' e1 e2
    rw [e1, e2] at hp hne
    simp only at hp hne
    cases ht : Nat.beq t t' with
    | false => rw [ht] at h; cases h
    | true =>
      rw [ht] at h hp hne
      simp only [cond_true] at h hp hne
      cases hk : look C.types t with
      | none => rw [hk] at h; cases h
      | some ti =>
        obtain ⟨k, s, by', z, q⟩ := ti
        cases k <;> simp only [hk] at h hp hne <;> try (cases h; done)
        rename_i el
        cases he : look C.types el with
        | none => rw [he] at h; cases h
        | some te =>
          simp only [he] at h hp hne
          cases h1 : Nat.ble 1 te.size with
          | false => rw [h1] at h; cases h
          | true =>
            rw [h1] at h hp hne
            simp only [cond_true] at h hp hne
            have fin : ∀ {m : Nat} {g : Nat → List PV}, ((List.range m).all fun i => Nat.beq (g i).length te.size && (g i).all sc1) = true → ∀ i, i < m → (g i).length = te.size ∧ (g i).all sc1 = true := by
              intro m g hg i hi
              have := range_all hg i hi
              rw [Bool.and_eq_true] at this
              exact ⟨Nat.eq_of_beq_eq_true this.1, this.2⟩
            cases b with
            | nils =>
              simp only [Bool.and_eq_true] at h
              simp only at hp hne
              cases hb : bl d <;> simp only [hb] at hp hne <;> try (exact (hne rfl).elim)
              cases hp
              exact ⟨Nat.le_of_ble_eq_true h.1.1, Nat.le_of_ble_eq_true h.1.2, fin h.2⟩
            | slice tg len get =>
              cases tg with
              | none => simp only at h; cases h
              | some s' =>
                simp only at h hp hne
                cases hb : bl s' <;> simp only [hb] at h hp hne <;> try (cases h; done)
                simp only [Bool.and_eq_true] at h
                rw [h.1.1, h.1.2] at hp
                cases hp
                exact ⟨Nat.eq_of_beq_eq_true h.2.1.1.1.1, Nat.le_of_ble_eq_true h.2.1.1.1.2, Nat.le_of_ble_eq_true h.2.1.1.2, fun i hi => Nat.eq_of_beq_eq_true (range_all h.2.1.2 i hi), fin h.2.2⟩
            | _ => simp only at h; cases h
  · cases h

theorem xcond_ok {op : Op} (h : xcond C e bl op = true) (hp : (evalOp C e bl d ty op).pre = some p) (hne : (evalOp C e bl d ty op).val ≠ .junk) : p := by
  cases op with
  | pick c a b => exact xc_pick h hp
  | load t x => exact xc_load h hp
  | store t x v => exact xc_store h hp hne
  | binOp op t x y u => exact xc_binOp h hp
  | makeSlice t x y => exact xc_makeSlice h hp hne
  | slice t x lo hi mx => exact xc_slice h hp
  | indexAddr t x i => exact xc_indexAddr h hp hne
  | index t x i => exact xc_index h hp
  | call c =>
    obtain ⟨cl, args, ts⟩ := c
    cases cl with
    | builtin b =>
      cases b with
      | append => exact xc_append h hp hne
      | _ => simp [xcond] at h
    | _ => simp [xcond] at h
  | _ => simp [xcond] at h
end
end Go.V

/- The evaluator, and that what it finds is so. -/
namespace Go.V

structure XCalls where
  s : Nat → List PV → Option PV
  e : Nat → Nat → List PV → List (Nat × Blk) → Option (PV × List (Nat × Blk))

def specX (X : XCalls) (f : Nat) : Spec := fun as => (some ((X.s f as).isSome = true), (X.s f as).getD .junk)
def effX (X : XCalls) (f off : Nat) : Eff := fun as bl K => ∃ bll v bl', bl = (fun s => (look bll s).getD .none) ∧ X.e f off as bll = some (v, bl') ∧ K v fun s => (look bl' s).getD .none
def gap : Nat := 1000
/-- What is fixed: the types, the functions, those that work on blocks of their callers. -/
structure XT where
  ts : List (Nat × TI)
  G : List (Nat × Func)
  L : List Nat
def XT.ctx (T : XT) (X : XCalls) (off : Nat) : Ctx := ⟨T.ts, (T.G.map Prod.fst).map fun f => (f, specX X f), T.L.map fun f => (f, off + gap, effX X f (off + gap)), off, false, [], [], [], none, false⟩

section
variable {ρ : Type}

def preOk (p : Option Prop) (b : Bool) : Bool :=
  match p with
  | none => true
  | some _ => b
def xplain (C : Ctx) (x : XS) (o : Oper) (k : XS → Option ρ) : Option ρ :=
  match evalOp C (ev x.st.slots) x.st.blocks (o.dst.getD 0 + C.off) o.type o.op with
  | ⟨p, v, u⟩ =>
    bif preOk p (xcond C (ev x.st.slots) x.st.blocks o.op) then
      fz3 v fun v => bif nj v then
        match u with
        | none => k (x.put o.dst v)
        | some (s, b) => fzN s fun s => fzK b fun b => k ((x.setB s b).put o.dst v)
        else none
    else none

def callOf (x : XS) (op : Op) : Option (Nat × List PV) :=
  match op with
  | .call { callee := .value f, args, .. } =>
    match ev x.st.slots f with
    | .fn (.func f) a b => some (f, a ++ (args.toList.map (ev x.st.slots) ++ b))
    | _ => none
  | _ => none

def xrun0 (C : Ctx) (X : XCalls) (x : XS) (o : Oper) (k : XS → Option ρ) : Option ρ :=
  match callOf x o.op with
  | some (f, as) => fzL fz3 (as.map export1) fun as => bif as.all plain2 then
      match X.s f as with
      | some v => k (x.put o.dst v)
      | none => none
      else none
  | none => xplain C x o k

def xrun1 (T : XT) (X : XCalls) (off : Nat) (x : XS) (o : Oper) (k : XS → Option ρ) : Option ρ :=
  match callOf x o.op with
  | some (f, as) => bif has T.L f then fzL fz3 as fun as =>
      match X.e f (off + gap) as x.bl with
      | some (v, bl) => k (XS.put ⟨x.sl.map fun y => (y.1, prune (fun s => Nat.blt s (off + gap)) y.2), bl⟩ o.dst v)
      | none => none
      else xrun0 (T.ctx X off) X x o k
  | none => xplain (T.ctx X off) x o k

def xstepO (T : XT) (X : XCalls) (off : Nat) (ops : List Oper) (o : Oper) (x : XS) (k : XS → Option ρ) : Option ρ :=
  match o.guard with
  | none => xrun1 T X off x o k
  | some (j, want) =>
    match (ops[j]?).bind Oper.dst with
    | none => none
    | some g =>
      match x.st.slots g with
      | .tt => bif want then xrun1 T X off x o k else k (x.put o.dst .und)
      | .ff => bif want then k (x.put o.dst .und) else xrun1 T X off x o k
      | .und => k (x.put o.dst .und)
      | .bool b => bif beqB b want then xrun1 T X off (x.put (some g) (bif want then .tt else .ff)) o k
          else k ((x.put (some g) (bif want then .ff else .tt)).put o.dst .und)
      | _ => none
def xops (T : XT) (X : XCalls) (off : Nat) (ops : List Oper) : List Oper → XS → (XS → Option ρ) → Option ρ
  | [], x, k => k x
  | o :: rest, x, k => xstepO T X off ops o x fun x => xops T X off ops rest x k

def xstepD (C : Ctx) (X : XCalls) (ops : List Oper) (i : Nat) (o : Oper) (x : XS) (tr : Trace) (k : XS → Trace → Option ρ) : Option ρ :=
  let go := fun x : XS =>
    match touch (ev x.st.slots) (o.dst.getD 0 + C.off) o.op with
    | none => xrun0 C X x o fun x' => k x' tr
    | some s => xrun0 C X x o fun x' => k x' (tr ++ [(i, some s, touches o.op)])
  match o.guard with
  | none => go x
  | some (j, want) =>
    match (ops[j]?).bind Oper.dst with
    | none => none
    | some g =>
      match x.st.slots g with
      | .tt => bif want then go x else k (x.put o.dst .und) tr
      | .ff => bif want then k (x.put o.dst .und) tr else go x
      | .und => k (x.put o.dst .und) tr
      | .bool b => bif beqB b want then go (x.put (some g) (.bool want)) else k ((x.put (some g) (.bool (!want))).put o.dst .und) tr
      | _ => none
def xD (C : Ctx) (X : XCalls) (ops : List Oper) (an : List Nat) : List (Nat × Oper) → XS → Trace → (XS → Option ρ) → Option ρ
  | [], x, tr, k => bif calm an tr then k x else none
  | y :: rest, x, tr, k => xstepD C X ops y.1 y.2 x tr fun x tr => xD C X ops an rest x tr k

def xDs (T : XT) (X : XCalls) (off : Nat) (ops : List Oper) (an : List Nat) : Nat → List (Nat × Oper) → XS → (XS → Option ρ) → Option ρ
  | 0, l, x, k => xD (T.ctx X off) X ops an l x [] k
  | n + 1, l, x, k =>
    match findCut an [] l with
    | none => xD (T.ctx X off) X ops an l x [] k
    | some (p, y, q) => xD (T.ctx X off) X ops an p x [] fun x => xops T X off ops [y.2] x fun x => xDs T X off ops an n q x k

inductive XO where
  | normal (x : XS)
  | exit (n : Nat) (x : XS)
  | ret (x : XS)
def XO.out : XO → Out
  | .normal x => .normal x.st
  | .exit n x => .exit n x.st
  | .ret x => .ret x.st

/-- The names of blocks that a loop's round makes. -/
def dsts (off : Nat) : List Oper → List Nat
  | [] => []
  | o :: r => match o.op, o.dst with
    | .alloc _, some d | .box _ _, some d | .makeSlice _ _ _, some d => (d + off) :: dsts off r
    | .assign x, some d => bif nilConst x then (d + off) :: dsts off r else dsts off r
    | _, _ => dsts off r
def made (off : Nat) : Code → List Nat
  | .region _ ops _ => dsts off ops.toList
  | .seq a b | .cond _ a b => made off a ++ made off b
  | .block _ a | .loop a => made off a
  | _ => []
def xq (off N : Nat) (D : List Nat) (s : Nat) : Bool := Nat.blt s off || (Nat.blt s (off + N) && !has D s)
def xclean (off N : Nat) (D : List Nat) (x : XS) : XS :=
  ⟨(x.sl.filter fun y => Nat.blt y.1 N).map fun y => (y.1, prune (xq off N D) y.2), (x.bl.filter fun y => xq off N D y.1).map fun y => (y.1, pruneB (xq off N D) y.2)⟩
def fzS (x : XS) (k : XS → Option ρ) : Option ρ := fzL (fun y k => fz3 y.2 fun v => k (y.1, v)) x.sl fun sl => fzL (fun y k => fzK y.2 fun v => k (y.1, v)) x.bl fun bl => k ⟨sl, bl⟩

def xiter (off N : Nat) (D : List Nat) (body : XS → (XO → Option ρ) → Option ρ) : Nat → XS → (XO → Option ρ) → Option ρ
  | 0, _, _ => none
  | n + 1, x, k => body x fun o => match o with
    | .normal x' => fzS (xclean off N D x') fun x' => xiter off N D body n x' k
    | o => k o

def xcode (T : XT) (X : XCalls) (off N F : Nat) : Code → XS → (XO → Option ρ) → Option ρ
  | .skip, x, k => k (.normal x)
  | .region _ ops draw, x, k =>
    bif draw then xDs T X off ops.toList (ancs ops.toList []) ops.toList.length (ops.toList.zipIdx.map fun (o, i) => (i, o)) x fun x => k (.normal x)
    else xops T X off ops.toList ops.toList x fun x => k (.normal x)
  | .seq a b, x, k => xcode T X off N F a x fun o => match o with | .normal x => xcode T X off N F b x k | o => k o
  | .cond c a b, x, k =>
    match ev x.st.slots c with
    | .tt => xcode T X off N F a x k
    | .ff => xcode T X off N F b x k
    | .bool c => bif c then xcode T X off N F a x k else xcode T X off N F b x k
    | _ => none
  | .block id a, x, k => xcode T X off N F a x fun o => match o with | .exit n x => bif Nat.beq n id then k (.normal x) else k (.exit n x) | o => k o
  | .loop a, x, k => fzL fzN (made off a) fun D => fzS (xclean off N D x) fun x => xiter off N D (fun x k => xcode T X off N F a x k) F x k
  | .exit n, x, k => k (.exit n x)
  | .ret, x, k => k (.ret x)
  | _, _, _ => none
end

def enum (args : List PV) : List (Nat × PV) := (List.range args.length).zip args

def xstep (T : XT) (F : Nat) (X : XCalls) : XCalls where
  s f args :=
    match look T.G f with
    | none => none
    | some fn => match fn.body with
      | none => none
      | some c => bif Nat.beq args.length (fn.params.size + fn.nfree) then
        xcode T X 0 fn.ntmps F c ⟨enum args, []⟩ fun o => match o with
          | .normal x | .ret x => bif fn.results.toList.all (fun r => plain2 (frz x.st.blocks (resOf (T.ctx X 0) x.st r))) then fz3 (results1 (T.ctx X 0) fn.results.toList x.st) fun v => some v else none
          | _ => none
        else none
  e f off args bl :=
    match look T.G f with
    | none => none
    | some fn => match fn.body with
      | none => none
      | some c => bif Nat.beq args.length (fn.params.size + fn.nfree) then
        xcode T X off fn.ntmps F c ⟨enum args, bl⟩ fun o => match o with
          | .normal x | .ret x => bif fn.results.toList.all (fun r => nj (resOf (T.ctx X off) x.st r)) then
              fz3 (prune (fun s => Nat.blt s off) (match fn.results.toList with | [] => .tup [] | [r] => frzE off x.st.blocks (resOf (T.ctx X off) x.st r) | _ => .junk)) fun v =>
              fzL (fun y k => fzK y.2 fun v => k (y.1, v)) ((x.bl.filter fun y => Nat.blt y.1 off).map fun y => (y.1, pruneB (fun s => Nat.blt s off) y.2)) fun bl => some (v, bl)
              else none
          | _ => none
        else none
def xnone : XCalls := ⟨fun _ _ => none, fun _ _ _ _ => none⟩
def xF (T : XT) (F : Nat) : Nat → XCalls
  | 0 => xnone
  | n + 1 => xstep T F (xF T F n)

end Go.V

/- What the evaluator finds is so. -/
namespace Go.V

theorem look_mapv {α β : Type} (g : α → β) : ∀ (l : List (Nat × α)) (n : Nat), look (l.map fun y => (y.1, g y.2)) n = (look l n).map g
  | [], n => rfl
  | (m, a) :: r, n => by
    simp only [List.map_cons, look]
    cases Nat.beq m n with
    | true => rfl
    | false => exact look_mapv g r n
theorem look_filter {α : Type} (q : Nat → Bool) : ∀ (l : List (Nat × α)) (n : Nat), look (l.filter fun y => q y.1) n = bif q n then look l n else none
  | [], n => by cases q n <;> rfl
  | (m, a) :: r, n => by
    simp only [List.filter_cons]
    cases hq : q m with
    | true =>
      simp only [if_true, look]
      cases h : Nat.beq m n with
      | true => rw [nbeq] at h; subst h; simp [hq]
      | false => simp only [cond_false, look_filter q r n]
    | false =>
      simp only [Bool.false_eq_true, if_false, look, look_filter q r n]
      cases h : Nat.beq m n with
      | true => rw [nbeq] at h; subst h; simp [hq]
      | false => rfl
theorem look_has {α : Type} : ∀ (l : List (Nat × α)) (n : Nat) (a : α), look l n = some a → has (l.map Prod.fst) n = true
  | [], n, a, h => by cases h
  | (m, b) :: r, n, a, h => by
    simp only [look] at h
    rw [has_iff]
    cases hb : Nat.beq m n with
    | true => rw [nbeq] at hb; subst hb; simp
    | false =>
      rw [hb] at h
      have := look_has r n a h
      rw [has_iff] at this
      exact List.mem_cons_of_mem _ this

theorem prune_junk (q : Nat → Bool) : prune q .junk = .junk := by simp [prune]

section
variable {ρ : Type} {r : ρ}

theorem xplain_ok {C : Ctx} {x : XS} {o : Oper} {k : XS → Option ρ} {K : St → Prop} (h : xplain C x o k = some r) (hk : ∀ x', k x' = some r → K x'.st) : run0 C x.st o K := by
  rw [run0_eq]
  unfold run1s
  unfold xplain at h
  dsimp only
  cases he : evalOp C (ev x.st.slots) x.st.blocks (o.dst.getD 0 + C.off) o.type o.op with
  | mk p v u =>
    rw [he] at h
    simp only [fz3_eq] at h
    cases hc : preOk p (xcond C (ev x.st.slots) x.st.blocks o.op) with
    | false => rw [hc] at h; cases h
    | true =>
      rw [hc] at h
      simp only [cond_true] at h
      cases hn : nj v with
      | false => rw [hn] at h; cases h
      | true =>
        rw [hn] at h
        simp only [cond_true] at h
        have hfin : K ((x.st.setB u).put o.dst v) := by
          cases u with
          | none => have := hk _ h; rw [XS.st_put] at this; exact this
          | some y =>
            obtain ⟨s, b⟩ := y
            simp only [fzN_eq, fzK_eq] at h
            have := hk _ h
            rw [XS.st_put, XS.st_setB] at this
            exact this
        cases p with
        | none => exact hfin
        | some p =>
          refine ⟨?_, hfin⟩
          refine xcond_ok (d := o.dst.getD 0 + C.off) (ty := o.type) hc (by rw [he]) ?_
          rw [he]
          rintro (rfl : v = .junk)
          cases hn

theorem callOf_some {x : XS} {op : Op} {f : Nat} {as : List PV} (h : callOf x op = some (f, as)) : ∃ g args ts a b, op = .call { callee := .value g, args := args, argTypes := ts } ∧ ev x.st.slots g = .fn (.func f) a b ∧ as = a ++ (args.toList.map (ev x.st.slots) ++ b) := by
  unfold callOf at h
  split at h
  · rename_i g args ts
    split at h
    · rename_i f' a b hf
      simp only [Option.some.injEq, Prod.mk.injEq] at h
      obtain ⟨rfl, rfl⟩ := h
      exact ⟨g, args, ts, a, b, rfl, hf, rfl⟩
    · cases h
  · cases h

theorem effOf_none {C : Ctx} {x : XS} {o : Oper} (h : callOf x o.op = none) : effOf C x.st o = none := by
  unfold callOf at h
  unfold effOf
  split at h
  · rename_i g args ts ho
    split at h
    · cases h
    · rename_i hne
      rw [ho]
      dsimp only
      split
      · rename_i f a b hf; exact (hne f a b hf).elim
      · rfl
  · rename_i hne
    split
    · rename_i g args ts ho; exact (hne g args ts ho).elim
    · rfl

structure XSound (P : Program) (T : XT) (X : XCalls) : Prop where
  known : ∀ f as v, X.s f as = some v → has (T.G.map Prod.fst) f = true
  s : ∀ f, has (T.G.map Prod.fst) f = true → SF P f (specX X f)
  e : ∀ f off, has T.L f = true → SE P f off (effX X f off)

variable {P : Program} {T : XT} {X : XCalls}

theorem ctx_spec (off f : Nat) : look (T.ctx X off).specs f = if has (T.G.map Prod.fst) f then some (specX X f) else none := look_map (fun f => specX X f) _ f
theorem ctx_eff (off f : Nat) : look (T.ctx X off).effs f = if has T.L f then some (off + gap, effX X f (off + gap)) else none := look_map (fun f => (off + gap, effX X f (off + gap))) _ f
theorem XSound.ctx (h : XSound P T X) (ht : ∀ t ti, look T.ts t = some ti → TIok P t ti) (off : Nat) : CtxOk P (T.ctx X off) := by
  refine ⟨fun f o e he => ?_, ht, fun f s0 o1 o2 I h => (by cases h), fun f s hs => ?_⟩
  · have he : look (T.ctx X off).effs f = some (o, e) := he
    rw [ctx_eff] at he
    split at he
    · rename_i hh
      cases he
      exact h.e f _ hh
    · cases he
  · have hs : look (T.ctx X off).specs f = some s := hs
    rw [ctx_spec] at hs
    split at hs
    · rename_i hh
      cases hs
      exact h.s f hh
    · cases hs

theorem xrun0_ok (hX : XSound P T X) {off : Nat} {x : XS} {o : Oper} {k : XS → Option ρ} {K : St → Prop} (h : xrun0 (T.ctx X off) X x o k = some r) (hk : ∀ x', k x' = some r → K x'.st) : run0 (T.ctx X off) x.st o K := by
  unfold xrun0 at h
  cases hc : callOf x o.op with
  | none => rw [hc] at h; exact xplain_ok h hk
  | some y =>
    obtain ⟨f, as⟩ := y
    rw [hc] at h
    simp only [fzL_eq fz3_eq] at h
    obtain ⟨g, args, ts, a, b, ho, hg, rfl⟩ := callOf_some hc
    cases hp : ((a ++ (args.toList.map (ev x.st.slots) ++ b)).map export1).all plain2 with
    | false => rw [hp] at h; cases h
    | true =>
      rw [hp] at h
      simp only [cond_true] at h
      cases hs : X.s f ((a ++ (args.toList.map (ev x.st.slots) ++ b)).map export1) with
      | none => rw [hs] at h; cases h
      | some v =>
        rw [hs] at h
        simp only at h
        rw [run0_eq]
        unfold run1s
        have he : evalOp (T.ctx X off) (ev x.st.slots) x.st.blocks (o.dst.getD 0 + (T.ctx X off).off) o.type o.op = ⟨some (((X.s f ((a ++ (args.toList.map (ev x.st.slots) ++ b)).map export1)).isSome = true)), v, none⟩ := by
          rw [ho]
          simp only [evalOp, hg, ctx_spec, hX.known _ _ _ hs, if_true, hp, cond_true, specX, hs, Option.getD_some, Option.isSome_some]
        rw [he]
        refine ⟨by rw [hs]; rfl, ?_⟩
        have := hk _ h
        rw [XS.st_put] at this
        exact this

theorem st_pruned (sl : List (Nat × PV)) (bl bl' : List (Nat × Blk)) (q : Nat → Bool) : XS.st ⟨sl.map fun y => (y.1, prune q y.2), bl'⟩ = { slots := fun n => prune q ((XS.st ⟨sl, bl⟩).slots n), blocks := fun s => (look bl' s).getD .none } := by
  simp only [XS.st, mkSt]
  congr 1
  funext n
  rw [look_mapv]
  cases look sl n with
  | none => exact (prune_junk q).symm
  | some v => rfl

theorem xrun1_ok (hX : XSound P T X) {off : Nat} {x : XS} {o : Oper} {k : XS → Option ρ} {K : St → Prop} (h : xrun1 T X off x o k = some r) (hk : ∀ x', k x' = some r → K x'.st) : run1 (T.ctx X off) x.st o K := by
  unfold xrun1 at h
  unfold run1
  cases hc : callOf x o.op with
  | none => rw [hc] at h; rw [effOf_none hc]; exact xplain_ok h hk
  | some y =>
    obtain ⟨f, as⟩ := y
    rw [hc] at h
    simp only at h
    obtain ⟨g, args, ts, a, b, ho, hg, rfl⟩ := callOf_some hc
    have hef : effOf (T.ctx X off) x.st o = if has T.L f then some ((off + gap, effX X f (off + gap)), a ++ (args.toList.map (ev x.st.slots) ++ b)) else none := by
      unfold effOf
      rw [ho]
      simp only [hg, ctx_eff]
      cases has T.L f <;> rfl
    rw [hef]
    cases hL : has T.L f with
    | false =>
      rw [hL] at h
      exact xrun0_ok hX h hk
    | true =>
      rw [hL] at h
      simp only [cond_true, fzL_eq fz3_eq] at h
      simp only [if_true]
      refine ⟨Nat.ble_eq_true_of_le (Nat.le_add_right off gap), ?_⟩
      rw [frcL2_iff]
      cases he : X.e f (off + gap) (a ++ (args.toList.map (ev x.st.slots) ++ b)) x.bl with
      | none => rw [he] at h; cases h
      | some y =>
        obtain ⟨v, bl⟩ := y
        rw [he] at h
        simp only at h
        refine ⟨x.bl, v, bl, rfl, he, ?_⟩
        dsimp only
        rw [frc3_eq]
        have := hk _ h
        rw [XS.st_put, st_pruned x.sl x.bl] at this
        exact this

theorem xops_ok (hX : XSound P T X) {off : Nat} {ops : List Oper} : ∀ (l : List Oper) (x : XS) (k : XS → Option ρ) (K : St → Prop), xops T X off ops l x k = some r → (∀ x', k x' = some r → K x'.st) → evalOps (T.ctx X off) ops l x.st K
  | [], x, k, K, h, hk => hk x h
  | o :: rest, x, k, K, h, hk => by
    have go : ∀ {x : XS}, xrun1 T X off x o (fun x => xops T X off ops rest x k) = some r → run1 (T.ctx X off) x.st o fun st => evalOps (T.ctx X off) ops rest st K := fun h => xrun1_ok hX h fun x' h' => xops_ok hX rest x' k K h' hk
    have skip : ∀ {x : XS}, xops T X off ops rest (x.put o.dst .und) k = some r → evalOps (T.ctx X off) ops rest (x.st.put o.dst .und) K := fun {x} h => by
      have := xops_ok hX rest _ k K h hk
      rw [XS.st_put] at this
      exact this
    simp only [xops, xstepO] at h
    simp only [evalOps, stepO]
    cases hg : o.guard with
    | none => rw [hg] at h; exact go h
    | some jw =>
      obtain ⟨j, want⟩ := jw
      rw [hg] at h
      simp only at h ⊢
      cases hd : (ops[j]?).bind Oper.dst with
      | none => rw [hd] at h; cases h
      | some g =>
        rw [hd] at h
        simp only at h ⊢
        cases hs : x.st.slots g with
        | tt => rw [hs] at h; cases want <;> first | exact go h | exact skip h
        | ff => rw [hs] at h; cases want <;> first | exact go h | exact skip h
        | und => rw [hs] at h; exact skip h
        | bool b =>
          rw [hs] at h
          simp only at h ⊢
          cases b <;> cases want <;> simp only [beqB, cond_true, cond_false, Bool.not_true, Bool.not_false] at h
          · refine ⟨fun _ => ?_, fun h' => (by cases h')⟩
            have := go h
            rw [XS.st_set] at this
            exact this
          · refine ⟨fun h' => (by cases h'), fun _ => ?_⟩
            have := skip h
            rw [XS.st_set] at this
            exact this
          · refine ⟨fun h' => (by cases h'), fun _ => ?_⟩
            have := skip h
            rw [XS.st_set] at this
            exact this
          · refine ⟨fun _ => ?_, fun h' => (by cases h')⟩
            have := go h
            rw [XS.st_set] at this
            exact this
        | _ => rw [hs] at h; cases h

theorem xD_ok (hX : XSound P T X) {off : Nat} {ops : List Oper} {an : List Nat} : ∀ (l : List (Nat × Oper)) (x : XS) (tr : Trace) (k : XS → Option ρ) (K : St → Prop), xD (T.ctx X off) X ops an l x tr k = some r → (∀ x', k x' = some r → K x'.st) → evalD (T.ctx X off) ops an l x.st tr K
  | [], x, tr, k, K, h, hk => by
    simp only [xD] at h
    cases hc : calm an tr with
    | false => rw [hc] at h; cases h
    | true => rw [hc] at h; exact ⟨hc, hk x h⟩
  | (i, o) :: rest, x, tr, k, K, h, hk => by
    have go : ∀ {x : XS}, (match touch (ev x.st.slots) (o.dst.getD 0 + (T.ctx X off).off) o.op with
        | none => xrun0 (T.ctx X off) X x o fun x' => xD (T.ctx X off) X ops an rest x' tr k
        | some s => xrun0 (T.ctx X off) X x o fun x' => xD (T.ctx X off) X ops an rest x' (tr ++ [(i, some s, touches o.op)]) k) = some r →
        (match touch (ev x.st.slots) (o.dst.getD 0 + (T.ctx X off).off) o.op with
        | none => run0 (T.ctx X off) x.st o fun st' => evalD (T.ctx X off) ops an rest st' tr K
        | some s => run0 (T.ctx X off) x.st o fun st' => evalD (T.ctx X off) ops an rest st' (tr ++ [(i, some s, touches o.op)]) K) := by
      intro x h
      cases ht : touch (ev x.st.slots) (o.dst.getD 0 + (T.ctx X off).off) o.op with
      | none => rw [ht] at h; exact xrun0_ok hX h fun x' h' => xD_ok hX rest x' _ k K h' hk
      | some s => rw [ht] at h; exact xrun0_ok hX h fun x' h' => xD_ok hX rest x' _ k K h' hk
    have skip : ∀ {x : XS}, xD (T.ctx X off) X ops an rest (x.put o.dst .und) tr k = some r → evalD (T.ctx X off) ops an rest (x.st.put o.dst .und) tr K := fun {x} h => by
      have := xD_ok hX rest _ _ k K h hk
      rw [XS.st_put] at this
      exact this
    simp only [xD, xstepD] at h
    simp only [evalD, stepD]
    cases hg : o.guard with
    | none => rw [hg] at h; exact go h
    | some jw =>
      obtain ⟨j, want⟩ := jw
      rw [hg] at h
      simp only at h ⊢
      cases hd : (ops[j]?).bind Oper.dst with
      | none => rw [hd] at h; cases h
      | some g =>
        rw [hd] at h
        simp only at h ⊢
        cases hs : x.st.slots g with
        | tt => rw [hs] at h; cases want <;> first | exact go h | exact skip h
        | ff => rw [hs] at h; cases want <;> first | exact go h | exact skip h
        | und => rw [hs] at h; exact skip h
        | bool b =>
          rw [hs] at h
          simp only at h ⊢
          cases b <;> cases want <;> simp only [beqB, cond_true, cond_false, Bool.not_true, Bool.not_false] at h
          · refine ⟨fun _ => ?_, fun h' => (by cases h')⟩
            have := go h
            rw [XS.st_set] at this
            exact this
          · refine ⟨fun h' => (by cases h'), fun _ => ?_⟩
            have := skip h
            rw [XS.st_set] at this
            exact this
          · refine ⟨fun h' => (by cases h'), fun _ => ?_⟩
            have := skip h
            rw [XS.st_set] at this
            exact this
          · refine ⟨fun _ => ?_, fun h' => (by cases h')⟩
            have := go h
            rw [XS.st_set] at this
            exact this
        | _ => rw [hs] at h; cases h

theorem xDs_ok (hX : XSound P T X) {off : Nat} {ops : List Oper} {an : List Nat} : ∀ (n : Nat) (l : List (Nat × Oper)) (x : XS) (k : XS → Option ρ) (K : St → Prop), xDs T X off ops an n l x k = some r → (∀ x', k x' = some r → K x'.st) → evalDs (T.ctx X off) ops an n l x.st K
  | 0, l, x, k, K, h, hk => xD_ok hX l x [] k K h hk
  | n + 1, l, x, k, K, h, hk => by
    simp only [xDs] at h
    simp only [evalDs]
    cases hf : findCut an [] l with
    | none => rw [hf] at h; exact xD_ok hX l x [] k K h hk
    | some y =>
      obtain ⟨p, y, q⟩ := y
      rw [hf] at h
      exact xD_ok hX p x [] _ _ h fun x' h' => xops_ok hX [y.2] x' _ _ h' fun x2 h2 => xDs_ok hX n q x2 k K h2 hk
end
end Go.V

/- What the evaluator finds of code and of functions is so. -/
namespace Go.V

section
variable {ρ : Type} {r : ρ} {P : Program} {T : XT} {X : XCalls}

theorem has_range (N n : Nat) : has (List.range N) n = Nat.blt n N := by
  rw [Bool.eq_iff_iff, has_iff, List.mem_range, Nat.blt_eq]

/-- The names that are kept. -/
def keptN (off N : Nat) (D : List Nat) : List Nat := ((List.range N).map (· + off)).filter fun s => !has D s
theorem keepQ_eq (off N : Nat) (D : List Nat) : keepQ off (keptN off N D) = xq off N D := by
  funext s
  simp only [keepQ, xq]
  cases hb : Nat.blt s off with
  | true => rfl
  | false =>
    simp only [Bool.false_or]
    rw [Bool.eq_iff_iff, has_iff]
    simp only [keptN, List.mem_filter, List.mem_map, List.mem_range, Bool.and_eq_true, Nat.blt_eq]
    have hge : off ≤ s := by
      rw [Bool.eq_false_iff, Ne, Nat.blt_eq] at hb
      omega
    constructor
    · rintro ⟨⟨a, h1, rfl⟩, h2⟩
      exact ⟨by omega, h2⟩
    · rintro ⟨h1, h2⟩
      exact ⟨⟨s - off, by omega, by omega⟩, h2⟩

theorem pruneB_none (q : Nat → Bool) : pruneB q .none = .none := rfl

theorem xclean_st (off N : Nat) (D : List Nat) (x : XS) : (xclean off N D x).st = clean off (List.range N) (keptN off N D) x.st := by
  simp only [xclean, XS.st, mkSt, clean, keepQ_eq]
  congr 1
  · funext n
    rw [look_mapv, look_filter (fun n => Nat.blt n N), look_map, has_range]
    cases Nat.blt n N with
    | true =>
      simp only [cond_true, if_true, Option.getD_some]
      cases look x.sl n with
      | none => exact (prune_junk _).symm
      | some v => rfl
    | false => rfl
  · funext s
    rw [look_mapv, look_filter (xq off N D), look_map]
    cases hk : has (keptN off N D) s with
    | true =>
      have : xq off N D s = true := by rw [← keepQ_eq]; simp [keepQ, hk]
      rw [this]
      simp only [cond_true, if_true, Option.getD_some]
      cases look x.bl s <;> rfl
    | false =>
      have : xq off N D s = Nat.blt s off := by rw [← keepQ_eq]; simp [keepQ, hk]
      rw [this]
      simp only [Bool.false_eq_true, if_false, Option.getD_none]
      cases Nat.blt s off with
      | true =>
        simp only [cond_true]
        cases look x.bl s <;> rfl
      | false => rfl

theorem SLe.refl (st : St) : SLe st st := ⟨fun _ => .refl _, fun _ => .refl _⟩

theorem fzS_eq (x : XS) (k : XS → Option ρ) : fzS x k = k x := by
  obtain ⟨sl, bl⟩ := x
  unfold fzS
  rw [fzL_eq (fun y k => by rw [fz3_eq])]
  rw [fzL_eq (fun y k => by rw [fzK_eq])]

theorem xloop_ok {C : Ctx} {a : Code} {N : Nat} {D : List Nat} {body : XS → (XO → Option ρ) → Option ρ} {k : XO → Option ρ} {K : Out → Prop}
    (ih : ∀ (x : XS) (k : XO → Option ρ) (K : Out → Prop), body x k = some r → (∀ o, k o = some r → K o.out) → evalCode C a x.st K)
    (hk : ∀ o, k o = some r → K o.out) {F : Nat} {x : XS} (h : xiter C.off N D body F (xclean C.off N D x) k = some r) : evalCode C (.loop a) x.st K := by
  classical
  simp only [evalCode]
  let Good : St → Nat → Prop := fun st n => ∃ x : XS, st = x.st ∧ xiter C.off N D body n x k = some r
  let μ : St → Nat := fun st => if h : ∃ n, Good st n then Classical.choose (exists_least h) else 0
  have hμ : ∀ st, (∃ n, Good st n) → Good st (μ st) ∧ ∀ m, Good st m → μ st ≤ m := by
    intro st h
    have := Classical.choose_spec (exists_least h)
    simp only [μ, dif_pos h]
    exact this
  refine .mk ⟨List.range N, keptN C.off N D, fun st => ∃ n, Good st n, μ, ⟨_, by rw [← xclean_st]; exact SLe.refl _, F, _, rfl, h⟩, fun st hst => ?_⟩
  obtain ⟨⟨y, rfl, hy⟩, _⟩ := hμ st hst
  cases hn : μ y.st with
  | zero => rw [hn] at hy; cases hy
  | succ m =>
    rw [hn] at hy
    simp only [xiter] at hy
    refine ih y _ _ hy fun o ho => ?_
    cases o with
    | normal x' =>
      simp only [fzS_eq] at ho
      have hg : Good (xclean C.off N D x').st m := ⟨_, rfl, ho⟩
      refine .mk ⟨_, by rw [← xclean_st]; exact SLe.refl _, ⟨m, hg⟩, ?_⟩
      have := (hμ _ ⟨m, hg⟩).2 m hg
      omega
    | exit n x' => exact hk _ ho
    | ret x' => exact hk _ ho

theorem xcode_ok (hX : XSound P T X) {off N F : Nat} : ∀ (c : Code) (x : XS) (k : XO → Option ρ) (K : Out → Prop), xcode T X off N F c x k = some r → (∀ o, k o = some r → K o.out) → evalCode (T.ctx X off) c x.st K := by
  intro c
  induction c with
  | skip => intro x k K h hk; exact hk (.normal x) h
  | ret => intro x k K h hk; exact hk (.ret x) h
  | exit n => intro x k K h hk; exact hk (.exit n x) h
  | region id ops draw =>
    intro x k K h hk
    simp only [xcode] at h
    simp only [evalCode, XT.ctx, cond_false]
    cases draw with
    | true => exact xDs_ok hX _ _ x _ _ h fun x' h' => hk (.normal x') h'
    | false => exact xops_ok hX _ x _ _ h fun x' h' => hk (.normal x') h'
  | seq a b iha ihb =>
    intro x k K h hk
    simp only [xcode] at h
    simp only [evalCode]
    refine iha x _ _ h fun o ho => ?_
    cases o with
    | normal x' => exact ihb x' k K ho hk
    | exit n x' => exact hk _ ho
    | ret x' => exact hk _ ho
  | cond c a b iha ihb =>
    intro x k K h hk
    simp only [xcode] at h
    simp only [evalCode]
    cases hc : ev x.st.slots c with
    | tt => rw [hc] at h; exact iha x k K h hk
    | ff => rw [hc] at h; exact ihb x k K h hk
    | bool b' =>
      rw [hc] at h
      cases b' with
      | true => exact ⟨fun _ => iha x k K h hk, fun h' => (by cases h')⟩
      | false => exact ⟨fun h' => (by cases h'), fun _ => ihb x k K h hk⟩
    | _ => rw [hc] at h; cases h
  | block id a iha =>
    intro x k K h hk
    simp only [xcode] at h
    simp only [evalCode]
    refine iha x _ _ h fun o ho => ?_
    cases o with
    | normal x' => exact hk _ ho
    | exit n x' =>
      simp only [XO.out] at ho ⊢
      cases hb : Nat.beq n id with
      | true => rw [hb] at ho; exact hk (.normal x') ho
      | false => rw [hb] at ho; exact hk (.exit n x') ho
    | ret x' => exact hk _ ho
  | loop a iha =>
    intro x k K h hk
    simp only [xcode] at h
    rw [fzL_eq fzN_eq, fzS_eq] at h
    exact xloop_ok (C := T.ctx X off) iha hk h
  | _ => intro x k K h hk; cases h

theorem look_enum (args : List PV) : XS.st ⟨enum args, []⟩ = start args := by
  have : ∀ (l : List PV) (i n : Nat), (look ((List.range' i l.length).zip l) n).getD .junk = if n < i then .junk else l.getD (n - i) .junk := by
    intro l
    induction l with
    | nil => intro i n; simp [look]
    | cons a l ih =>
      intro i n
      simp only [List.length_cons, List.range'_succ, List.zip_cons_cons, look]
      cases hb : Nat.beq i n with
      | true => rw [nbeq] at hb; subst hb; simp
      | false =>
        simp only [cond_false, ih]
        have hne : i ≠ n := by rintro rfl; simp at hb
        by_cases hlt : n < i
        · rw [if_pos (by omega), if_pos hlt]
        · rw [if_neg (by omega), if_neg hlt]
          have : n - i = (n - (i + 1)) + 1 := by omega
          rw [this]
          rfl
  simp only [XS.st, mkSt, start, enum]
  congr 1
  funext n
  rw [List.range_eq_range']
  have := this args 0 n
  rw [if_neg (by omega)] at this
  simpa using this

/-- A function's text, by closed facts. -/
def okFn (P : Program) (L : List Nat) (f : Nat) (fn : Func) : Prop := P.funcs[f]? = some fn ∧
  (match fn.body with
  | some c => okCode (okOper fn.ntmps) c && (Nat.ble (fn.params.size + fn.nfree) fn.ntmps && (!(fn.name == "runtime.NumGoroutine") && (!has L f || Nat.ble fn.results.toList.length 1)))
  | none => false) = true
def okFns (P : Program) (L : List Nat) : List (Nat × Func) → Prop
  | [] => True
  | x :: l => okFn P L x.1 x.2 ∧ okFns P L l
theorem okFns_look {P : Program} {L : List Nat} : ∀ {l : List (Nat × Func)}, okFns P L l → ∀ {f fn}, look l f = some fn → okFn P L f fn
  | [], _, f, fn, h => by cases h
  | (m, a) :: l, ⟨h1, h2⟩, f, fn, h => by
    simp only [look] at h
    cases hb : Nat.beq m f with
    | true => rw [nbeq] at hb; subst hb; simp at h; subst h; exact h1
    | false => rw [hb] at h; exact okFns_look h2 h
theorem look_of_has {α : Type} : ∀ {l : List (Nat × α)} {f : Nat}, has (l.map Prod.fst) f = true → ∃ a, look l f = some a
  | [], f, h => by cases h
  | (m, a) :: l, f, h => by
    simp only [look]
    cases hb : Nat.beq m f with
    | true => exact ⟨a, rfl⟩
    | false =>
      rw [has_iff] at h
      rcases List.mem_cons.1 h with h | h
      · simp only at h; subst h; simp at hb
      · exact look_of_has (has_iff.2 h)

theorem SF.body {P : Program} {f : Nat} {fn : Func} {c : Code} (hf : P.funcs[f]? = some fn) (hb : fn.body = some c) (hn : (fn.name == "runtime.NumGoroutine") = false) : ∃ fn c, P.funcs[f]? = some fn ∧ (fn.name == "runtime.NumGoroutine") = false ∧ fn.body = some c := ⟨fn, c, hf, hn, hb⟩

theorem xstep_ok (hX : XSound P T X) (ht : ∀ t ti, look T.ts t = some ti → TIok P t ti) (hm : P.follows .mixedOrders = true) (hG : okFns P T.L T.G) (hL : T.L.all (has (T.G.map Prod.fst)) = true) (F : Nat) : XSound P T (xstep T F X) := by
  refine ⟨fun f as v h => ?_, fun f hf => ?_, fun f off hf => ?_⟩
  · simp only [xstep] at h
    cases hl : look T.G f with
    | none => rw [hl] at h; cases h
    | some fn => exact look_has _ _ _ hl
  · obtain ⟨fn, hl⟩ := look_of_has hf
    obtain ⟨h1, h2⟩ := okFns_look hG hl
    cases hb : fn.body with
    | none => rw [hb] at h2; cases h2
    | some c =>
      rw [hb] at h2
      simp only [Bool.and_eq_true, Bool.not_eq_true'] at h2
      refine ⟨?_, fn, c, h1, h2.2.2.1, hb⟩
      refine sound_of_meets (hX.ctx ht 0) hm h1 hb h2.1 (n := fn.params.size + fn.nfree) (Nat.le_of_ble_eq_true h2.2.1) rfl rfl ?_
      intro args hargs
      simp only [specX, xstep, hl, hb, Option.getD_some] at hargs ⊢
      cases hlen : Nat.beq args.length (fn.params.size + fn.nfree) with
      | false => rw [hlen] at hargs; cases hargs
      | true =>
        rw [hlen] at hargs
        simp only [cond_true] at hargs ⊢
        refine ⟨Nat.eq_of_beq_eq_true hlen, ?_⟩
        obtain ⟨v, hv⟩ := Option.isSome_iff_exists.1 hargs
        rw [hv]
        have := xcode_ok hX c ⟨enum args, []⟩ _ (fun o => match o with
          | .normal st | .ret st => fn.results.toList.all (fun r => plain2 (frz st.blocks (resOf (T.ctx X 0) st r))) = true ∧ PLe (results1 (T.ctx X 0) fn.results.toList st) v
          | _ => False) hv fun o ho => ?_
        · rw [look_enum] at this
          exact this
        · have fin : ∀ {x : XS}, (bif fn.results.toList.all (fun r => plain2 (frz x.st.blocks (resOf (T.ctx X 0) x.st r))) then fz3 (results1 (T.ctx X 0) fn.results.toList x.st) fun v => some v else none) = some v →
              fn.results.toList.all (fun r => plain2 (frz x.st.blocks (resOf (T.ctx X 0) x.st r))) = true ∧ PLe (results1 (T.ctx X 0) fn.results.toList x.st) v := by
            intro x h
            cases hp : fn.results.toList.all (fun r => plain2 (frz x.st.blocks (resOf (T.ctx X 0) x.st r))) with
            | false => rw [hp] at h; cases h
            | true =>
              rw [hp] at h
              simp only [cond_true, fz3_eq, Option.some.injEq] at h
              subst h
              exact ⟨rfl, .refl _⟩
          cases o with
          | normal x => exact fin ho
          | ret x => exact fin ho
          | exit n x => cases ho
  · have hf' : has (T.G.map Prod.fst) f = true := by
      rw [List.all_eq_true] at hL
      exact hL f (has_iff.1 hf)
    obtain ⟨fn, hl⟩ := look_of_has hf'
    obtain ⟨h1, h2⟩ := okFns_look hG hl
    cases hb : fn.body with
    | none => rw [hb] at h2; cases h2
    | some c =>
      rw [hb] at h2
      simp only [Bool.and_eq_true, Bool.not_eq_true', hf, Bool.not_true, Bool.false_or] at h2
      refine ⟨?_, fn, c, h1, h2.2.2.1, hb⟩
      have hS := soundE_of_body (C := T.ctx X off) (hX.ctx ht off) hm rfl h1 hb h2.1 (Nat.le_of_ble_eq_true h2.2.2.2) (n := fn.params.size + fn.nfree) (Nat.le_of_ble_eq_true h2.2.1)
      intro args bl K he
      refine hS args bl K ?_
      obtain ⟨bll, v, bl', rfl, hv, hK⟩ := he
      simp only [xstep, hl, hb] at hv
      cases hlen : Nat.beq args.length (fn.params.size + fn.nfree) with
      | false => rw [hlen] at hv; cases hv
      | true =>
        rw [hlen] at hv
        simp only [cond_true] at hv
        refine ⟨Nat.eq_of_beq_eq_true hlen, ?_⟩
        unfold effBody
        have hst : ({ slots := (start args).slots, blocks := fun s => (look bll s).getD .none } : St) = XS.st ⟨enum args, bll⟩ := by
          rw [← look_enum]
          rfl
        rw [hst]
        refine xcode_ok hX c ⟨enum args, bll⟩ _ _ hv fun o ho => ?_
        have fin : ∀ {x : XS}, (bif fn.results.toList.all (fun r => nj (resOf (T.ctx X off) x.st r)) then
              fz3 (prune (fun s => Nat.blt s off) (match fn.results.toList with | [] => .tup [] | [r] => frzE off x.st.blocks (resOf (T.ctx X off) x.st r) | _ => .junk)) fun v =>
              fzL (fun y k => fzK y.2 fun v => k (y.1, v)) ((x.bl.filter fun y => Nat.blt y.1 off).map fun y => (y.1, pruneB (fun s => Nat.blt s off) y.2)) fun bl => some (v, bl)
              else none) = some (v, bl') →
            fn.results.toList.all (fun r => nj (resOf (T.ctx X off) x.st r)) = true ∧ K (prune (fun s => Nat.blt s off) (match fn.results.toList with | [] => .tup [] | [r] => frzE off x.st.blocks (resOf (T.ctx X off) x.st r) | _ => .junk)) fun s => bif Nat.blt s off then pruneB (fun s => Nat.blt s off) (x.st.blocks s) else .none := by
          intro x h
          cases hp : fn.results.toList.all (fun r => nj (resOf (T.ctx X off) x.st r)) with
          | false => rw [hp] at h; cases h
          | true =>
            rw [hp] at h
            rw [cond_true, fz3_eq, fzL_eq (fun y k => by rw [fzK_eq])] at h
            simp only [Option.some.injEq, Prod.mk.injEq] at h
            obtain ⟨hv1, hb1⟩ := h
            refine ⟨rfl, ?_⟩
            rw [hv1]
            have e : (fun s => bif Nat.blt s off then pruneB (fun s => Nat.blt s off) (x.st.blocks s) else .none) = fun s => (look bl' s).getD .none := by
              funext s
              rw [← hb1, look_mapv, look_filter (fun s => Nat.blt s off)]
              cases Nat.blt s off with
              | true =>
                simp only [cond_true, XS.st, mkSt]
                cases look x.bl s <;> rfl
              | false => rfl
            rw [e]
            exact hK
        cases o with
        | normal x => exact fin ho
        | ret x => exact fin ho
        | exit n x => cases ho

theorem xnone_ok (hG : okFns P T.L T.G) (hL : T.L.all (has (T.G.map Prod.fst)) = true) : XSound P T xnone := by
  have hbody : ∀ f, has (T.G.map Prod.fst) f = true → ∃ fn c, P.funcs[f]? = some fn ∧ (fn.name == "runtime.NumGoroutine") = false ∧ fn.body = some c := by
    intro f hf
    obtain ⟨fn, hl⟩ := look_of_has hf
    obtain ⟨h1, h2⟩ := okFns_look hG hl
    cases hb : fn.body with
    | none => rw [hb] at h2; cases h2
    | some c =>
      rw [hb] at h2
      simp only [Bool.and_eq_true, Bool.not_eq_true'] at h2
      exact ⟨fn, c, h1, h2.2.2.1, hb⟩
  refine ⟨fun f as v h => (by cases h), fun f hf => ⟨?_, hbody f hf⟩, fun f off hf => ⟨?_, hbody f ?_⟩⟩
  · intro args σ w vals _ _ _ h
    cases h
  · intro args bl K h
    obtain ⟨_, _, _, _, h, _⟩ := h
    cases h
  · rw [List.all_eq_true] at hL
    exact hL f (has_iff.1 hf)

theorem xF_ok (ht : ∀ t ti, look T.ts t = some ti → TIok P t ti) (hm : P.follows .mixedOrders = true) (hG : okFns P T.L T.G) (hL : T.L.all (has (T.G.map Prod.fst)) = true) (F : Nat) : ∀ n, XSound P T (xF T F n)
  | 0 => xnone_ok hG hL
  | n + 1 => xstep_ok (xF_ok ht hm hG hL F n) ht hm hG hL F

/-- A function at given values: what the evaluator finds. -/
theorem sf_x (hX : XSound P T X) {f : Nat} {args : List PV} {v : PV} (h : X.s f args = some v) : SF P f fun as => (some (as = args), v) := by
  have hf := hX.known f args v h
  obtain ⟨h1, h2⟩ := hX.s f hf
  refine ⟨?_, h2⟩
  intro as σ w vals hs hr hσ hp
  have hp : as = args := hp
  subst hp
  have := h1 as σ w vals hs hr hσ (by simp [specX, h])
  simpa [specX, h] using this
end
end Go.V
/- Functions of which the evaluator is told from outside. -/
namespace Go.V
abbrev XO' := List (Nat × (List PV → Option PV))
def xov (O : XO') (X : XCalls) : XCalls := ⟨fun f as => match look O f with | some g => g as | none => X.s f as, X.e⟩
theorem xov_ok {P : Program} {T : XT} {X : XCalls} {O : XO'} (hX : XSound P T X) (hO : ∀ f g, look O f = some g → has (T.G.map Prod.fst) f = true ∧ SF P f fun as => (some ((g as).isSome = true), (g as).getD .junk)) : XSound P T (xov O X) := by
  refine ⟨fun f as v h => ?_, fun f hf => ?_, fun f off hf => ?_⟩
  · cases hl : look O f with
    | some g => exact (hO f g hl).1
    | none =>
      have h : (match look O f with | some g => g as | none => X.s f as) = some v := h
      rw [hl] at h
      exact hX.known f as v h
  · cases hl : look O f with
    | some g =>
      have e : specX (xov O X) f = fun as => (some ((g as).isSome = true), (g as).getD .junk) := by
        funext as
        show (some ((match look O f with | some g => g as | none => X.s f as).isSome = true), (match look O f with | some g => g as | none => X.s f as).getD .junk) = _
        rw [hl]
      rw [e]
      exact (hO f g hl).2
    | none =>
      have e : specX (xov O X) f = specX X f := by
        funext as
        show (some ((match look O f with | some g => g as | none => X.s f as).isSome = true), (match look O f with | some g => g as | none => X.s f as).getD .junk) = _
        rw [hl]
        rfl
      rw [e]
      exact hX.s f hf
  · exact hX.e f off hf
def xFo (T : XT) (F : Nat) (O : XO') : Nat → XCalls
  | 0 => xov O xnone
  | n + 1 => xov O (xstep T F (xFo T F O n))
theorem xFo_ok {P : Program} {T : XT} {O : XO'} (ht : ∀ t ti, look T.ts t = some ti → TIok P t ti) (hm : P.follows .mixedOrders = true) (hG : okFns P T.L T.G) (hL : T.L.all (has (T.G.map Prod.fst)) = true) (F : Nat)
    (hO : ∀ f g, look O f = some g → has (T.G.map Prod.fst) f = true ∧ SF P f fun as => (some ((g as).isSome = true), (g as).getD .junk)) : ∀ n, XSound P T (xFo T F O n)
  | 0 => xov_ok (xnone_ok hG hL) hO
  | n + 1 => xov_ok (xstep_ok (xFo_ok ht hm hG hL F hO n) ht hm hG hL F) hO
end Go.V
