/- An evaluator that runs by itself: functions at given plain values, loops gone round by round; what it finds is so in the machine. -/
import Derived.Test.YtiidjohhcappdaaVo
namespace Go.V

def setL {α : Type} : List (Nat × α) → Nat → α → List (Nat × α)
  | [], n, v => [(n, v)]
  | (m, a) :: r, n, v => bif Nat.beq m n then (m, v) :: r else (m, a) :: setL r n v

structure XS where
  sl : List (Nat × PV)
  bl : List (Nat × Blk)
def XS.st (x : XS) : St := mkSt x.sl x.bl
def XS.put (x : XS) (d : Option Nat) (v : PV) : XS :=
  match d with
  | some d => ⟨setL x.sl d v, x.bl⟩
  | none => x
def XS.setB (x : XS) (s : Nat) (b : Blk) : XS := ⟨x.sl, setL x.bl s b⟩

theorem nbeq {m n : Nat} : Nat.beq m n = true ↔ m = n := ⟨Nat.eq_of_beq_eq_true, fun h => by subst h; simp⟩
theorem look_setL {α : Type} : ∀ (l : List (Nat × α)) (n : Nat) (v : α) (m : Nat), look (setL l n v) m = bif Nat.beq m n then some v else look l m
  | [], n, v, m => by
    simp only [setL, look]
    cases h : Nat.beq n m with
    | true => rw [nbeq] at h; subst h; simp
    | false =>
      have : Nat.beq m n = false := by
        rw [Bool.eq_false_iff, Ne, nbeq] at h ⊢
        exact fun e => h e.symm
      rw [this]
  | (k, a) :: r, n, v, m => by
    simp only [setL]
    cases h : Nat.beq k n with
    | true =>
      rw [nbeq] at h; subst h
      simp only [cond_true, look]
      cases h : Nat.beq k m with
      | true => rw [nbeq] at h; subst h; simp
      | false =>
        have : Nat.beq m k = false := by
          rw [Bool.eq_false_iff, Ne, nbeq] at h ⊢
          exact fun e => h e.symm
        simp [this]
    | false =>
      simp only [cond_false, look]
      cases h2 : Nat.beq k m with
      | true =>
        rw [nbeq] at h2; subst h2
        simp [h]
      | false => simp only [cond_false, look_setL r n v m]

theorem XS.st_put (x : XS) (d : Option Nat) (v : PV) : (x.put d v).st = x.st.put d v := by
  cases d with
  | none => rfl
  | some d =>
    simp only [XS.put, XS.st, mkSt, St.put]
    congr 1
    funext n
    simp only [look_setL, upd]
    cases Nat.beq n d <;> simp
theorem XS.st_set (x : XS) (d : Nat) (v : PV) : (x.put (some d) v).st = x.st.set d v := XS.st_put x (some d) v
theorem XS.st_setB (x : XS) (s : Nat) (b : Blk) : (x.setB s b).st = x.st.setB (some (s, b)) := by
  simp only [XS.setB, XS.st, mkSt, St.setB]
  congr 1
  funext n
  simp only [look_setL, upd]
  cases Nat.beq n s <;> simp

-- Values are brought into their form before anything goes on with them.
def fzN {α : Type} (n : Nat) (k : Nat → α) : α := Nat.casesOn n (k 0) fun m => k (Nat.succ m)
def fzI {α : Type} (n : Int) (k : Int → α) : α := Int.casesOn n (fun n => fzN n fun n => k (Int.ofNat n)) fun n => fzN n fun n => k (Int.negSucc n)
def fzB {α : Type} (b : Bool) (k : Bool → α) : α := Bool.casesOn b (k false) (k true)
def fzL {α β : Type} (f : β → (β → α) → α) : List β → (List β → α) → α
  | [], k => k []
  | v :: vs, k => f v fun v => fzL f vs fun vs => k (v :: vs)
def fz1 {α : Type} (v : PV) (k : PV → α) : α :=
  match v with
  | .bool b => fzB b fun b => k (.bool b)
  | .int a n => fzI n fun n => k (.int a n)
  | .ptr s o => fzN s fun s => fzN o fun o => k (.ptr s o)
  | .eptr s i o => fzN s fun s => fzN i fun i => fzN o fun o => k (.eptr s i o)
  | .slice t len get => fzN len fun len => k (.slice t len get)
  | .own s len => fzN s fun s => fzN len fun len => k (.own s len)
  | v => k v
def fz2 {α : Type} (v : PV) (k : PV → α) : α :=
  match v with
  | .agg cs => fzL fz1 cs fun cs => k (.agg cs)
  | .cptr cs => fzL fz1 cs fun cs => k (.cptr cs)
  | .fn f a b => fzL fz1 a fun a => fzL fz1 b fun b => k (.fn f a b)
  | v => fz1 v k
def fz3 {α : Type} (v : PV) (k : PV → α) : α :=
  match v with
  | .tup vs => fzL fz2 vs fun vs => k (.tup vs)
  | .fn f a b => fzL fz2 a fun a => fzL fz2 b fun b => k (.fn f a b)
  | v => fz2 v k
def fzK {α : Type} (b : Blk) (k : Blk → α) : α :=
  match b with
  | .none => k .none
  | .jmp j => k (.jmp j)
  | .cells l => fzL fz2 l fun l => k (.cells l)
  | .arr n s g => fzN n fun n => k (.arr n s g)
  | .grow n e s => fzN n fun n => k (.grow n e s)
theorem fzN_eq {α : Type} (n : Nat) (k : Nat → α) : fzN n k = k n := by cases n <;> rfl
theorem fzI_eq {α : Type} (n : Int) (k : Int → α) : fzI n k = k n := by cases n with
  | ofNat n => exact fzN_eq n fun n => k (Int.ofNat n)
  | negSucc n => exact fzN_eq n fun n => k (Int.negSucc n)
theorem fzB_eq {α : Type} (b : Bool) (k : Bool → α) : fzB b k = k b := by cases b <;> rfl
theorem fzL_eq {α β : Type} {f : β → (β → α) → α} (hf : ∀ v k, f v k = k v) : ∀ (l : List β) (k : List β → α), fzL f l k = k l
  | [], k => rfl
  | v :: vs, k => by simp only [fzL, hf, fzL_eq hf vs]
theorem fz1_eq {α : Type} (v : PV) (k : PV → α) : fz1 v k = k v := by cases v <;> simp only [fz1, fzN_eq, fzI_eq, fzB_eq]
theorem fz2_eq {α : Type} (v : PV) (k : PV → α) : fz2 v k = k v := by cases v <;> simp only [fz2, fz1_eq, fzL_eq fz1_eq]
theorem fz3_eq {α : Type} (v : PV) (k : PV → α) : fz3 v k = k v := by cases v <;> simp only [fz3, fz2_eq, fzL_eq fz2_eq]
theorem fzK_eq {α : Type} (b : Blk) (k : Blk → α) : fzK b k = k b := by cases b <;> simp only [fzK, fzL_eq fz2_eq, fzN_eq]

/-- An operation's condition, reckoned. -/
def xcond (C : Ctx) (e : Operand → PV) (bl : Nat → Blk) (op : Op) : Bool :=
  match op with
  | .pick c a b =>
    match e c with
    | .bool c => match boolOf (e a), boolOf (e b) with
      | none, some _ => !c
      | some _, none => c
      | _, _ => false
    | _ => false
  | .load t x =>
    match e x, look C.types t with
    | .eptr s i off, some ti => match bl s with
      | .arr len _ get => Nat.blt i len && Nat.ble (off + ti.size) (get i).length
      | _ => false
    | _, _ => false
  | .store _ x v =>
    match e x with
    | .eptr s i off => match bl s with
      | .arr len _ get => Nat.blt i len && Nat.ble (off + (cellsOf (e v)).length) (get i).length && (cellsOf (e v)).all plain1
      | _ => false
    | _ => false
  | .binOp op _ x y _ =>
    match e x, e y with
    | .int k _, .int k' b => match op with
      | .quo | .rem => kindEq k k' && !decide (b = 0)
      | _ => false
    | _, _ => false
  | .makeSlice t x y =>
    match look C.types t with
    | some { k := .slice el, .. } =>
      match look C.types el, e x, e y with
      | some te, .int .i64 n, .int .i64 m => Nat.ble 1 te.size && (decide (n = m) && decide (0 ≤ n) && decide (n ≤ 1099511627776) && decide (te.bytes * n ≤ 140737488355328))
      | _, _, _ => false
    | _ => false
  | .slice t x lo hi none =>
    match look C.types t with
    | some { k := .slice el, .. } =>
      match look C.types el, e x with
      | some te, .slice _ len get =>
        match lo.map e, hi.map e with
        | none, some (.int _ h) => decide (0 ≤ h) && decide (h ≤ len)
        | some (.int _ l), none => decide (0 ≤ l) && decide (l ≤ len) && (List.range len).all fun i => Nat.beq (get i).length te.size
        | some (.int _ l), some (.int _ h) => decide (0 ≤ l) && decide (l ≤ h) && decide (h ≤ len) && (List.range len).all fun i => Nat.beq (get i).length te.size
        | _, _ => false
      | _, _ => false
    | _ => false
  | .indexAddr t x i =>
    match look C.types t, e i with
    | some { k := .slice el, .. }, .int _ n =>
      match look C.types el, e x with
      | some te, .slice _ len get => decide (0 ≤ n) && decide (n < len) && Nat.beq (get n.toNat).length te.size
      | some te, .own s len => match bl s with
        | .arr len' sz _ => Nat.beq sz te.size && (decide (0 ≤ n) && decide (n < len) && Nat.ble len len')
        | _ => false
      | _, _ => false
    | some { k := .array m _, .. }, .int _ n =>
      match e x with
      | .ptr _ _ => decide (0 ≤ n) && decide (n < m)
      | _ => false
    | _, _ => false
  | .index t x i =>
    match look C.types t, e i, e x with
    | some { k := .array m el, .. }, .int _ n, .agg cs =>
      match look C.types el with
      | some te => decide (0 ≤ n) && decide (n < m) && Nat.ble (n.toNat * te.size + te.size) cs.length
      | none => false
    | _, _, _ => false
  | .call { callee := .builtin .append, args, argTypes } =>
    match args.toList.map e, argTypes.toList with
    | [b, .slice _ n get'], [t, t'] =>
      bif Nat.beq t t' then
      match look C.types t with
      | some { k := .slice el, .. } =>
        match look C.types el with
        | some te => bif Nat.ble 1 te.size then
          match b with
          | .nils => Nat.blt n 2147483648 && Nat.ble (n * te.bytes) 140737488355328 && (List.range n).all fun i => Nat.beq (get' i).length te.size && (get' i).all sc1
          | .slice (some s) len get => match bl s with
            | .grow L el' sz' => Nat.beq el el' && Nat.beq sz' te.size && (Nat.beq L len && Nat.blt (len + n) 2147483648 && Nat.ble ((len + n) * te.bytes) 140737488355328 && ((List.range len).all fun i => Nat.beq (get i).length te.size) && (List.range n).all fun i => Nat.beq (get' i).length te.size && (get' i).all sc1)
            | _ => false
          | _ => false
          else false
        | none => false
      | _ => false
      else false
    | _, _ => false
  | _ => false
end Go.V
