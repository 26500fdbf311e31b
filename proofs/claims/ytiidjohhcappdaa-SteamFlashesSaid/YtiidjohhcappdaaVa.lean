/- The core of a calculus over plain values: what a Go function's text computes, told without memory, tape or schedule. Definitions alone. -/
import Derived.WalkKit
namespace Go.V

/-- A plain value. 'slice' is a view of memory that does not change any more; 'ptr', 'eptr', 'own' lead into blocks of the function's own. -/
inductive PV where
  | junk | und | tt | ff
  | bool (b : Bool)
  | int (k : IntKind) (n : Int)
  | str (s : ByteArray)
  | agg (cs : List PV)
  | tup (vs : List PV)
  | nilp | nils
  | ptr (s off : Nat)
  | cptr (cs : List PV)
  | eptr (s i off : Nat)
  | slice (tag : Option Nat) (len : Nat) (get : Nat → List PV)
  | own (s len : Nat)
  | fn (f : Fn) (first captured : List PV)
  | yld (l : Nat)

/-- A loop over a function, between two rounds, within one, or left by a jump (none: a return; some n: an exit). -/
inductive JS where
  | ready
  | busy
  | done (e : Option Nat)
inductive Blk where
  | none
  | jmp (j : JS)
  | cells (l : List PV)
  | arr (len sz : Nat) (get : Nat → List PV)
  | grow (len el sz : Nat)

structure St where
  slots : Nat → PV
  blocks : Nat → Blk

def upd {α : Type} (f : Nat → α) (n : Nat) (v : α) : Nat → α := fun m => bif Nat.beq m n then v else f m

def St.put (st : St) (d : Option Nat) (v : PV) : St :=
  match d with
  | some d => { slots := upd st.slots d v, blocks := st.blocks }
  | none => st
def St.set (st : St) (d : Nat) (v : PV) : St := { slots := upd st.slots d v, blocks := st.blocks }
def St.setB (st : St) (u : Option (Nat × Blk)) : St :=
  match u with
  | some (s, b) => { slots := st.slots, blocks := upd st.blocks s b }
  | none => st

def ofVal : Value → PV
  | .int k n => .int k n
  | .bool true => .tt
  | .bool false => .ff
  | .string s => .str s
  | .pointer none => .nilp
  | .slice none 0 0 => .nils
  | _ => .junk

def ev (sl : Nat → PV) : Operand → PV
  | .tmp t => sl t
  | .const v => ofVal v
  | .func f => .fn (.func f) [] []
  | .global _ => .junk

inductive TyK where
  | scalar (k : Option IntKind)
  | struct (flds : List (Nat × Nat))       -- offset, type
  | array (n elem : Nat)
  | slice (elem : Nat)

def TyK.of : TypeDesc → TyK
  | .struct fs => .struct (fs.toList.map fun f => (f.offset, f.type))
  | .array n e => .array n e
  | .slice e => .slice e
  | .int k => .scalar (some k)
  | _ => .scalar none

structure TI where
  k : TyK
  size : Nat
  bytes : Nat
  zero : List PV
  eq : Bool := false

def TI.agg (t : TI) : Bool := match t.k with | .struct _ => true | .array _ _ => true | _ => false

abbrev Spec := List PV → Option Prop × PV
/-- What a call does to blocks of its caller: a predicate transformer. -/
abbrev Eff := List PV → (Nat → Blk) → (PV → (Nat → Blk) → Prop) → Prop

def look {α : Type} : List (Nat × α) → Nat → Option α
  | [], _ => none
  | (m, a) :: r, n => bif Nat.beq m n then some a else look r n

/-- A loop's round, for the function that is ranged over: the record's name, its place, from which name on the round's blocks are named, and what the round does. -/
structure Yd where
  s : Nat
  l : Nat
  o2 : Nat
  Y : Eff
/-- What a function that is ranged over does, whatever a round does. -/
abbrev Iter := List PV → (Nat → Blk) → Yd → (PV → (Nat → Blk) → Prop) → Prop

structure Ctx where
  types : List (Nat × TI)
  specs : List (Nat × Spec)
  effs : List (Nat × Nat × Eff) := []      -- with each: from which name on its own blocks are named
  off : Nat := 0
  merge : Bool := false      -- are ways that a region's guards open told as one? And is the state brought into a short form behind each region?
  live : List Nat := []
  names : List Nat := []
  iters : List (Nat × Nat × Nat × Nat × Iter) := []      -- with each: the record's name, from where on its own blocks are named, and those of a round
  yld : Option Yd := none
  rnd : Bool := false      -- is this a round's text?

structure R where
  pre : Option Prop
  val : PV
  upd : Option (Nat × Blk) := none

def R.bad : R := ⟨some False, .junk, none⟩
def R.ok (v : PV) : R := ⟨none, v, none⟩

def cellsOf : PV → List PV
  | .agg cs => cs
  | v => [v]

def unc (agg : Bool) (cs : List PV) : PV := bif agg then .agg cs else cs.headD .junk

def fillL (l : List PV) (off : Nat) (vs : List PV) : List PV := l.take off ++ (vs ++ l.drop (off + vs.length))

def boolOf : PV → Option Bool
  | .tt => some true
  | .ff => some false
  | .bool b => some b
  | _ => none

def arith (op : BinOp) (k : IntKind) (x y : Int) : R :=
  match op with
  | .add => .ok (.int k (k.wrap (x + y)))
  | .sub => .ok (.int k (k.wrap (x - y)))
  | .mul => .ok (.int k (k.wrap (x * y)))
  | .quo => ⟨some (y ≠ 0), .int k (k.wrap (x.tdiv y)), none⟩
  | .rem => ⟨some (y ≠ 0), .int k (x.tmod y), none⟩
  | .eql => .ok (.bool (x == y))
  | .neq => .ok (.bool (x != y))
  | .lss => .ok (.bool (decide (x < y)))
  | .leq => .ok (.bool (decide (x ≤ y)))
  | .gtr => .ok (.bool (decide (y < x)))
  | .geq => .ok (.bool (decide (y ≤ x)))
  | _ => .bad

/-- Whether rows of whole numbers are equal, number by number. -/
def eqCells : List PV → List PV → Option Bool
  | [], [] => some true
  | .int k a :: xs, .int k' b :: ys => bif decide (k = k') then (eqCells xs ys).map (fun r => a == b && r) else none
  | _, _ => none

def kindEq : IntKind → IntKind → Bool
  | .i8, .i8 | .i16, .i16 | .i32, .i32 | .i64, .i64 | .u8, .u8 | .u16, .u16 | .u32, .u32 | .u64, .u64 => true
  | _, _ => false

def nj : PV → Bool
  | .junk => false
  | _ => true

/-- The places of a struct's or an array's parts, filled one after another. -/
def fillParts (place : Nat → Option (Nat × Nat)) (e : Operand → PV) : List (Nat × Operand) → List PV → Option (List PV)
  | [], l => some l
  | (i, x) :: r, l =>
    match place i with
    | none => none
    | some (off, sz) =>
      let cs := cellsOf (e x)
      bif nj (e x) && (Nat.beq cs.length sz && Nat.ble (off + sz) l.length) then fillParts place e r (fillL l off cs) else none

/-- A value that takes one cell. -/
def sc1 : PV → Bool
  | .junk | .und | .agg _ | .tup _ => false
  | _ => true

def reps (n : Nat) (z : List PV) : List PV := (List.replicate n z).flatten

def toView : PV → PV
  | .slice _ len get => .slice none len get
  | .nils => .slice none 0 fun _ => []
  | v => v

def frzE (off : Nat) (bl : Nat → Blk) : PV → PV
  | .own s len => bif Nat.blt s off then .own s len else match bl s with
    | .arr len' _ get => bif Nat.ble len len' then .slice none len get else .junk
    | _ => .junk
  | v => v
/-- May the value be handed to a call, or back from one? (No place of a block of the function's own is in it.) -/
def plain1 : PV → Bool
  | .und | .tt | .ff | .bool _ | .int _ _ | .str _ | .nilp | .nils => true
  | .slice none _ _ => true
  | .cptr _ => true
  | _ => false
def plain1a : PV → Bool
  | .agg cs => cs.all plain1
  | v => plain1 v
def plain2 : PV → Bool
  | .agg cs => cs.all plain1
  | .fn _ a b => a.all plain1a && b.all plain1a
  | v => plain1 v
def plain3 : PV → Bool
  | .tup vs => vs.all plain2
  | v => plain2 v
def frz1 (bl : Nat → Blk) : PV → PV
  | .own s len => match bl s with
    | .arr len' _ get => bif Nat.ble len len' then .slice none len get else .junk
    | _ => .junk
  | .ptr s off => match bl s with
    | .cells l => bif (l.map toView).all plain1 then .cptr ((l.map toView).drop off) else .junk
    | _ => .junk
  | v => toView v
def frz (bl : Nat → Blk) : PV → PV
  | .own s len => match bl s with
    | .arr len' _ get => bif Nat.ble len len' then .slice none len get else .junk
    | _ => .junk
  | .fn f a b => .fn f (a.map (frz1 bl)) (b.map (frz1 bl))
  | v => toView v
def export1 (v : PV) : PV := toView v

def placeOf (C : Ctx) (fl : List (Nat × Nat)) (i : Nat) : Option (Nat × Nat) :=
  match fl[i]? with
  | some (o, t) => match look C.types t with
    | some f => some (o, f.size)
    | none => none
  | none => none

def nilConst : Operand → Bool
  | .const (.slice none 0 0) => true
  | _ => false

def evalOp (C : Ctx) (e : Operand → PV) (bl : Nat → Blk) (d ty : Nat) (op : Op) : R :=
  match op with
  | .move x => .ok (e x)
  | .assign x =>
    bif nilConst x then
      match look C.types ty, bl d with
      | some { k := .slice el, .. }, .none =>
        match look C.types el with
        | some te => bif Nat.ble 1 te.size then ⟨none, .slice (some d) 0 (fun _ => []), some (d, .grow 0 el te.size)⟩ else .ok .nils
        | none => .ok .nils
      | _, _ => .ok .nils
    else .ok (e x)
  | .pick c a b =>
    match e c with
    | .tt => .ok (e a)
    | .ff => .ok (e b)
    | .bool c => match boolOf (e a), boolOf (e b) with
      | some a, some b => .ok (.bool (cond c a b))
      | none, some y => ⟨some (c = false), .bool y, none⟩
      | some x, none => ⟨some (c = true), .bool x, none⟩
      | none, none => .bad
    | _ => .bad
  | .alloc t =>
    match look C.types t, bl d with
    | some ti, .none => ⟨none, .ptr d 0, some (d, .cells ti.zero)⟩
    | _, _ => .bad
  | .box t x =>
    match look C.types t, bl d with
    | some _, .none => bif nj (e x) then ⟨none, .ptr d 0, some (d, .cells (cellsOf (e x)))⟩ else .bad
    | _, _ => .bad
  | .build t ps =>
    match look C.types t with
    | some ti =>
      match ti.k with
      | .struct fl =>
        bif fl.all (fun f => (look C.types f.2).isSome) then
        match fillParts (placeOf C fl) e ps.toList ti.zero with
        | some l => .ok (.agg l)
        | none => .bad
        else .bad
      | .array _ el =>
        match look C.types el with
        | some te => match fillParts (fun i => some (i * te.size, te.size)) e ps.toList ti.zero with
          | some l => .ok (.agg l)
          | none => .bad
        | none => .bad
      | _ => .bad
    | none => .bad
  | .buildSlice t len ps =>
    match look C.types t with
    | some { k := .slice el, .. } =>
      match look C.types el with
      | some te => bif Nat.ble (len * te.size) 16777216 && Nat.ble 1 te.size then
          match fillParts (fun i => some (i * te.size, te.size)) e ps.toList (reps len te.zero) with
          | some l => bif l.all plain1 then .ok (.slice none len fun i => (l.drop (i * te.size)).take te.size) else .bad
          | none => .bad
        else .bad
      | none => .bad
    | _ => .bad
  | .load t x =>
    match look C.types t with
    | some ti =>
      match e x with
      | .ptr s off => match bl s with
        | .cells l => bif Nat.ble (off + ti.size) l.length then .ok (unc ti.agg ((l.drop off).take ti.size)) else .bad
        | _ => .bad
      | .cptr cs => bif Nat.ble ti.size cs.length then .ok (unc ti.agg (cs.take ti.size)) else .bad
      | .eptr s i off => match bl s with
        | .arr len _ get => ⟨some (i < len ∧ off + ti.size ≤ (get i).length), unc ti.agg (((get i).drop off).take ti.size), none⟩
        | _ => .bad
      | _ => .bad
    | none => .bad
  | .store t x v =>
    match look C.types t with
    | some ti =>
      let cs := cellsOf (e v)
      bif Nat.beq cs.length ti.size && cs.all sc1 then
        match e x with
        | .ptr s off => match bl s with
          | .cells l => bif Nat.ble (off + cs.length) l.length then ⟨none, .und, some (s, .cells (fillL l off cs))⟩ else .bad
          | _ => .bad
        | .eptr s i off => match bl s with
          | .arr len sz get => bif cs.all plain1 then ⟨some (i < len ∧ off + cs.length ≤ (get i).length), .und, some (s, .arr len sz fun j => bif Nat.beq j i then fillL (get i) off cs else get j)⟩ else .bad
          | _ => .bad
        | _ => .bad
      else .bad
    | none => .bad
  | .nilCheck x =>
    match e x with
    | .ptr s off => .ok (.ptr s off)
    | .cptr cs => .ok (.cptr cs)
    | .eptr s i off => .ok (.eptr s i off)
    | .fn (.func f) a b => .ok (.fn (.func f) a b)
    | _ => .bad
  | .binOp op t x y _ =>
    match e x, e y with
    | .int k a, .int k' b => bif kindEq k k' then arith op k a b else .bad
    | .agg xs, .agg ys =>
      match look C.types t with
      | some ti => bif ti.eq && Nat.beq xs.length ti.size then
          match eqCells xs ys with
          | some b =>
            match op with
            | .eql => .ok (.bool b)
            | .neq => .ok (.bool (!b))
            | _ => .bad
          | none => .bad
        else .bad
      | none => .bad
    | _, _ => .bad
  | .unOp .not _ x =>
    match e x with
    | .tt => .ok .ff
    | .ff => .ok .tt
    | .bool b => .ok (.bool (!b))
    | _ => .bad
  | .unOp .neg _ x =>
    match e x with
    | .int k n => .ok (.int k (k.wrap (0 - n)))
    | _ => .bad
  | .makeFunc f a b => .ok (.fn f (a.toList.map e) (b.toList.map e))
  | .makeSlice t x y =>
    match look C.types t with
    | some { k := .slice el, .. } =>
      match look C.types el, e x, e y, bl d with
      | some te, .int .i64 n, .int .i64 m, .none => bif Nat.ble 1 te.size then
          ⟨some (n = m ∧ 0 ≤ n ∧ n ≤ 1099511627776 ∧ te.bytes * n ≤ 140737488355328), .own d n.toNat, some (d, .arr n.toNat te.size fun _ => te.zero)⟩ else .bad
      | _, _, _, _ => .bad
    | _ => .bad
  | .slice t x lo hi none =>
    match look C.types t with
    | some { k := .slice el, .. } =>
      match look C.types el, e x with
      | some te, .slice _ len get =>
        match lo.map e, hi.map e with
        | none, some (.int _ h) => ⟨some (0 ≤ h ∧ h ≤ len), .slice none h.toNat get, none⟩
        | some (.int _ l), none => ⟨some (0 ≤ l ∧ l ≤ len ∧ ∀ i, i < len → (get i).length = te.size), .slice none (len - l.toNat) (fun i => get (i + l.toNat)), none⟩
        | some (.int _ l), some (.int _ h) => ⟨some (0 ≤ l ∧ l ≤ h ∧ h ≤ len ∧ ∀ i, i < len → (get i).length = te.size), .slice none (h.toNat - l.toNat) (fun i => get (i + l.toNat)), none⟩
        | _, _ => .bad
      | _, _ => .bad
    | _ => .bad
  | .fieldAddr t x i =>
    match look C.types t with
    | some { k := .struct fl, .. } =>
      match fl[i]? with
      | some (o, t') =>
        match look C.types t' with
        | some te => bif Nat.ble 1 te.size then
          match e x with
          | .ptr s off => .ok (.ptr s (off + o))
          | .cptr cs => bif Nat.ble o cs.length then .ok (.cptr (cs.drop o)) else .bad
          | .eptr s j off => .ok (.eptr s j (off + o))
          | _ => .bad
          else .bad
        | none => .bad
      | none => .bad
    | _ => .bad
  | .field t x i =>
    match look C.types t with
    | some { k := .struct fl, .. } =>
      match fl[i]?, e x with
      | some (o, t'), .agg cs =>
        match look C.types t' with
        | some ti => bif Nat.ble (o + ti.size) cs.length then .ok (unc ti.agg ((cs.drop o).take ti.size)) else .bad
        | none => .bad
      | _, _ => .bad
    | _ => .bad
  | .indexAddr t x i =>
    match look C.types t, e i with
    | some { k := .slice el, .. }, .int _ n =>
      match look C.types el, e x with
      | some te, .slice _ len get => ⟨some (0 ≤ n ∧ n < len ∧ (get n.toNat).length = te.size), .cptr (get n.toNat), none⟩
      | some te, .own s len => match bl s with
        | .arr len' sz _ => bif Nat.beq sz te.size then ⟨some (0 ≤ n ∧ n < len ∧ len ≤ len'), .eptr s n.toNat 0, none⟩ else .bad
        | _ => .bad
      | _, _ => .bad
    | some { k := .array m el, .. }, .int _ n =>
      match look C.types el, e x with
      | some te, .ptr s off => ⟨some (0 ≤ n ∧ n < m), .ptr s (off + n.toNat * te.size), none⟩
      | _, _ => .bad
    | _, _ => .bad
  | .index t x i =>
    match look C.types t, e i, e x with
    | some { k := .array m el, .. }, .int _ n, .agg cs =>
      match look C.types el with
      | some te => ⟨some (0 ≤ n ∧ n < m ∧ n.toNat * te.size + te.size ≤ cs.length), unc te.agg ((cs.drop (n.toNat * te.size)).take te.size), none⟩
      | none => .bad
    | _, _, _ => .bad
  | .convert u t x =>
    match look C.types u, look C.types t, e x with
    | some _, some { k := .scalar (some k), .. }, .int _ n => .ok (.int k (k.wrap n))
    | _, _, _ => .bad
  | .extract x i =>
    match e x with
    | .tup vs => match vs[i]? with | some v => .ok v | none => .bad
    | _ => .bad
  | .call { callee := .builtin .len, args, argTypes } =>
    match args[0]?.map e, argTypes[0]?.bind (look C.types) with
    | some (.slice _ len _), some { k := .slice _, .. } => .ok (.int .i64 len)
    | some .nils, some { k := .slice _, .. } => .ok (.int .i64 0)
    | some (.own _ len), some { k := .slice _, .. } => .ok (.int .i64 len)
    | _, _ => .bad
  | .call { callee := .builtin .max, args, .. } =>
    match args.toList.map e with
    | [.int k x, .int k' y] => bif kindEq k k' then .ok (.int k (if y > x then y else x)) else .bad
    | _ => .bad
  | .call { callee := .builtin .min, args, .. } =>
    match args.toList.map e with
    | [.int k x, .int k' y] => bif kindEq k k' then .ok (.int k (if y < x then y else x)) else .bad
    | _ => .bad
  | .call { callee := .builtin .append, args, argTypes } =>
    match args.toList.map e, argTypes.toList with
    | [b, .slice _ n get'], [t, t'] =>
      bif Nat.beq t t' then
      match look C.types t with
      | some { k := .slice el, .. } =>
        match look C.types el with
        | some te => bif Nat.ble 1 te.size then
          match b with
          | .nils => match bl d with
            | .none => ⟨some (n < 2147483648 ∧ n * te.bytes ≤ 140737488355328 ∧ ∀ i, i < n → (get' i).length = te.size ∧ (get' i).all sc1 = true), .slice (some d) n get', some (d, .grow n el te.size)⟩
            | _ => .bad
          | .slice (some s) len get => match bl s with
            | .grow L el' sz' => bif Nat.beq el el' && Nat.beq sz' te.size then ⟨some (L = len ∧ len + n < 2147483648 ∧ (len + n) * te.bytes ≤ 140737488355328 ∧ (∀ i, i < len → (get i).length = te.size) ∧ ∀ i, i < n → (get' i).length = te.size ∧ (get' i).all sc1 = true),
                .slice (some s) (len + n) (fun i => bif Nat.blt i len then get i else get' (i - len)), some (s, .grow (len + n) el te.size)⟩ else .bad
            | _ => .bad
          | _ => .bad
          else .bad
        | none => .bad
      | _ => .bad
      else .bad
    | _, _ => .bad
  | .call { callee := .value f, args, .. } =>
    match e f with
    | .fn (.func f) a b =>
      let as := (a ++ (args.toList.map e ++ b)).map export1
      match look C.specs f with
      | some s => bif as.all plain2 then ⟨(s as).1, (s as).2, none⟩ else .bad
      | none => .bad
    | _ => .bad
  | _ => .bad

-- Values are brought into their form before anything goes on with them, so that nothing is reckoned twice.
def frc1 (v : PV) (k : PV → Prop) : Prop :=
  match v with
  | .junk => k .junk | .und => k .und | .tt => k .tt | .ff => k .ff | .nilp => k .nilp | .nils => k .nils
  | .bool b => k (.bool b) | .int a n => k (.int a n) | .str s => k (.str s)
  | .agg cs => k (.agg cs) | .tup vs => k (.tup vs) | .ptr s o => k (.ptr s o) | .cptr cs => k (.cptr cs) | .eptr s i o => k (.eptr s i o)
  | .slice t len get => k (.slice t len get) | .own s len => k (.own s len) | .fn f a b => k (.fn f a b) | .yld l => k (.yld l)
def frcL {α : Type} (f : α → (α → Prop) → Prop) : List α → (List α → Prop) → Prop
  | [], k => k []
  | v :: vs, k => f v fun v => frcL f vs fun vs => k (v :: vs)
def frc2 (v : PV) (k : PV → Prop) : Prop :=
  match v with
  | .agg cs => frcL frc1 cs fun cs => k (.agg cs)
  | .cptr cs => frcL frc1 cs fun cs => k (.cptr cs)
  | .fn f a b => frcL frc1 a fun a => frcL frc1 b fun b => k (.fn f a b)
  | v => frc1 v k
def frc3 (v : PV) (k : PV → Prop) : Prop :=
  match v with
  | .tup vs => frcL frc2 vs fun vs => k (.tup vs)
  | v => frc2 v k
def frcB (b : Blk) (k : Blk → Prop) : Prop :=
  match b with
  | .none => k .none
  | .jmp j => k (.jmp j)
  | .cells l => frcL frc2 l fun l => k (.cells l)
  | .arr n s g => k (.arr n s g)
  | .grow n e s => k (.grow n e s)

/-- One operation, its guard having been met; then the rest. -/
def run0 (C : Ctx) (st : St) (o : Oper) (k : St → Prop) : Prop :=
  match evalOp C (ev st.slots) st.blocks (o.dst.getD 0 + C.off) o.type o.op with
  | ⟨none, v, none⟩ => frc3 v fun v => k (st.put o.dst v)
  | ⟨some p, v, none⟩ => p ∧ frc3 v fun v => k (st.put o.dst v)
  | ⟨none, v, some (s, b)⟩ => frc3 v fun v => frcB b fun b => k (St.put { slots := st.slots, blocks := upd st.blocks s b } o.dst v)
  | ⟨some p, v, some (s, b)⟩ => p ∧ frc3 v fun v => frcB b fun b => k (St.put { slots := st.slots, blocks := upd st.blocks s b } o.dst v)

/-- The same, told plainly. -/
def run1s (C : Ctx) (st : St) (o : Oper) (k : St → Prop) : Prop :=
  let r := evalOp C (ev st.slots) st.blocks (o.dst.getD 0 + C.off) o.type o.op
  match r.pre with
  | none => k ((st.setB r.upd).put o.dst r.val)
  | some p => p ∧ k ((st.setB r.upd).put o.dst r.val)

theorem frc1_eq (v : PV) (k : PV → Prop) : frc1 v k = k v := by cases v <;> rfl
theorem frcL_eq {α : Type} {f : α → (α → Prop) → Prop} (hf : ∀ v k, f v k = k v) : ∀ (l : List α) (k : List α → Prop), frcL f l k = k l
  | [], k => rfl
  | v :: vs, k => by simp only [frcL, hf, frcL_eq hf vs]
theorem frc2_eq (v : PV) (k : PV → Prop) : frc2 v k = k v := by
  cases v <;> simp only [frc2, frc1_eq, frcL_eq frc1_eq]
theorem frc3_eq (v : PV) (k : PV → Prop) : frc3 v k = k v := by
  cases v <;> simp only [frc3, frc2_eq, frcL_eq frc2_eq]
theorem frcB_eq (b : Blk) (k : Blk → Prop) : frcB b k = k b := by
  cases b <;> simp only [frcB, frcL_eq frc2_eq]
theorem run0_eq (C : Ctx) (st : St) (o : Oper) (k : St → Prop) : run0 C st o k = run1s C st o k := by
  unfold run0 run1s
  generalize evalOp C (ev st.slots) st.blocks (o.dst.getD 0 + C.off) o.type o.op = r
  obtain ⟨p, v, u⟩ := r
  cases p <;> cases u <;> simp only [frc3_eq, frcB_eq, St.setB]

/-- Does the value name blocks of this kind alone? -/
def ok1 (q : Nat → Bool) : PV → Bool
  | .ptr s _ => q s
  | .eptr s _ _ => q s
  | .own s _ => q s
  | .slice (some s) _ _ => q s
  | .agg _ | .tup _ | .fn _ _ _ => false
  | _ => true
def ok1a (q : Nat → Bool) : PV → Bool
  | .agg cs => cs.all (ok1 q)
  | p => ok1 q p
def prune (q : Nat → Bool) : PV → PV
  | .agg cs => bif cs.all (ok1 q) then .agg cs else .junk
  | .fn f a b => bif a.all (ok1a q) && b.all (ok1a q) then .fn f a b else .junk
  | .tup [] => .tup []
  | .tup _ => .junk
  | .slice (some s) len get => bif q s then .slice (some s) len get else .slice none len get
  | p => bif ok1 q p then p else .junk
/-- The call of a function that works on its caller's blocks. -/
def effOf (C : Ctx) (st : St) (o : Oper) : Option ((Nat × Eff) × List PV) :=
  match o.op with
  | .call { callee := .value f, args, .. } =>
    match ev st.slots f with
    | .fn (.func f) a b => match look C.effs f with
      | some e => some (e, a ++ (args.toList.map (ev st.slots) ++ b))
      | none => none
    | _ => none
  | _ => none
/-- The call of a loop's round. -/
def yldOf (C : Ctx) (st : St) (o : Oper) : Option (Nat × Yd × List PV) :=
  match C.yld with
  | some y =>
    match o.op with
    | .call { callee := .value f, args, .. } =>
      match ev st.slots f with
      | .yld l => some (l, y, args.toList.map (ev st.slots))
      | _ => none
    | _ => none
  | none => none
def run1 (C : Ctx) (st : St) (o : Oper) (k : St → Prop) : Prop :=
  match yldOf C st o with
  | some (l, y, as) => (match st.blocks y.s with | .jmp .ready => True | _ => False) ∧ l = y.l ∧ Nat.ble C.off y.o2 = true ∧ frcL frc2 as fun as => y.Y as st.blocks fun v bl => frc3 v fun v => k (St.put { slots := fun n => prune (fun s => Nat.blt s y.o2) (st.slots n), blocks := bl } o.dst v)
  | none =>
  match effOf C st o with
  | some ((off, e), as) => Nat.ble C.off off = true ∧ frcL frc2 as fun as => e as st.blocks fun v bl => frc3 v fun v => k (St.put { slots := fun n => prune (fun s => Nat.blt s off) (st.slots n), blocks := bl } o.dst v)
  | none => run0 C st o k

def stepO (C : Ctx) (ops : List Oper) (o : Oper) (st : St) (k : St → Prop) : Prop :=
  match o.guard with
  | none => run1 C st o k
  | some (j, want) =>
    match (ops[j]?).bind Oper.dst with
    | none => False
    | some g =>
      match st.slots g with
      | .tt => bif want then run1 C st o k else k (st.put o.dst .und)
      | .ff => bif want then k (st.put o.dst .und) else run1 C st o k
      | .und => k (st.put o.dst .und)
      | .bool b =>
        (b = want → run1 C (st.set g (bif want then .tt else .ff)) o k) ∧
        (b = !want → k ((st.set g (bif want then .ff else .tt)).put o.dst .und))
      | _ => False
def evalOps (C : Ctx) (ops : List Oper) : List Oper → St → (St → Prop) → Prop
  | [], st, k => k st
  | o :: rest, st, k => stepO C ops o st fun st => evalOps C ops rest st k


/-- The block that an operation reads or writes, if there is one. -/
def touch (e : Operand → PV) (d : Nat) : Op → Option Nat
  | .alloc _ | .box _ _ | .makeSlice _ _ _ => some d
  | .assign x => bif nilConst x then some d else none
  | .load _ x | .store _ x _ | .indexAddr _ x _ =>
    match e x with
    | .ptr s _ => some s
    | .eptr s _ _ => some s
    | .own s _ => some s
    | _ => none
  | .call { callee := .builtin .append, args, .. } =>
    match args[0]?.map e with
    | some (.slice (some s) _ _) => some s
    | _ => some d
  | _ => none
def touches : Op → Bool
  | .alloc _ | .box _ _ | .makeSlice _ _ _ | .store _ _ _ => true
  | .assign x => nilConst x
  | .call { callee := .builtin .append, .. } => true
  | _ => false

abbrev Trace := List (Nat × Option Nat × Bool)

def apart (a b : Option Nat × Bool) : Bool :=
  (!a.2 && !b.2) || match a.1, b.1 with
    | some s, some t => !Nat.beq s t
    | _, _ => true

def deps (o : Oper) : List Nat := (o.after.toList.filter (Region.binds .any)).map (·.on)
/-- For each operation a number, bit by bit: which ones must come before it. -/
def ancs : List Oper → List Nat → List Nat
  | [], acc => acc
  | o :: r, acc => ancs r (acc ++ [(deps o).foldl (fun m k => m ||| (1 <<< k ||| acc.getD k 0)) 0])
def hasA (an : List Nat) (i k : Nat) : Bool := Nat.testBit (an.getD i 0) k

/-- Of a trace: pairs that no edge orders touch nothing in common. -/
def calm (an : List Nat) : Trace → Bool
  | [] => true
  | (i, t) :: r => r.all (fun (k, u) => apart t u || hasA an k i) && calm an r

/-- A region whose order is open, run in the order of the text. -/
def stepD (C : Ctx) (ops : List Oper) (i : Nat) (o : Oper) (st : St) (tr : Trace) (k : St → Trace → Prop) : Prop :=
  let go := fun st : St =>
    match touch (ev st.slots) (o.dst.getD 0 + C.off) o.op with
    | none => run0 C st o fun st' => k st' tr
    | some s => run0 C st o fun st' => k st' (tr ++ [(i, some s, touches o.op)])
  match o.guard with
  | none => go st
  | some (j, want) =>
    match (ops[j]?).bind Oper.dst with
    | none => False
    | some g =>
      match st.slots g with
      | .tt => bif want then go st else k (st.put o.dst .und) tr
      | .ff => bif want then k (st.put o.dst .und) tr else go st
      | .und => k (st.put o.dst .und) tr
      | .bool b => (b = want → go (st.set g (.bool want))) ∧ (b = !want → k ((st.set g (.bool (!want))).put o.dst .und) tr)
      | _ => False
def evalD (C : Ctx) (ops : List Oper) (an : List Nat) : List (Nat × Oper) → St → Trace → (St → Prop) → Prop
  | [], st, tr, k => calm an tr = true ∧ k st
  | x :: rest, st, tr, k => stepD C ops x.1 x.2 st tr fun st tr => evalD C ops an rest st tr k

def isCall : Op → Bool
  | .call { callee := .value _, .. } => true
  | _ => false
/-- Each operation ahead must come before it, each behind it after it. -/
def cutOk (an : List Nat) (pre : List (Nat × Oper)) (c : Nat) (post : List (Nat × Oper)) : Bool :=
  pre.all (fun x => hasA an c x.1) && post.all fun y => hasA an y.1 c && pre.all fun x => hasA an y.1 x.1
def findCut (an : List Nat) : List (Nat × Oper) → List (Nat × Oper) → Option (List (Nat × Oper) × (Nat × Oper) × List (Nat × Oper))
  | _, [] => none
  | pre, x :: post => bif isCall x.2.op && cutOk an pre x.1 post then some (pre, x, post) else findCut an (pre ++ [x]) post
/-- A region whose order is open, cut at calls that have one place alone. -/
def evalDs (C : Ctx) (ops : List Oper) (an : List Nat) : Nat → List (Nat × Oper) → St → (St → Prop) → Prop
  | 0, l, st, k => evalD C ops an l st [] k
  | n + 1, l, st, k =>
    match findCut an [] l with
    | none => evalD C ops an l st [] k
    | some (p, x, q) => evalD C ops an p st [] fun st => evalOps C ops [x.2] st fun st => evalDs C ops an n q st k

def tmpOf : Operand → Option Nat
  | .tmp t => some t
  | _ => none
/-- The slots that an operation reads. -/
def reads (ops : List Oper) (o : Oper) : List Nat :=
  o.op.operands.toList.filterMap tmpOf ++ match o.guard with
    | some (j, _) => ((ops[j]?).bind Oper.dst).toList
    | none => []
def slotApart (ops : List Oper) (a b : Oper) : Bool :=
  (match a.dst with | some d => !(reads ops b).contains d | none => true) &&
  (match b.dst with | some d => !(reads ops a).contains d | none => true) &&
  match a.dst, b.dst with
  | some d, some d' => !Nat.beq d d'
  | _, _ => true
/-- A region's text: edges lead back; what no edge orders shares no slot. -/
def fitOps (ops : List Oper) : Bool :=
  let an := ancs ops []
  ops.zipIdx.all fun (o, i) => (deps o).all (fun k => Nat.blt k i) && (ops.take i).zipIdx.all fun (o', k) => hasA an i k || slotApart ops o' o

-- Ways that guards open, told as one: what a guarded operation gives is kept beside the state, with the guards under which it was done.
/-- A slot, what it must hold, what it holds; the newest one first. -/
abbrev Lits := List (Nat × Bool × Bool)
def litsP : Lits → Prop
  | [] => True
  | (_, w, b) :: r => b = w ∧ litsP r
def underL : Lits → Prop → Prop
  | [], p => p
  | (_, w, b) :: r, p => underL r (b = w → p)
abbrev ShM := List (Nat × Lits × PV)
def beqB : Bool → Bool → Bool
  | true, b => b
  | false, b => !b
def subL (l1 l2 : Lits) : Bool := l1.all fun x => l2.any fun y => Nat.beq x.1 y.1 && beqB x.2.1 y.2.1
def seen (st : St) (sh : ShM) (ls : Lits) (n : Nat) : PV :=
  match look sh n with
  | some (l2, v) => bif subL l2 ls then v else .junk
  | none => st.slots n
def visX (sh : ShM) (ls : Lits) (x : Operand) : Bool :=
  match tmpOf x with
  | some t => match look sh t with
    | some (l2, _) => subL l2 ls
    | none => true
  | none => true
def freshM (sh : ShM) (ls : Lits) (d : Nat) : Bool := !(sh.any fun x => Nat.beq x.1 d || x.2.1.any fun y => Nat.beq y.1 d) && !(ls.any fun y => Nat.beq y.1 d)
def opM (C : Ctx) (st : St) (sh : ShM) (ls : Lits) (d ty : Nat) (op : Op) : R :=
  match op with
  | .pick c a b =>
    bif visX sh ls c then
      match ev (seen st sh ls) c with
      | .bool bc =>
        match tmpOf c with
        | some g =>
          bif visX sh ((g, true, bc) :: ls) a && visX sh ((g, false, bc) :: ls) b then
            match boolOf (ev (seen st sh ((g, true, bc) :: ls)) a), boolOf (ev (seen st sh ((g, false, bc) :: ls)) b) with
            | some x, some y => .ok (.bool (cond bc x y))
            | _, _ => .bad
          else .bad
        | none => .bad
      | .tt => bif visX sh ls a then .ok (ev (seen st sh ls) a) else .bad
      | .ff => bif visX sh ls b then .ok (ev (seen st sh ls) b) else .bad
      | _ => .bad
    else .bad
  | op => bif op.operands.toList.all (visX sh ls) then evalOp C (ev (seen st sh ls)) st.blocks d ty op else .bad

def stepM (C : Ctx) (ops : List Oper) (i : Nat) (o : Oper) (st : St) (sh : ShM) (tr : Trace) (k : St → ShM → Trace → Prop) : Prop :=
  let skip := (!o.dst.any fun d => !freshM sh [] d) = true ∧ k (st.put o.dst .und) sh tr
  let go := fun ls : Lits =>
    let tr' := match touch (ev (seen st sh ls)) (o.dst.getD 0 + C.off) o.op with
      | none => tr
      | some s => tr ++ [(i, some s, touches o.op)]
    (!o.dst.any fun d => !freshM sh ls d) = true ∧
    match ls, opM C st sh ls (o.dst.getD 0 + C.off) o.type o.op with
    | [], ⟨none, v, none⟩ => frc3 v fun v => k (st.put o.dst v) sh tr'
    | [], ⟨some p, v, none⟩ => p ∧ frc3 v fun v => k (st.put o.dst v) sh tr'
    | [], ⟨none, v, some (s, b)⟩ => frc3 v fun v => frcB b fun b => k (St.put { slots := st.slots, blocks := upd st.blocks s b } o.dst v) sh tr'
    | [], ⟨some p, v, some (s, b)⟩ => p ∧ frc3 v fun v => frcB b fun b => k (St.put { slots := st.slots, blocks := upd st.blocks s b } o.dst v) sh tr'
    | l :: ls, ⟨p, v, none⟩ =>
      match o.dst with
      | some d => (match p with | none => True | some p => underL (l :: ls) p) ∧ frc3 v fun v => k (st.put (some d) .junk) ((d, l :: ls, v) :: sh) tr'
      | none => False
    | _ :: _, ⟨_, _, some _⟩ => False
  match o.guard with
  | none => go []
  | some (j, want) =>
    match (ops[j]?).bind Oper.dst with
    | none => False
    | some g =>
      match look sh g with
      | some (l2, .bool b) => go ((g, want, b) :: l2)
      | some _ => False
      | none =>
        match st.slots g with
        | .tt => bif want then go [] else skip
        | .ff => bif want then skip else go []
        | .und => skip
        | .bool b => go [(g, want, b)]
        | _ => False
def evalM (C : Ctx) (ops : List Oper) (an : List Nat) : List (Nat × Oper) → St → ShM → Trace → (St → Prop) → Prop
  | [], st, _, tr, k => calm an tr = true ∧ k st
  | x :: rest, st, sh, tr, k => stepM C ops x.1 x.2 st sh tr fun st sh tr => evalM C ops an rest st sh tr k
def guarded (ops : List Oper) : Bool := ops.any fun o => o.guard.isSome

inductive Out where
  | normal (st : St)
  | exit (n : Nat) (st : St)
  | ret (st : St)

def mkSt (sl : List (Nat × PV)) (bl : List (Nat × Blk)) : St :=
  { slots := fun n => (look sl n).getD .junk, blocks := fun s => (look bl s).getD .none }

def has (l : List Nat) (n : Nat) : Bool := l.any (Nat.beq n)

def pruneB (q : Nat → Bool) : Blk → Blk
  | .cells l => .cells (l.map (prune q))
  | .arr len sz get => .arr len sz get
  | b => b
/-- The names that a loop's head keeps: the caller's, and those of the list. -/
def keepQ (off : Nat) (keep : List Nat) (s : Nat) : Bool := Nat.blt s off || has keep s

/-- What of a state is kept at a loop's head: some slots, some blocks. -/
def clean (off : Nat) (live keep : List Nat) (st : St) : St :=
  { slots := fun n => (look (live.map fun n => (n, prune (keepQ off keep) (st.slots n))) n).getD .junk
    blocks := fun s => (look (keep.map fun s => (s, pruneB (keepQ off keep) (st.blocks s))) s).getD (bif Nat.blt s off then pruneB (keepQ off keep) (st.blocks s) else .none) }

/-- The state in a short form: the slots that are read later, the blocks that there are. -/
def rebase (C : Ctx) (st : St) (k : St → Prop) : Prop :=
  bif Nat.beq C.off 0 then
    frcL frc3 (C.live.map fun n => prune (keepQ 0 C.names) (st.slots n)) fun vs => frcL frcB (C.names.map fun s => pruneB (keepQ 0 C.names) (st.blocks s)) fun bs => k (mkSt (C.live.zip vs) (C.names.zip bs))
  else k st

/-- The second one says no more than the first one. -/
inductive PLe : PV → PV → Prop
  | refl (p : PV) : PLe p p
  | junk (p : PV) : PLe p .junk
  | slice (t : Option Nat) (len : Nat) (get get' : Nat → List PV) (h : ∀ i, i < len → get i = get' i) : PLe (.slice t len get) (.slice t len get')
  | bool (b c : Bool) (h : b = c) : PLe (.bool b) (.bool c)
  | tt (b : Bool) (h : b = true) : PLe .tt (.bool b)
  | ff (b : Bool) (h : b = false) : PLe .ff (.bool b)
  | int (k : IntKind) (m n : Int) (h : m = n) : PLe (.int k m) (.int k n)
  | agg (xs ys : List PV) (hl : xs.length = ys.length) (h : ∀ i, i < xs.length → PLe (xs.getD i .junk) (ys.getD i .junk)) : PLe (.agg xs) (.agg ys)
  | tup (xs ys : List PV) (hl : xs.length = ys.length) (h : ∀ i, i < xs.length → PLe (xs.getD i .junk) (ys.getD i .junk)) : PLe (.tup xs) (.tup ys)

inductive BLe : Blk → Blk → Prop
  | refl (b : Blk) : BLe b b
  | cells (xs ys : List PV) (hl : xs.length = ys.length) (h : ∀ i, i < xs.length → PLe (xs.getD i .junk) (ys.getD i .junk)) : BLe (.cells xs) (.cells ys)
  | arr (len sz : Nat) (get get' : Nat → List PV) (h : ∀ i, i < len → get i = get' i) : BLe (.arr len sz get) (.arr len sz get')

def SLe (st st' : St) : Prop := (∀ n, PLe (st.slots n) (st'.slots n)) ∧ ∀ s, BLe (st.blocks s) (st'.blocks s)

/-- A place at which the proof says something of its own. -/
inductive Halt (p : Prop) : Prop
  | mk (h : p)
  | no (h : False)
theorem Halt.get {p : Prop} : Halt p → p
  | .mk h => h
  | .no h => h.elim

def cutB (off : Nat) (bl : Nat → Blk) : Nat → Blk := fun s => bif Nat.blt s off then pruneB (fun s => Nat.blt s off) (bl s) else .none
/-- A round's loop variables. -/
def setPs (sl : Nat → PV) : List Nat → List PV → Nat → PV
  | p :: ps, v :: vs => setPs (upd sl p v) ps vs
  | _, _ => sl

/-- A nil slice in a variable, told as one that grows: the variable, its part, the new name, the elements' type and size. -/
def ghost (st : St) : List (Nat × Nat × Nat × Nat × Nat) → Option St
  | [] => some st
  | (s, i, g, el, sz) :: r =>
    match st.blocks s, st.blocks g with
    | .cells l, .none =>
      match l[i]? with
      | some .nils => bif Nat.blt 0 sz then ghost { slots := st.slots, blocks := upd (upd st.blocks g (.grow 0 el sz)) s (.cells (l.set i (.slice (some g) 0 fun _ => []))) } r else none
      | _ => none
    | _, _ => none

def evalCode : Ctx → Code → St → (Out → Prop) → Prop
  | _, .skip, st, k => k (.normal st)
  | C, .region _ ops draw, st, k =>
    bif C.merge then
      bif guarded ops.toList then evalM C ops.toList (ancs ops.toList []) (ops.toList.zipIdx.map fun (o, i) => (i, o)) st [] [] fun st => rebase C st fun st => k (.normal st)
      else bif draw then evalDs C ops.toList (ancs ops.toList []) ops.toList.length (ops.toList.zipIdx.map fun (o, i) => (i, o)) st fun st => rebase C st fun st => k (.normal st)
      else evalOps C ops.toList ops.toList st fun st => rebase C st fun st => k (.normal st)
    else bif draw then evalDs C ops.toList (ancs ops.toList []) ops.toList.length (ops.toList.zipIdx.map fun (o, i) => (i, o)) st fun st => k (.normal st)
    else evalOps C ops.toList ops.toList st fun st => k (.normal st)
  | C, .seq a b, st, k => evalCode C a st fun o => match o with | .normal st => evalCode C b st k | o => k o
  | C, .cond c a b, st, k =>
    match ev st.slots c with
    | .tt => evalCode C a st k
    | .ff => evalCode C b st k
    | .bool c => (c = true → evalCode C a st k) ∧ (c = false → evalCode C b st k)
    | _ => False
  | C, .block id a, st, k => evalCode C a st fun o => match o with | .exit n st => bif Nat.beq n id then k (.normal st) else k (.exit n st) | o => k o
  | C, .loop a, st, k => Halt (∃ (live keep : List Nat) (Inv : St → Prop) (μ : St → Nat), (∃ st1, SLe (clean C.off live keep st) st1 ∧ Inv st1) ∧
      ∀ st, Inv st → evalCode C a st fun o => match o with | .normal st' => Halt (∃ st1, SLe (clean C.off live keep st') st1 ∧ Inv st1 ∧ μ st1 < μ st) | o => k o)
  | _, .exit n, st, k => k (.exit n st)
  | _, .ret, st, k => k (.ret st)
  | C, .rangeFunc g ps assign body, st, k =>
    match C.rnd with
    | true => False
    | false => Halt (∃ gs, match ghost st gs with
    | none => False
    | some st =>
    match ev st.slots g with
    | .fn (.func f) a b =>
      match look C.iters f with
      | some (s0, o1, o2, I) =>
        match st.blocks s0 with
        | .none => (Nat.ble C.off s0 && Nat.blt s0 o1 && Nat.ble o1 o2) = true ∧ ∀ l : Nat,
          I (a ++ (.yld l :: b)) (upd st.blocks s0 (.jmp .ready)) ⟨s0, l, o2, fun args bl k' => Nat.beq args.length ps.size = true ∧
              evalCode { C with off := o2, rnd := true } assign { slots := setPs (fun n => prune (fun s => Nat.blt s o1) (st.slots n)) ps.toList args, blocks := bl } fun o => match o with
                | .normal st1 => (match st1.blocks s0 with | .jmp .ready => True | _ => False) ∧ evalCode { C with off := o2, rnd := true } body { slots := st1.slots, blocks := upd st1.blocks s0 (.jmp .busy) } fun o => match o with
                  | .normal st2 => k' .tt (cutB o2 (upd st2.blocks s0 (.jmp .ready)))
                  | .ret st2 => k' .ff (cutB o2 (upd st2.blocks s0 (.jmp (.done none))))
                  | .exit n st2 => k' .ff (cutB o2 (upd st2.blocks s0 (.jmp (.done (some n)))))
                | _ => False⟩
            fun _ bl' => match bl' s0 with
              | .jmp .ready => k (.normal { slots := fun n => prune (fun s => Nat.blt s o1) (st.slots n), blocks := upd bl' s0 .none })
              | .jmp (.done none) => k (.ret { slots := fun n => prune (fun s => Nat.blt s o1) (st.slots n), blocks := upd bl' s0 .none })
              | .jmp (.done (some n)) => k (.exit n { slots := fun n => prune (fun s => Nat.blt s o1) (st.slots n), blocks := upd bl' s0 .none })
              | _ => False
        | _ => False
      | none => False
    | _ => False)
  | _, _, _, _ => False

/-- A slot that is filled. -/
def fills (t : Nat) : Oper := { dst := some t, op := .move (.tmp 0), type := 0, pos := default, after := #[], guard := none }
/-- The static conditions on a code's text. -/
def okCode (ok : Oper → Bool) : Code → Bool
  | .region _ ops draw => ops.toList.all ok && (!draw || fitOps ops.toList)
  | .seq a b | .cond _ a b => okCode ok a && okCode ok b
  | .block _ a | .loop a => okCode ok a
  | .rangeFunc _ ps a b => ps.toList.all (fun t => ok (fills t)) && okCode ok a && okCode ok b
  | .skip | .exit _ | .ret => true
  | _ => false

def start (args : List PV) : St := { slots := fun n => args.getD n .junk, blocks := fun _ => .none }

def resOf (C : Ctx) (st : St) : ResultVar → PV
  | .tmp t => st.slots t
  | .cell x t =>
    match st.slots x, look C.types t with
    | .ptr s off, some ti => match st.blocks s with
      | .cells l => bif Nat.ble (off + ti.size) l.length then unc ti.agg ((l.drop off).take ti.size) else .junk
      | _ => .junk
    | _, _ => .junk
def results1 (C : Ctx) (rs : List ResultVar) (st : St) : PV :=
  match rs with
  | [r] => frz st.blocks (resOf C st r)
  | rs => .tup (rs.map fun r => frz st.blocks (resOf C st r))

/-- What a function's text owes to what is said of it. -/
def Meets (C : Ctx) (c : Code) (rs : List ResultVar) (n : Nat) (s : Spec) : Prop :=
  ∀ args : List PV, (s args).1.getD True → args.length = n ∧ evalCode C c (start args) fun o => match o with
    | .normal st | .ret st => rs.all (fun r => plain2 (frz st.blocks (resOf C st r))) = true ∧ PLe (results1 C rs st) (s args).2
    | _ => False

/-- A function that works on its caller's blocks, by its text. -/
def effBody (C : Ctx) (c : Code) (rs : List ResultVar) : Eff := fun args bl k =>
  evalCode C c { slots := (start args).slots, blocks := bl } fun o => match o with
    | .normal st | .ret st => rs.all (fun r => nj (resOf C st r)) = true ∧ k (prune (fun s => Nat.blt s C.off) (match rs with | [] => .tup [] | [r] => frzE C.off st.blocks (resOf C st r) | _ => .junk)) fun s => bif Nat.blt s C.off then pruneB (fun s => Nat.blt s C.off) (st.blocks s) else .none
    | _ => False
/-- A function that is ranged over, by its text. -/
def iterBody (C : Ctx) (c : Code) (rs : List ResultVar) (n : Nat) : Iter := fun args bl y K => args.length = n ∧ effBody { C with yld := some y } c rs args bl K

end Go.V
