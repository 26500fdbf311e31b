/- The calculus of plain values: definitions; that each operation does to the machine what it does to the plain state. -/
import Derived.WalkKit
import Derived.RangeFuncIn
import Derived.RangeFuncRecord
import Derived.RangeFuncLeaves

/- The core of a calculus over plain values: what a Go function's text computes, told without memory, tape or schedule. Definitions alone. -/
namespace Go.V

inductive PV where
  | junk | und | tt | ff
  | bool (b : Bool)
  | int (k : IntKind) (n : Int)
  | str (s : ByteArray)
  | agg (cs : List PV)
  | tup (vs : List PV)
  | nilp | nils
  | ptr (s off : Nat)
  | cptr (cs : List PV)
  | eptr (s i off : Nat)
  | slice (tag : Option Nat) (len : Nat) (get : Nat → List PV)
  | own (s len : Nat)
  | fn (f : Fn) (first captured : List PV)
  | yld (l : Nat)
  | stk (s ver len : Nat)
  | cslice (s off len sz : Nat)
  | tsl (s k len sz : Nat) (get : Nat → List PV)

inductive JS where
  | ready
  | busy
  | done (e : Option Nat)
inductive Blk where
  | none
  | jmp (j : JS)
  | cells (l : List PV)
  | arr (len sz : Nat) (get : Nat → List PV)
  | grow (len el sz : Nat)
  | stk (ver len el sz : Nat) (get : Nat → List PV)
  | arrx (len : Nat) (get : Nat → List PV) (i : Nat) (v : PV)
  | arrv (len : Nat) (get : Nat → PV)

structure St where
  slots : Nat → PV
  blocks : Nat → Blk

def upd {α : Type} (f : Nat → α) (n : Nat) (v : α) : Nat → α := fun m => bif Nat.beq m n then v else f m

def St.put (st : St) (d : Option Nat) (v : PV) : St :=
  match d with
  | some d => { slots := upd st.slots d v, blocks := st.blocks }
  | none => st
def St.set (st : St) (d : Nat) (v : PV) : St := { slots := upd st.slots d v, blocks := st.blocks }
def St.setB (st : St) (u : Option (Nat × Blk)) : St :=
  match u with
  | some (s, b) => { slots := st.slots, blocks := upd st.blocks s b }
  | none => st

def ofVal : Value → PV
  | .int k n => .int k n
  | .bool true => .tt
  | .bool false => .ff
  | .string s => .str s
  | .pointer none => .nilp
  | .slice none 0 0 => .nils
  | _ => .junk

def ev (sl : Nat → PV) : Operand → PV
  | .tmp t => sl t
  | .const v => ofVal v
  | .func f => .fn (.func f) [] []
  | .global _ => .junk

inductive TyK where
  | scalar (k : Option IntKind)
  | bool
  | struct (flds : List (Nat × Nat))       -- offset, type
  | array (n elem : Nat)
  | slice (elem : Nat)

def TyK.of : TypeDesc → TyK
  | .struct fs => .struct (fs.toList.map fun f => (f.offset, f.type))
  | .array n e => .array n e
  | .slice e => .slice e
  | .int k => .scalar (some k)
  | .bool => .bool
  | _ => .scalar none

structure TI where
  k : TyK
  size : Nat
  bytes : Nat
  zero : List PV
  eq : Bool := false

def TI.agg (t : TI) : Bool := match t.k with | .struct _ => true | .array _ _ => true | _ => false

abbrev Spec := List PV → Option Prop × PV
abbrev Eff := List PV → (Nat → Blk) → (PV → (Nat → Blk) → Prop) → Prop

def look {α : Type} : List (Nat × α) → Nat → Option α
  | [], _ => none
  | (m, a) :: r, n => bif Nat.beq m n then some a else look r n

structure Yd where
  s : Nat
  l : Nat
  o2 : Nat
  Y : Eff
abbrev Iter := List PV → (Nat → Blk) → Yd → (PV → (Nat → Blk) → Prop) → Prop

def has (l : List Nat) (n : Nat) : Bool := l.any (Nat.beq n)
inductive Gh where
  | cell (stk : Bool) (s i g el sz : Nat)
  | row (s slot g el sz : Nat)
  | arrv (s : Nat)
  | slot (d g el sz : Nat)
  | own (d : Nat) (live keep : List Nat)
  | frz (d : Nat) (live keep : List Nat)
structure Ctx where
  types : List (Nat × TI)
  specs : List (Nat × Spec)
  effs : List (Nat × Nat × Eff) := []      -- with each: from which name on its own blocks are named
  off : Nat := 0
  merge : Bool := false      -- are ways that a region's guards open told as one? And is the state brought into a short form behind each region?
  live : List Nat := []
  names : List Nat := []
  iters : List (Nat × Nat × Nat × Nat × Iter) := []      -- with each: the record's name, from where on its own blocks are named, and those of a round
  yld : Option Yd := none
  rnd : Bool := false      -- is this a round's text?
  fresh : List (Nat × Nat × Nat × Spec) := []      -- functions whose result is a slice of their own: its elements' type and size
  ghosts : List (Nat × List Gh) := []      -- told ahead of a region: what a nil slice is told as
  lits : List Nat := []      -- slices written out that are appended to later

structure R where
  pre : Option Prop
  val : PV
  upd : Option (Nat × Blk) := none

def R.bad : R := ⟨some False, .junk, none⟩
def R.ok (v : PV) : R := ⟨none, v, none⟩

def cellsOf : PV → List PV
  | .agg cs => cs
  | v => [v]

def unc (agg : Bool) (cs : List PV) : PV := bif agg then .agg cs else cs.headD .junk

def tab (get : Nat → PV) : Nat → List PV → List PV
  | 0, r => r
  | n + 1, r => tab get n (get n :: r)

def fillL (l : List PV) (off : Nat) (vs : List PV) : List PV := l.take off ++ (vs ++ l.drop (off + vs.length))

def boolOf : PV → Option Bool
  | .tt => some true
  | .ff => some false
  | .bool b => some b
  | _ => none

def arith (op : BinOp) (k : IntKind) (x y : Int) : R :=
  match op with
  | .add => .ok (.int k (k.wrap (x + y)))
  | .sub => .ok (.int k (k.wrap (x - y)))
  | .mul => .ok (.int k (k.wrap (x * y)))
  | .quo => ⟨some (y ≠ 0), .int k (k.wrap (x.tdiv y)), none⟩
  | .rem => ⟨some (y ≠ 0), .int k (x.tmod y), none⟩
  | .eql => .ok (.bool (x == y))
  | .neq => .ok (.bool (x != y))
  | .lss => .ok (.bool (decide (x < y)))
  | .leq => .ok (.bool (decide (x ≤ y)))
  | .gtr => .ok (.bool (decide (y < x)))
  | .geq => .ok (.bool (decide (y ≤ x)))
  | .and => .ok (.int k (k.wrap ((BitVec.ofInt k.bits x &&& BitVec.ofInt k.bits y).toNat)))
  | .or => .ok (.int k (k.wrap ((BitVec.ofInt k.bits x ||| BitVec.ofInt k.bits y).toNat)))
  | _ => .bad
def shiftR (op : BinOp) (k : IntKind) (x y : Int) : Option R :=
  match op with
  | .shl => some ⟨some (0 ≤ y), .int k (k.wrap (x * 2 ^ min y.toNat k.bits)), none⟩
  | .shr => some ⟨some (0 ≤ y), .int k (x.fdiv (2 ^ min y.toNat k.bits)), none⟩
  | _ => none

def eqCells : List PV → List PV → Option Bool
  | [], [] => some true
  | .int k a :: xs, .int k' b :: ys => bif decide (k = k') then (eqCells xs ys).map (fun r => a == b && r) else none
  | _, _ => none

def kindEq : IntKind → IntKind → Bool
  | .i8, .i8 | .i16, .i16 | .i32, .i32 | .i64, .i64 | .u8, .u8 | .u16, .u16 | .u32, .u32 | .u64, .u64 => true
  | _, _ => false

def nj : PV → Bool
  | .junk => false
  | _ => true

def fillParts (place : Nat → Option (Nat × Nat)) (e : Operand → PV) : List (Nat × Operand) → List PV → Option (List PV)
  | [], l => some l
  | (i, x) :: r, l =>
    match place i with
    | none => none
    | some (off, sz) =>
      let cs := cellsOf (e x)
      bif nj (e x) && (Nat.beq cs.length sz && Nat.ble (off + sz) l.length) then fillParts place e r (fillL l off cs) else none

def sc1 : PV → Bool
  | .junk | .und | .agg _ | .tup _ => false
  | _ => true

def reps (n : Nat) (z : List PV) : List PV := (List.replicate n z).flatten

def toView : PV → PV
  | .slice _ len get => .slice none len get
  | .nils => .slice none 0 fun _ => []
  | .tsl _ _ len _ get => .slice none len get
  | v => v

def frzE (off : Nat) (bl : Nat → Blk) : PV → PV
  | .own s len => bif Nat.blt s off then .own s len else match bl s with
    | .arr len' _ get => bif Nat.ble len len' then .slice none len get else .junk
    | _ => .junk
  | v => v
def plain1 : PV → Bool
  | .und | .tt | .ff | .bool _ | .int _ _ | .str _ | .nilp | .nils => true
  | .slice none _ _ => true
  | .cptr _ => true
  | _ => false
def plain1a : PV → Bool
  | .agg cs => cs.all plain1
  | v => plain1 v
def plain2 : PV → Bool
  | .agg cs => cs.all plain1
  | .fn _ a b => a.all plain1a && b.all plain1a
  | v => plain1 v
def plain3 : PV → Bool
  | .tup vs => vs.all plain2
  | v => plain2 v
def frz1 (bl : Nat → Blk) : PV → PV
  | .own s len => match bl s with
    | .arr len' _ get => bif Nat.ble len len' then .slice none len get else .junk
    | _ => .junk
  | .ptr s off => match bl s with
    | .cells l => bif (l.map toView).all plain1 then .cptr ((l.map toView).drop off) else .junk
    | _ => .junk
  | v => toView v
def frz (bl : Nat → Blk) : PV → PV
  | .own s len => match bl s with
    | .arr _ _ get => .slice none len get
    | .arrx _ get i v => bif plain1 (toView v) then .slice none len (fun k => bif Nat.beq k i then [toView v] else get k) else .junk
    | _ => .junk
  | .fn f a b => .fn f (a.map (frz1 bl)) (b.map (frz1 bl))
  | .agg cs => .agg (cs.map toView)
  | .stk s _ len => match bl s with
    | .stk _ _ _ _ get => .slice none len get
    | _ => .junk
  | .cslice s off len sz => match bl s with
    | .cells l => bif (l.map toView).all plain1 then .slice none len (fun i => ((l.map toView).drop (off + i * sz)).take sz) else .junk
    | _ => .junk
  | .ptr s off => match bl s with
    | .cells l => bif (l.map toView).all plain1 then .cptr ((l.map toView).drop off) else .junk
    | _ => .junk
  | v => toView v
def frzP (bl : Nat → Blk) : PV → Option Prop
  | .own s len => match bl s with
    | .arr len' _ _ => some (len ≤ len')
    | .arrx len' _ _ _ => some (len ≤ len')
    | _ => none
  | .stk s ver len => match bl s with
    | .stk ver' len' _ _ _ => some (ver = ver' ∧ len = len')
    | _ => none
  | .cslice s off len sz => match bl s with
    | .cells l => some (off + len * sz ≤ l.length)
    | _ => none
  | _ => none
def andP : Option Prop → Option Prop → Option Prop
  | none, q => q
  | some p, none => some p
  | some p, some q => some (p ∧ q)
def frzPL (bl : Nat → Blk) : List PV → Option Prop
  | [] => none
  | v :: vs => andP (frzP bl v) (frzPL bl vs)
def withP (p : Option Prop) (q : Prop) : Prop :=
  match p with
  | none => q
  | some p => p ∧ q
def noref1 : PV → Bool
  | .tt | .ff | .bool _ | .int _ _ | .str _ => true
  | _ => false
def noref2 : PV → Bool
  | .agg cs => cs.all noref1
  | v => noref1 v
def noref : PV → Bool
  | .tup vs => vs.all noref2
  | v => noref2 v
def export1 (v : PV) : PV := toView v

def boolOp (C : Ctx) (t : Nat) (op : BinOp) (a b : PV) : R :=
  match boolOf a, boolOf b, look C.types t with
  | some p, some q, some { k := .bool, .. } => match op with
    | .eql => .ok (.bool (p == q))
    | .neq => .ok (.bool (p != q))
    | _ => .bad
  | _, _, _ => .bad
def placeOf (C : Ctx) (fl : List (Nat × Nat)) (i : Nat) : Option (Nat × Nat) :=
  match fl[i]? with
  | some (o, t) => match look C.types t with
    | some f => some (o, f.size)
    | none => none
  | none => none

def nilConst : Operand → Bool
  | .const (.slice none 0 0) => true
  | _ => false

def evalOp (C : Ctx) (e : Operand → PV) (bl : Nat → Blk) (d ty : Nat) (op : Op) : R :=
  match op with
  | .move x => .ok (e x)
  | .assign x =>
    bif nilConst x then
      match look C.types ty, bl d with
      | some { k := .slice el, .. }, .none =>
        match look C.types el with
        | some te => bif Nat.ble 1 te.size then ⟨none, bif has C.lits d then .stk d 0 0 else .slice (some d) 0 (fun _ => []), some (d, bif has C.lits d then .stk 0 0 el te.size (fun _ => []) else .grow 0 el te.size)⟩ else .ok .nils
        | none => .ok .nils
      | _, _ => .ok .nils
    else .ok (e x)
  | .pick c a b =>
    match e c with
    | .tt => .ok (e a)
    | .ff => .ok (e b)
    | .bool c => match boolOf (e a), boolOf (e b) with
      | some a, some b => .ok (.bool (cond c a b))
      | none, some y => ⟨some (c = false), .bool y, none⟩
      | some x, none => ⟨some (c = true), .bool x, none⟩
      | none, none => .bad
    | _ => .bad
  | .alloc t =>
    match look C.types t, bl d with
    | some ti, .none => ⟨none, .ptr d 0, some (d, .cells ti.zero)⟩
    | _, _ => .bad
  | .box t x =>
    match look C.types t, bl d with
    | some _, .none => bif nj (e x) then ⟨none, .ptr d 0, some (d, .cells (cellsOf (e x)))⟩ else .bad
    | _, _ => .bad
  | .build t ps =>
    match look C.types t with
    | some ti =>
      match ti.k with
      | .struct fl =>
        bif fl.all (fun f => (look C.types f.2).isSome) then
        match fillParts (placeOf C fl) e ps.toList ti.zero with
        | some l => .ok (.agg l)
        | none => .bad
        else .bad
      | .array _ el =>
        match look C.types el with
        | some te => match fillParts (fun i => some (i * te.size, te.size)) e ps.toList ti.zero with
          | some l => .ok (.agg l)
          | none => .bad
        | none => .bad
      | _ => .bad
    | none => .bad
  | .buildSlice t len ps =>
    match look C.types t with
    | some { k := .slice el, .. } =>
      match look C.types el with
      | some te => bif Nat.ble (len * te.size) 16777216 && Nat.ble 1 te.size then
          match fillParts (fun i => some (i * te.size, te.size)) e ps.toList (reps len te.zero) with
          | some l => bif Nat.beq len 0 || has C.lits d then (match bl d with
              | .none => bif (l.map toView).all plain1 then (bif Nat.beq len 0 && has C.lits d then ⟨none, .stk d 0 0, some (d, .stk 0 0 el te.size fun _ => [])⟩ else ⟨none, .slice (some d) len (fun i => ((l.map toView).drop (i * te.size)).take te.size), some (d, .grow len el te.size)⟩) else .bad
              | _ => .bad) else bif (l.map toView).all plain1 then .ok (.slice none len fun i => ((l.map toView).drop (i * te.size)).take te.size) else .bad
          | none => .bad
        else .bad
      | none => .bad
    | _ => .bad
  | .load t x =>
    match look C.types t with
    | some ti =>
      match e x with
      | .ptr s off => match bl s with
        | .cells l => bif Nat.ble (off + ti.size) l.length then .ok (unc ti.agg ((l.drop off).take ti.size)) else .bad
        | .arrv len get => bif ti.agg then (bif Nat.beq off 0 && Nat.beq ti.size len then .ok (.agg (tab get len [])) else .bad) else bif Nat.beq ti.size 1 then ⟨some (off < len), get off, none⟩ else .bad
        | _ => .bad
      | .cptr cs => bif Nat.ble ti.size cs.length then .ok (unc ti.agg (cs.take ti.size)) else .bad
      | .eptr s i off => match bl s with
        | .arr len _ get => ⟨some (i < len ∧ off + ti.size ≤ (get i).length), unc ti.agg (((get i).drop off).take ti.size), none⟩
        | .arrx _ _ i' v => bif Nat.beq ti.size 1 && (Nat.beq off 0 && !ti.agg) then ⟨some (i = i'), v, none⟩ else .bad
        | _ => .bad
      | _ => .bad
    | none => .bad
  | .store t x v =>
    match look C.types t with
    | some ti =>
      let cs := cellsOf (e v)
      bif Nat.beq cs.length ti.size && cs.all sc1 then
        match e x with
        | .ptr s off => match bl s with
          | .cells l => bif Nat.ble (off + cs.length) l.length then ⟨none, .und, some (s, .cells (fillL l off cs))⟩ else .bad
          | .arrv len get => bif ti.agg then (bif Nat.beq off 0 && (Nat.beq cs.length len && cs.all plain1) then ⟨none, .und, some (s, .arrv len fun j => cs.getD j .junk)⟩ else .bad) else
            bif Nat.beq cs.length 1 && cs.all plain1 then ⟨some (off < len), .und, some (s, .arrv len fun j => bif Nat.beq j off then cs.headD .junk else get j)⟩ else .bad
          | _ => .bad
        | .eptr s i off => match bl s with
          | .arr len sz get => bif cs.all plain1 then ⟨some (i < len ∧ off + cs.length ≤ (get i).length), .und, some (s, .arr len sz fun j => bif Nat.beq j i then fillL (get i) off cs else get j)⟩ else
            bif Nat.beq cs.length 1 && (Nat.beq off 0 && Nat.beq sz 1) then ⟨some (i < len), .und, some (s, .arrx len get i (cs.headD .junk))⟩ else .bad
          | .arrx len get i' v => bif Nat.beq cs.length 1 && (Nat.beq off 0 && plain1 (toView v)) then ⟨some (i < len), .und, some (s, .arrx len (fun k => bif Nat.beq k i' then [toView v] else get k) i (cs.headD .junk))⟩ else .bad
          | _ => .bad
        | _ => .bad
      else .bad
    | none => .bad
  | .nilCheck x =>
    match e x with
    | .ptr s off => .ok (.ptr s off)
    | .cptr cs => .ok (.cptr cs)
    | .eptr s i off => .ok (.eptr s i off)
    | .fn (.func f) a b => .ok (.fn (.func f) a b)
    | _ => .bad
  | .binOp op t x y _ =>
    match e x, e y with
    | .int k a, .int k' b => match shiftR op k a b with
      | some r => r
      | none => bif kindEq k k' then arith op k a b else .bad
    | .agg xs, .agg ys =>
      match look C.types t with
      | some ti => bif ti.eq && Nat.beq xs.length ti.size then
          match eqCells xs ys with
          | some b =>
            match op with
            | .eql => .ok (.bool b)
            | .neq => .ok (.bool (!b))
            | _ => .bad
          | none => .bad
        else .bad
      | none => .bad
    | a, b => boolOp C t op a b
  | .unOp .not _ x =>
    match e x with
    | .tt => .ok .ff
    | .ff => .ok .tt
    | .bool b => .ok (.bool (!b))
    | _ => .bad
  | .unOp .neg _ x =>
    match e x with
    | .int k n => .ok (.int k (k.wrap (0 - n)))
    | _ => .bad
  | .makeFunc f a b => .ok (.fn f (a.toList.map e) (b.toList.map e))
  | .makeSlice t x y =>
    match look C.types t with
    | some { k := .slice el, .. } =>
      match look C.types el, e x, e y, bl d with
      | some te, .int .i64 n, .int .i64 m, .none => bif Nat.ble 1 te.size then
          ⟨some (n = m ∧ 0 ≤ n ∧ n ≤ 1099511627776 ∧ te.bytes * n ≤ 140737488355328), .own d n.toNat, some (d, .arr n.toNat te.size fun _ => te.zero)⟩ else .bad
      | _, _, _, _ => .bad
    | _ => .bad
  | .slice t x lo hi none =>
    match look C.types t with
    | some { k := .slice el, .. } =>
      match look C.types el, e x with
      | some te, .slice _ len get =>
        match lo.map e, hi.map e with
        | none, some (.int _ h) => ⟨some (0 ≤ h ∧ h ≤ len), .slice none h.toNat get, none⟩
        | some (.int _ l), none => ⟨some (0 ≤ l ∧ l ≤ len ∧ ∀ i, i < len → (get i).length = te.size), .slice none (len - l.toNat) (fun i => get (i + l.toNat)), none⟩
        | some (.int _ l), some (.int _ h) => ⟨some (0 ≤ l ∧ l ≤ h ∧ h ≤ len ∧ ∀ i, i < len → (get i).length = te.size), .slice none (h.toNat - l.toNat) (fun i => get (i + l.toNat)), none⟩
        | _, _ => .bad
      | _, _ => .bad
    | _ => .bad
  | .fieldAddr t x i =>
    match look C.types t with
    | some { k := .struct fl, .. } =>
      match fl[i]? with
      | some (o, t') =>
        match look C.types t' with
        | some te => bif Nat.ble 1 te.size then
          match e x with
          | .ptr s off => .ok (.ptr s (off + o))
          | .cptr cs => bif Nat.ble o cs.length then .ok (.cptr (cs.drop o)) else .bad
          | .eptr s j off => .ok (.eptr s j (off + o))
          | _ => .bad
          else .bad
        | none => .bad
      | none => .bad
    | _ => .bad
  | .field t x i =>
    match look C.types t with
    | some { k := .struct fl, .. } =>
      match fl[i]?, e x with
      | some (o, t'), .agg cs =>
        match look C.types t' with
        | some ti => bif Nat.ble (o + ti.size) cs.length then .ok (unc ti.agg ((cs.drop o).take ti.size)) else .bad
        | none => .bad
      | _, _ => .bad
    | _ => .bad
  | .indexAddr t x i =>
    match look C.types t, e i with
    | some { k := .slice el, .. }, .int _ n =>
      match look C.types el, e x with
      | some te, .slice _ len get => ⟨some (0 ≤ n ∧ n < len ∧ (get n.toNat).length = te.size), .cptr (get n.toNat), none⟩
      | some te, .own s len => match bl s with
        | .arr len' sz _ => bif Nat.beq sz te.size then ⟨some (0 ≤ n ∧ n < len ∧ len ≤ len'), .eptr s n.toNat 0, none⟩ else .bad
        | .arrx len' _ _ _ => bif Nat.beq 1 te.size then ⟨some (0 ≤ n ∧ n < len ∧ len ≤ len'), .eptr s n.toNat 0, none⟩ else .bad
        | _ => .bad
      | _, _ => .bad
    | some { k := .array m el, .. }, .int _ n =>
      match look C.types el, e x with
      | some te, .ptr s off => ⟨some (0 ≤ n ∧ n < m), .ptr s (off + n.toNat * te.size), none⟩
      | _, _ => .bad
    | _, _ => .bad
  | .index t x i =>
    match look C.types t, e i, e x with
    | some { k := .array m el, .. }, .int _ n, .agg cs =>
      match look C.types el with
      | some te => ⟨some (0 ≤ n ∧ n < m ∧ n.toNat * te.size + te.size ≤ cs.length), unc te.agg ((cs.drop (n.toNat * te.size)).take te.size), none⟩
      | none => .bad
    | _, _, _ => .bad
  | .convert u t x =>
    match look C.types u, look C.types t, e x with
    | some _, some { k := .scalar (some k), .. }, .int _ n => .ok (.int k (k.wrap n))
    | _, _, _ => .bad
  | .extract x i =>
    match e x with
    | .tup vs => match vs[i]? with | some v => .ok v | none => .bad
    | _ => .bad
  | .call { callee := .builtin .len, args, argTypes } =>
    match args[0]?.map e, argTypes[0]?.bind (look C.types) with
    | some (.slice _ len _), some { k := .slice _, .. } => .ok (.int .i64 len)
    | some .nils, some { k := .slice _, .. } => .ok (.int .i64 0)
    | some (.own _ len), some { k := .slice _, .. } => .ok (.int .i64 len)
    | some (.stk _ _ len), some { k := .slice _, .. } => .ok (.int .i64 len)
    | some (.cslice _ _ len _), some { k := .slice _, .. } => .ok (.int .i64 len)
    | _, _ => .bad
  | .call { callee := .builtin .max, args, .. } =>
    match args.toList.map e with
    | [.int k x, .int k' y] => bif kindEq k k' then .ok (.int k (if y > x then y else x)) else .bad
    | _ => .bad
  | .call { callee := .builtin .min, args, .. } =>
    match args.toList.map e with
    | [.int k x, .int k' y] => bif kindEq k k' then .ok (.int k (if y < x then y else x)) else .bad
    | _ => .bad
  | .call { callee := .builtin .append, args, argTypes } =>
    match args.toList.map e, argTypes.toList with
    | [b, .slice _ n get'], [t, t'] =>
      bif Nat.beq t t' then
      match look C.types t with
      | some { k := .slice el, .. } =>
        match look C.types el with
        | some te => bif Nat.ble 1 te.size then
          match b with
          | .nils => match bl d with
            | .none => ⟨some (n < 2147483648 ∧ n * te.bytes ≤ 140737488355328 ∧ ∀ i, i < n → (get' i).length = te.size ∧ (get' i).all sc1 = true), .slice (some d) n get', some (d, .grow n el te.size)⟩
            | _ => .bad
          | .slice (some s) len get => match bl s with
            | .grow L el' sz' => bif Nat.beq el el' && Nat.beq sz' te.size then ⟨some (L = len ∧ len + n < 2147483648 ∧ (len + n) * te.bytes ≤ 140737488355328 ∧ (∀ i, i < len → (get i).length = te.size) ∧ ∀ i, i < n → (get' i).length = te.size ∧ (get' i).all sc1 = true),
                .slice (some s) (len + n) (fun i => bif Nat.blt i len then get i else get' (i - len)), some (s, .grow (len + n) el te.size)⟩ else .bad
            | _ => .bad
          | _ => .bad
          else .bad
        | none => .bad
      | _ => .bad
      else .bad
    | _, _ => .bad
  | .call { callee := .value f, args, .. } =>
    match e f with
    | .fn (.func f) a b =>
      let as := (a ++ (args.toList.map e ++ b)).map export1
      match look C.specs f with
      | some s => bif as.all plain2 then ⟨(s as).1, (s as).2, none⟩ else .bad
      | none => .bad
    | _ => .bad
  | _ => .bad

def frc1 (v : PV) (k : PV → Prop) : Prop :=
  match v with
  | .junk => k .junk | .und => k .und | .tt => k .tt | .ff => k .ff | .nilp => k .nilp | .nils => k .nils
  | .bool b => k (.bool b) | .int a n => k (.int a n) | .str s => k (.str s)
  | .agg cs => k (.agg cs) | .tup vs => k (.tup vs) | .ptr s o => k (.ptr s o) | .cptr cs => k (.cptr cs) | .eptr s i o => k (.eptr s i o)
  | .slice t len get => k (.slice t len get) | .own s len => k (.own s len) | .fn f a b => k (.fn f a b) | .yld l => k (.yld l)
  | .stk s v l => k (.stk s v l) | .cslice s o l z => k (.cslice s o l z) | .tsl s i l z g => k (.tsl s i l z g)
def frcL {α : Type} (f : α → (α → Prop) → Prop) : List α → (List α → Prop) → Prop
  | [], k => k []
  | v :: vs, k => f v fun v => frcL f vs fun vs => k (v :: vs)
def frc2 (v : PV) (k : PV → Prop) : Prop :=
  match v with
  | .agg cs => frcL frc1 cs fun cs => k (.agg cs)
  | .cptr cs => frcL frc1 cs fun cs => k (.cptr cs)
  | .fn f a b => frcL frc1 a fun a => frcL frc1 b fun b => k (.fn f a b)
  | v => frc1 v k
def frc3 (v : PV) (k : PV → Prop) : Prop :=
  match v with
  | .tup vs => frcL frc2 vs fun vs => k (.tup vs)
  | v => frc2 v k
def frcB (b : Blk) (k : Blk → Prop) : Prop :=
  match b with
  | .none => k .none
  | .jmp j => k (.jmp j)
  | .cells l => frcL frc2 l fun l => k (.cells l)
  | .arr n s g => k (.arr n s g)
  | .grow n e s => k (.grow n e s)
  | .stk v n e s g => k (.stk v n e s g)
  | .arrx n g i v => frc2 v fun v => k (.arrx n g i v)
  | .arrv n g => k (.arrv n g)

def litL (C : Ctx) (e : Operand → PV) (t len : Nat) (ps : Array (Nat × Operand)) : Option (List PV) :=
  match look C.types t with
  | some { k := .slice el, .. } =>
    match look C.types el with
    | some te => fillParts (fun i => some (i * te.size, te.size)) e ps.toList (reps len te.zero)
    | none => none
  | _ => none
def litR (C : Ctx) (bl : Nat → Blk) (d t len : Nat) (l : List PV) : R :=
  match look C.types t with
  | some { k := .slice el, .. } =>
    match look C.types el with
    | some te => bif Nat.ble (len * te.size) 16777216 && Nat.ble 1 te.size then
        (bif Nat.beq len 0 || has C.lits d then (match bl d with
              | .none => bif (l.map toView).all plain1 then (bif Nat.beq len 0 && has C.lits d then ⟨none, .stk d 0 0, some (d, .stk 0 0 el te.size fun _ => [])⟩ else ⟨none, .slice (some d) len (fun i => ((l.map toView).drop (i * te.size)).take te.size), some (d, .grow len el te.size)⟩) else .bad
              | _ => .bad) else bif (l.map toView).all plain1 then .ok (.slice none len fun i => ((l.map toView).drop (i * te.size)).take te.size) else .bad)
        else .bad
    | none => .bad
  | _ => .bad
theorem lit_eq (C : Ctx) (e : Operand → PV) (bl : Nat → Blk) (d ty t len : Nat) (ps : Array (Nat × Operand)) : evalOp C e bl d ty (.buildSlice t len ps) = match litL C e t len ps with | some l => litR C bl d t len l | none => .bad := by
  simp only [evalOp, litL, litR]
  split
  · rename_i el _ _ _ _ h
    cases look C.types el with
    | none => rfl
    | some te =>
      simp only
      cases fillParts (fun i => some (i * te.size, te.size)) e ps.toList (reps len te.zero) with
      | none => cases (Nat.ble (len * te.size) 16777216 && Nat.ble 1 te.size) <;> rfl
      | some l => rfl
  · rfl
def runR (st : St) (o : Oper) (r : R) (k : St → Prop) : Prop :=
  match r with
  | ⟨none, v, none⟩ => frc3 v fun v => k (st.put o.dst v)
  | ⟨some p, v, none⟩ => p ∧ frc3 v fun v => k (st.put o.dst v)
  | ⟨none, v, some (s, b)⟩ => frc3 v fun v => frcB b fun b => k (St.put { slots := st.slots, blocks := upd st.blocks s b } o.dst v)
  | ⟨some p, v, some (s, b)⟩ => p ∧ frc3 v fun v => frcB b fun b => k (St.put { slots := st.slots, blocks := upd st.blocks s b } o.dst v)
def run0 (C : Ctx) (st : St) (o : Oper) (k : St → Prop) : Prop :=
  match o.op with
  | .buildSlice t len ps =>
    match litL C (ev st.slots) t len ps with
    | some l => frcL frc2 l fun l => runR st o (litR C st.blocks (o.dst.getD 0 + C.off) t len l) k
    | none => runR st o .bad k
  | _ => runR st o (evalOp C (ev st.slots) st.blocks (o.dst.getD 0 + C.off) o.type o.op) k

def run1r (st : St) (o : Oper) (r : R) (k : St → Prop) : Prop :=
  match r.pre with
  | none => k ((st.setB r.upd).put o.dst r.val)
  | some p => p ∧ k ((st.setB r.upd).put o.dst r.val)
def run1s (C : Ctx) (st : St) (o : Oper) (k : St → Prop) : Prop := run1r st o (evalOp C (ev st.slots) st.blocks (o.dst.getD 0 + C.off) o.type o.op) k

theorem frc1_eq (v : PV) (k : PV → Prop) : frc1 v k = k v := by cases v <;> rfl
theorem frcL_eq {α : Type} {f : α → (α → Prop) → Prop} (hf : ∀ v k, f v k = k v) : ∀ (l : List α) (k : List α → Prop), frcL f l k = k l
  | [], k => rfl
  | v :: vs, k => by simp only [frcL, hf, frcL_eq hf vs]
theorem frc2_eq (v : PV) (k : PV → Prop) : frc2 v k = k v := by
  cases v <;> simp only [frc2, frc1_eq, frcL_eq frc1_eq]
theorem frc3_eq (v : PV) (k : PV → Prop) : frc3 v k = k v := by
  cases v <;> simp only [frc3, frc2_eq, frcL_eq frc2_eq]
theorem frcB_eq (b : Blk) (k : Blk → Prop) : frcB b k = k b := by
  cases b <;> simp only [frcB, frcL_eq frc2_eq, frc2_eq]
theorem runR_eq (st : St) (o : Oper) (r : R) (k : St → Prop) : runR st o r k = run1r st o r k := by
  unfold runR run1r
  obtain ⟨p, v, u⟩ := r
  cases p <;> cases u <;> simp only [frc3_eq, frcB_eq, St.setB]
theorem run0_eq (C : Ctx) (st : St) (o : Oper) (k : St → Prop) : run0 C st o k = run1s C st o k := by
  unfold run0 run1s
  split
  · rename_i t len ps ho
    rw [ho, lit_eq]
    cases litL C (ev st.slots) t len ps with
    | none => exact runR_eq _ _ _ _
    | some l => simp only [frcL_eq frc2_eq]; exact runR_eq _ _ _ _
  · exact runR_eq _ _ _ _
/- Queues: a slice that grows, cut off at its front. -/
def tslOf (lit : Bool) (n : Nat) : PV → Option (Nat × Nat × Nat × Nat × (Nat → List PV))
  | .tsl s k len sz get => some (s, k, len, sz, get)
  | .slice (some s) len get => bif lit then some (s, 0, len, n, get) else none
  | _ => none
def evalQ (C : Ctx) (st : St) (o : Oper) : Option R :=
  match o.op with
  | .indexAddr t x i =>
    match ev st.slots x with
    | .tsl _ _ len _ get =>
      some (match look C.types t, ev st.slots i with
        | some { k := .slice el, .. }, .int _ n =>
          match look C.types el with
          | some te => ⟨some (0 ≤ n ∧ n < len ∧ (get n.toNat).length = te.size), .cptr (get n.toNat), none⟩
          | none => .bad
        | _, _ => .bad)
    | _ => none
  | .slice t x (some l) none none =>
    match look C.types t with
    | some { k := .slice el, .. } =>
      match look C.types el with
      | some te =>
        match tslOf (has C.lits (o.dst.getD 0 + C.off)) te.size (ev st.slots x) with
        | some (s, k, len, sz, get) =>
          some (match ev st.slots l with
            | .int _ n => bif Nat.beq sz te.size then ⟨some (0 ≤ n ∧ n ≤ len ∧ 0 < len ∧ ∀ i, i < len → (get i).length = te.size), .tsl s (k + n.toNat) (len - n.toNat) sz (fun i => get (i + n.toNat)), none⟩ else .bad
            | _ => .bad)
        | none => none
      | none => none
    | _ => none
  | .call { callee := .builtin .append, args, argTypes } =>
    match args.toList.map (ev st.slots), argTypes.toList with
    | [.tsl s k len sz get, .slice _ n get'], [t, t'] =>
      some (bif Nat.beq t t' then
        match look C.types t with
        | some { k := .slice el, .. } =>
          match look C.types el with
          | some te => bif Nat.ble 1 te.size then
            match st.blocks s with
            | .grow L el' sz' => bif Nat.beq el el' && (Nat.beq sz' te.size && Nat.beq sz te.size) then
                ⟨some (k + len = L ∧ 0 < n ∧ len + n < 2147483648 ∧ (len + n) * te.bytes ≤ 140737488355328 ∧ (∀ i, i < len → (get i).length = te.size) ∧ ∀ i, i < n → (get' i).length = te.size ∧ (get' i).all sc1 = true),
                  .tsl s k (len + n) sz (fun i => bif Nat.blt i len then get i else get' (i - len)), some (s, .grow (L + n) el te.size)⟩ else .bad
            | _ => .bad
            else .bad
          | none => .bad
        | _ => .bad
        else .bad)
    | _, _ => none
  | _ => none
def evalX0 (C : Ctx) (st : St) (o : Oper) : Option R :=
  match o.op with
  | .call { callee := .value f, args, .. } =>
    match ev st.slots f with
    | .fn (.func f) a b =>
      match look C.fresh f with
      | some (el, sz, s) =>
        some (bif ((a ++ (args.toList.map (ev st.slots) ++ b)).map (frz st.blocks)).all plain2 && Nat.ble 1 sz then
          match (s ((a ++ (args.toList.map (ev st.slots) ++ b)).map (frz st.blocks))).2, st.blocks (o.dst.getD 0 + C.off) with
          | .slice none len get, .none => ⟨some ((andP (frzPL st.blocks (a ++ (args.toList.map (ev st.slots) ++ b))) (s ((a ++ (args.toList.map (ev st.slots) ++ b)).map (frz st.blocks))).1).getD True ∧ ∀ i, i < len → (get i).length = sz ∧ (get i).all noref1 = true),
              bif has C.lits (o.dst.getD 0 + C.off) then .stk (o.dst.getD 0 + C.off) 0 len else .slice (some (o.dst.getD 0 + C.off)) len get,
              some (o.dst.getD 0 + C.off, bif has C.lits (o.dst.getD 0 + C.off) then .stk 0 len el sz get else .grow len el sz)⟩
          | _, _ => .bad
        else .bad)
      | none =>
        match look C.specs f with
        | some s =>
          bif ((a ++ (args.toList.map (ev st.slots) ++ b)).map export1).all plain2 then none else
          some (bif ((a ++ (args.toList.map (ev st.slots) ++ b)).map (frz st.blocks)).all plain2 && noref (s ((a ++ (args.toList.map (ev st.slots) ++ b)).map (frz st.blocks))).2 then
            ⟨andP (frzPL st.blocks (a ++ (args.toList.map (ev st.slots) ++ b))) (s ((a ++ (args.toList.map (ev st.slots) ++ b)).map (frz st.blocks))).1, (s ((a ++ (args.toList.map (ev st.slots) ++ b)).map (frz st.blocks))).2, none⟩ else .bad)
        | none => none
    | _ => none
  | .call { callee := .builtin .append, args, argTypes } =>
    match args.toList.map (ev st.slots), argTypes.toList with
    | [.stk s ver len, .slice _ n get'], [t, t'] =>
      some (bif Nat.beq t t' then
        match look C.types t with
        | some { k := .slice el, .. } =>
          match look C.types el with
          | some te => bif Nat.ble 1 te.size then
            match st.blocks s with
            | .stk ver' len' el' sz' get => bif Nat.beq el el' && Nat.beq sz' te.size then
                ⟨some (ver = ver' ∧ len = len' ∧ len' + n < 2147483648 ∧ (len' + n) * te.bytes ≤ 140737488355328 ∧ ∀ i, i < n → (get' i).length = te.size ∧ (get' i).all sc1 = true),
                  .stk s (ver' + 1) (len' + n), some (s, .stk (ver' + 1) (len' + n) el' sz' fun i => bif Nat.blt i len' then get i else get' (i - len'))⟩ else .bad
            | _ => .bad
            else .bad
          | none => .bad
        | _ => .bad
        else .bad)
    | _, _ => none
  | .slice t x none (some h) none =>
    match ev st.slots x with
    | .stk s ver len =>
      some (match look C.types t with
        | some { k := .slice el, .. } =>
          match look C.types el, ev st.slots h, st.blocks s with
          | some _, .int _ n, .stk ver' len' el' sz get => ⟨some (ver = ver' ∧ len = len' ∧ 0 ≤ n ∧ n ≤ len'), .stk s (ver' + 1) n.toNat, some (s, .stk (ver' + 1) n.toNat el' sz get)⟩
          | _, _, _ => .bad
        | _ => .bad)
    | .ptr s off =>
      some (match look C.types t with
        | some { k := .array m el, .. } =>
          match look C.types el, ev st.slots h with
          | some te, .int _ n => ⟨some (0 ≤ n ∧ n ≤ m), .cslice s off n.toNat te.size, none⟩
          | _, _ => .bad
        | _ => .bad)
    | _ => none
  | _ => none
def evalX (C : Ctx) (st : St) (o : Oper) : Option R :=
  match evalQ C st o with
  | some r => some r
  | none => evalX0 C st o
def nilC (C : Ctx) (st : St) (o : Oper) : Option Nat :=
  match o.op with
  | .binOp .eql t x y _ =>
    bif nilConst y then
      match look C.types t, ev st.slots x with
      | some { k := .slice _, .. }, .slice _ len _ => some len
      | _, _ => none
    else none
  | _ => none

def ok1 (q : Nat → Bool) : PV → Bool
  | .ptr s _ => q s
  | .eptr s _ _ => q s
  | .own s _ => q s
  | .slice (some s) _ _ => q s
  | .stk s _ _ => q s
  | .cslice s _ _ _ => q s
  | .tsl s _ _ _ _ => q s
  | .agg _ | .tup _ | .fn _ _ _ => false
  | _ => true
def ok1a (q : Nat → Bool) : PV → Bool
  | .agg cs => cs.all (ok1 q)
  | p => ok1 q p
def prune (q : Nat → Bool) : PV → PV
  | .agg cs => bif cs.all (ok1 q) then .agg cs else .junk
  | .fn f a b => bif a.all (ok1a q) && b.all (ok1a q) then .fn f a b else .junk
  | .tup [] => .tup []
  | .tup _ => .junk
  | .slice (some s) len get => bif q s then .slice (some s) len get else .slice none len get
  | .tsl s k len sz get => bif q s then .tsl s k len sz get else .slice none len get
  | p => bif ok1 q p then p else .junk
def effOf (C : Ctx) (st : St) (o : Oper) : Option ((Nat × Eff) × List PV) :=
  match o.op with
  | .call { callee := .value f, args, .. } =>
    match ev st.slots f with
    | .fn (.func f) a b => match look C.effs f with
      | some e => some (e, a ++ (args.toList.map (ev st.slots) ++ b))
      | none => none
    | _ => none
  | _ => none
def yldOf (C : Ctx) (st : St) (o : Oper) : Option (Nat × Yd × List PV) :=
  match C.yld with
  | some y =>
    match o.op with
    | .call { callee := .value f, args, .. } =>
      match ev st.slots f with
      | .yld l => some (l, y, args.toList.map (ev st.slots))
      | _ => none
    | _ => none
  | none => none
def run1 (C : Ctx) (st : St) (o : Oper) (k : St → Prop) : Prop :=
  match yldOf C st o with
  | some (l, y, as) => (match st.blocks y.s with | .jmp .ready => True | _ => False) ∧ l = y.l ∧ Nat.ble C.off y.o2 = true ∧ frcL frc2 as fun as => y.Y as st.blocks fun v bl => frc3 v fun v => k (St.put { slots := fun n => prune (fun s => Nat.blt s y.o2) (st.slots n), blocks := bl } o.dst v)
  | none =>
  match effOf C st o with
  | some ((off, e), as) => Nat.ble C.off off = true ∧ frcL frc2 as fun as => e as st.blocks fun v bl => frc3 v fun v => k (St.put { slots := fun n => prune (fun s => Nat.blt s off) (st.slots n), blocks := bl } o.dst v)
  | none =>
  match evalX C st o with
  | some r => runR st o r k
  | none =>
  match nilC C st o with
  | some len => ∀ b : Bool, (0 < len → b = false) → k (st.put o.dst (.bool b))
  | none => run0 C st o k

def stepO (C : Ctx) (ops : List Oper) (o : Oper) (st : St) (k : St → Prop) : Prop :=
  match o.guard with
  | none => run1 C st o k
  | some (j, want) =>
    match (ops[j]?).bind Oper.dst with
    | none => False
    | some g =>
      match st.slots g with
      | .tt => bif want then run1 C st o k else k (st.put o.dst .und)
      | .ff => bif want then k (st.put o.dst .und) else run1 C st o k
      | .und => k (st.put o.dst .und)
      | .bool b =>
        (b = want → run1 C (st.set g (bif want then .tt else .ff)) o k) ∧
        (b = !want → k ((st.set g (bif want then .ff else .tt)).put o.dst .und))
      | _ => False
def evalOps (C : Ctx) (ops : List Oper) : List Oper → St → (St → Prop) → Prop
  | [], st, k => k st
  | o :: rest, st, k => stepO C ops o st fun st => evalOps C ops rest st k

def touch (e : Operand → PV) (d : Nat) : Op → Option Nat
  | .alloc _ | .box _ _ | .makeSlice _ _ _ => some d
  | .assign x => bif nilConst x then some d else none
  | .load _ x | .store _ x _ | .indexAddr _ x _ =>
    match e x with
    | .ptr s _ => some s
    | .eptr s _ _ => some s
    | .own s _ => some s
    | _ => none
  | .call { callee := .builtin .append, args, .. } =>
    match args[0]?.map e with
    | some (.slice (some s) _ _) => some s
    | _ => some d
  | .buildSlice _ _ _ => some d
  | _ => none
def touches : Op → Bool
  | .alloc _ | .box _ _ | .makeSlice _ _ _ | .store _ _ _ => true
  | .buildSlice _ _ _ => true
  | .assign x => nilConst x
  | .call { callee := .builtin .append, .. } => true
  | _ => false

abbrev Trace := List (Nat × Option Nat × Bool)

def apart (a b : Option Nat × Bool) : Bool :=
  (!a.2 && !b.2) || match a.1, b.1 with
    | some s, some t => !Nat.beq s t
    | _, _ => true

def deps (o : Oper) : List Nat := (o.after.toList.filter (Region.binds .any)).map (·.on)
def ancs : List Oper → List Nat → List Nat
  | [], acc => acc
  | o :: r, acc => ancs r (acc ++ [(deps o).foldl (fun m k => m ||| (1 <<< k ||| acc.getD k 0)) 0])
def hasA (an : List Nat) (i k : Nat) : Bool := Nat.testBit (an.getD i 0) k

def calm (an : List Nat) : Trace → Bool
  | [] => true
  | (i, t) :: r => r.all (fun (k, u) => apart t u || hasA an k i) && calm an r

def stepD (C : Ctx) (ops : List Oper) (i : Nat) (o : Oper) (st : St) (tr : Trace) (k : St → Trace → Prop) : Prop :=
  let go := fun st : St =>
    match touch (ev st.slots) (o.dst.getD 0 + C.off) o.op with
    | none => run0 C st o fun st' => k st' tr
    | some s => run0 C st o fun st' => k st' (tr ++ [(i, some s, touches o.op)])
  match o.guard with
  | none => go st
  | some (j, want) =>
    match (ops[j]?).bind Oper.dst with
    | none => False
    | some g =>
      match st.slots g with
      | .tt => bif want then go st else k (st.put o.dst .und) tr
      | .ff => bif want then k (st.put o.dst .und) tr else go st
      | .und => k (st.put o.dst .und) tr
      | .bool b => (b = want → go (st.set g (.bool want))) ∧ (b = !want → k ((st.set g (.bool (!want))).put o.dst .und) tr)
      | _ => False
def evalD (C : Ctx) (ops : List Oper) (an : List Nat) : List (Nat × Oper) → St → Trace → (St → Prop) → Prop
  | [], st, tr, k => calm an tr = true ∧ k st
  | x :: rest, st, tr, k => stepD C ops x.1 x.2 st tr fun st tr => evalD C ops an rest st tr k

def isCall : Op → Bool
  | .call { callee := .value _, .. } => true
  | _ => false
def cutOk (an : List Nat) (pre : List (Nat × Oper)) (c : Nat) (post : List (Nat × Oper)) : Bool :=
  pre.all (fun x => hasA an c x.1) && post.all fun y => hasA an y.1 c && pre.all fun x => hasA an y.1 x.1
def findCut (an : List Nat) : List (Nat × Oper) → List (Nat × Oper) → Option (List (Nat × Oper) × (Nat × Oper) × List (Nat × Oper))
  | _, [] => none
  | pre, x :: post => bif isCall x.2.op && cutOk an pre x.1 post then some (pre, x, post) else findCut an (pre ++ [x]) post
def evalDs (C : Ctx) (ops : List Oper) (an : List Nat) : Nat → List (Nat × Oper) → St → (St → Prop) → Prop
  | 0, l, st, k => evalD C ops an l st [] k
  | n + 1, l, st, k =>
    match findCut an [] l with
    | none => evalD C ops an l st [] k
    | some (p, x, q) => evalD C ops an p st [] fun st => evalOps C ops [x.2] st fun st => evalDs C ops an n q st k

def tmpOf : Operand → Option Nat
  | .tmp t => some t
  | _ => none
def reads (ops : List Oper) (o : Oper) : List Nat :=
  o.op.operands.toList.filterMap tmpOf ++ match o.guard with
    | some (j, _) => ((ops[j]?).bind Oper.dst).toList
    | none => []
def slotApart (ops : List Oper) (a b : Oper) : Bool :=
  (match a.dst with | some d => !(reads ops b).contains d | none => true) &&
  (match b.dst with | some d => !(reads ops a).contains d | none => true) &&
  match a.dst, b.dst with
  | some d, some d' => !Nat.beq d d'
  | _, _ => true
def fitOps (ops : List Oper) : Bool :=
  let an := ancs ops []
  ops.zipIdx.all fun (o, i) => (deps o).all (fun k => Nat.blt k i) && (ops.take i).zipIdx.all fun (o', k) => hasA an i k || slotApart ops o' o

abbrev Lits := List (Nat × Bool × Bool)
def litsP : Lits → Prop
  | [] => True
  | (_, w, b) :: r => b = w ∧ litsP r
def underL : Lits → Prop → Prop
  | [], p => p
  | (_, w, b) :: r, p => underL r (b = w → p)
abbrev ShM := List (Nat × Lits × PV)
def beqB : Bool → Bool → Bool
  | true, b => b
  | false, b => !b
def subL (l1 l2 : Lits) : Bool := l1.all fun x => l2.any fun y => Nat.beq x.1 y.1 && beqB x.2.1 y.2.1
def seen (st : St) (sh : ShM) (ls : Lits) (n : Nat) : PV :=
  match look sh n with
  | some (l2, v) => bif subL l2 ls then v else .junk
  | none => st.slots n
def visX (sh : ShM) (ls : Lits) (x : Operand) : Bool :=
  match tmpOf x with
  | some t => match look sh t with
    | some (l2, _) => subL l2 ls
    | none => true
  | none => true
def freshM (sh : ShM) (ls : Lits) (d : Nat) : Bool := !(sh.any fun x => Nat.beq x.1 d || x.2.1.any fun y => Nat.beq y.1 d) && !(ls.any fun y => Nat.beq y.1 d)
def opM (C : Ctx) (st : St) (sh : ShM) (ls : Lits) (d ty : Nat) (op : Op) : R :=
  match op with
  | .pick c a b =>
    bif visX sh ls c then
      match ev (seen st sh ls) c with
      | .bool bc =>
        match tmpOf c with
        | some g =>
          bif visX sh ((g, true, bc) :: ls) a && visX sh ((g, false, bc) :: ls) b then
            match boolOf (ev (seen st sh ((g, true, bc) :: ls)) a), boolOf (ev (seen st sh ((g, false, bc) :: ls)) b) with
            | some x, some y => .ok (.bool (cond bc x y))
            | _, _ => .bad
          else .bad
        | none => .bad
      | .tt => bif visX sh ls a then .ok (ev (seen st sh ls) a) else .bad
      | .ff => bif visX sh ls b then .ok (ev (seen st sh ls) b) else .bad
      | _ => .bad
    else .bad
  | op => bif op.operands.toList.all (visX sh ls) then evalOp C (ev (seen st sh ls)) st.blocks d ty op else .bad

def stepM (C : Ctx) (ops : List Oper) (i : Nat) (o : Oper) (st : St) (sh : ShM) (tr : Trace) (k : St → ShM → Trace → Prop) : Prop :=
  let skip := (!o.dst.any fun d => !freshM sh [] d) = true ∧ k (st.put o.dst .und) sh tr
  let go := fun ls : Lits =>
    let tr' := match touch (ev (seen st sh ls)) (o.dst.getD 0 + C.off) o.op with
      | none => tr
      | some s => tr ++ [(i, some s, touches o.op)]
    (!o.dst.any fun d => !freshM sh ls d) = true ∧
    match ls, opM C st sh ls (o.dst.getD 0 + C.off) o.type o.op with
    | [], ⟨none, v, none⟩ => frc3 v fun v => k (st.put o.dst v) sh tr'
    | [], ⟨some p, v, none⟩ => p ∧ frc3 v fun v => k (st.put o.dst v) sh tr'
    | [], ⟨none, v, some (s, b)⟩ => frc3 v fun v => frcB b fun b => k (St.put { slots := st.slots, blocks := upd st.blocks s b } o.dst v) sh tr'
    | [], ⟨some p, v, some (s, b)⟩ => p ∧ frc3 v fun v => frcB b fun b => k (St.put { slots := st.slots, blocks := upd st.blocks s b } o.dst v) sh tr'
    | l :: ls, ⟨p, v, none⟩ =>
      match o.dst with
      | some d => (match p with | none => True | some p => underL (l :: ls) p) ∧ frc3 v fun v => k (st.put (some d) .junk) ((d, l :: ls, v) :: sh) tr'
      | none => False
    | _ :: _, ⟨_, _, some _⟩ => False
  match o.guard with
  | none => go []
  | some (j, want) =>
    match (ops[j]?).bind Oper.dst with
    | none => False
    | some g =>
      match look sh g with
      | some (l2, .bool b) => go ((g, want, b) :: l2)
      | some _ => False
      | none =>
        match st.slots g with
        | .tt => bif want then go [] else skip
        | .ff => bif want then skip else go []
        | .und => skip
        | .bool b => go [(g, want, b)]
        | _ => False
def evalM (C : Ctx) (ops : List Oper) (an : List Nat) : List (Nat × Oper) → St → ShM → Trace → (St → Prop) → Prop
  | [], st, _, tr, k => calm an tr = true ∧ k st
  | x :: rest, st, sh, tr, k => stepM C ops x.1 x.2 st sh tr fun st sh tr => evalM C ops an rest st sh tr k
def guarded (ops : List Oper) : Bool := ops.any fun o => o.guard.isSome

inductive Out where
  | normal (st : St)
  | exit (n : Nat) (st : St)
  | ret (st : St)

def mkSt (sl : List (Nat × PV)) (bl : List (Nat × Blk)) : St :=
  { slots := fun n => (look sl n).getD .junk, blocks := fun s => (look bl s).getD .none }

def pruneB (q : Nat → Bool) : Blk → Blk
  | .cells l => .cells (l.map (prune q))
  | .arr len sz get => .arr len sz get
  | .arrx len get i v => .arrx len get i (prune q v)
  | b => b
def keepQ (off : Nat) (keep : List Nat) (s : Nat) : Bool := Nat.blt s off || has keep s

def clean (off : Nat) (live keep : List Nat) (st : St) : St :=
  { slots := fun n => (look (live.map fun n => (n, prune (keepQ off keep) (st.slots n))) n).getD .junk
    blocks := fun s => (look (keep.map fun s => (s, pruneB (keepQ off keep) (st.blocks s))) s).getD (bif Nat.blt s off then pruneB (keepQ off keep) (st.blocks s) else .none) }

def rebase (C : Ctx) (st : St) (k : St → Prop) : Prop :=
  bif Nat.beq C.off 0 then
    frcL frc3 (C.live.map fun n => prune (keepQ 0 C.names) (st.slots n)) fun vs => frcL frcB (C.names.map fun s => pruneB (keepQ 0 C.names) (st.blocks s)) fun bs => k (mkSt (C.live.zip vs) (C.names.zip bs))
  else k st

inductive PLe : PV → PV → Prop
  | refl (p : PV) : PLe p p
  | junk (p : PV) : PLe p .junk
  | slice (t : Option Nat) (len : Nat) (get get' : Nat → List PV) (h : ∀ i, i < len → get i = get' i) : PLe (.slice t len get) (.slice t len get')
  | sliceD (t : Option Nat) (len : Nat) (get get' : Nat → List PV) (hl : ∀ i, i < len → (get i).length = (get' i).length) (h : ∀ i, i < len → ∀ j, j < (get i).length → PLe ((get i).getD j .junk) ((get' i).getD j .junk)) : PLe (.slice t len get) (.slice t len get')
  | tsl (s k len sz : Nat) (get get' : Nat → List PV) (hl : ∀ i, i < len → (get i).length = (get' i).length) (h : ∀ i, i < len → ∀ j, j < (get i).length → PLe ((get i).getD j .junk) ((get' i).getD j .junk)) : PLe (.tsl s k len sz get) (.tsl s k len sz get')
  | tsl0 (s len sz : Nat) (get get' : Nat → List PV) (h0 : 0 < len) (hl : ∀ i, i < len → (get i).length = (get' i).length) (h : ∀ i, i < len → ∀ j, j < (get i).length → PLe ((get i).getD j .junk) ((get' i).getD j .junk)) : PLe (.slice (some s) len get) (.tsl s 0 len sz get')
  | bool (b c : Bool) (h : b = c) : PLe (.bool b) (.bool c)
  | tt (b : Bool) (h : b = true) : PLe .tt (.bool b)
  | ff (b : Bool) (h : b = false) : PLe .ff (.bool b)
  | int (k : IntKind) (m n : Int) (h : m = n) : PLe (.int k m) (.int k n)
  | agg (xs ys : List PV) (hl : xs.length = ys.length) (h : ∀ i, i < xs.length → PLe (xs.getD i .junk) (ys.getD i .junk)) : PLe (.agg xs) (.agg ys)
  | tup (xs ys : List PV) (hl : xs.length = ys.length) (h : ∀ i, i < xs.length → PLe (xs.getD i .junk) (ys.getD i .junk)) : PLe (.tup xs) (.tup ys)

inductive BLe : Blk → Blk → Prop
  | refl (b : Blk) : BLe b b
  | cells (xs ys : List PV) (hl : xs.length = ys.length) (h : ∀ i, i < xs.length → PLe (xs.getD i .junk) (ys.getD i .junk)) : BLe (.cells xs) (.cells ys)
  | arr (len sz : Nat) (get get' : Nat → List PV) (h : ∀ i, i < len → get i = get' i) : BLe (.arr len sz get) (.arr len sz get')
  | stk (ver len el sz : Nat) (get get' : Nat → List PV) (h : ∀ i, i < len → get i = get' i) : BLe (.stk ver len el sz get) (.stk ver len el sz get')
  | arrv (len : Nat) (get get' : Nat → PV) (h : ∀ i, i < len → PLe (get i) (get' i)) : BLe (.arrv len get) (.arrv len get')
  | arrx (len : Nat) (get get' : Nat → List PV) (i : Nat) (v v' : PV) (hg : ∀ k, k < len → k ≠ i → get k = get' k) (h : PLe v v') : BLe (.arrx len get i v) (.arrx len get' i v')
  | arrxa (len : Nat) (get get' : Nat → List PV) (i : Nat) (v : PV) (hv : plain1 v = true) (h : ∀ k, k < len → (bif Nat.beq k i then [v] else get k) = get' k) : BLe (.arrx len get i v) (.arr len 1 get')

def SLe (st st' : St) : Prop := (∀ n, PLe (st.slots n) (st'.slots n)) ∧ ∀ s, BLe (st.blocks s) (st'.blocks s)

inductive Halt (p : Prop) : Prop
  | mk (h : p)
  | no (h : False)
theorem Halt.get {p : Prop} : Halt p → p
  | .mk h => h
  | .no h => h.elim

def cutB (off : Nat) (bl : Nat → Blk) : Nat → Blk := fun s => bif Nat.blt s off then pruneB (fun s => Nat.blt s off) (bl s) else .none
def setPs (sl : Nat → PV) : List Nat → List PV → Nat → PV
  | p :: ps, v :: vs => setPs (upd sl p v) ps vs
  | _, _ => sl

def ghost (st : St) : List (Nat × Nat × Nat × Nat × Nat) → Option St
  | [] => some st
  | (s, i, g, el, sz) :: r =>
    match st.blocks s, st.blocks g with
    | .cells l, .none =>
      match l[i]? with
      | some .nils => bif Nat.blt 0 sz then ghost { slots := st.slots, blocks := upd (upd st.blocks g (.grow 0 el sz)) s (.cells (l.set i (.slice (some g) 0 fun _ => []))) } r else none
      | _ => none
    | _, _ => none

def intOf1 : PV → Option (IntKind × Int)
  | .int k n => some (k, n)
  | _ => none
def intsOf (k : IntKind) : List PV → Option (List Int)
  | [] => some []
  | p :: ps => match p with
    | .int k' n => bif kindEq k k' then (match intsOf k ps with | some ns => some (n :: ns) | none => none) else none
    | _ => none
def boolsOf : List PV → Option (List Bool)
  | [] => some []
  | p :: ps => match boolOf p with
    | some b => (match boolsOf ps with | some bs => some (b :: bs) | none => none)
    | none => none
def viewOf : List PV → Option (Nat → PV)
  | [] => none
  | p :: ps => match p with
    | .int k n => match intsOf k ps with
      | some ns => some fun i => .int k ((n :: ns).getD i 0)
      | none => none
    | _ => match boolsOf (p :: ps) with
      | some bs => some fun i => .bool (bs.getD i false)
      | none => none

def ghostX (off : Nat) (st : St) : List Gh → (St → Prop) → Prop
  | [], k => k st
  | .cell stk s i g el sz :: r, k =>
    match st.blocks s, st.blocks g with
    | .cells l, .none =>
      match l[i]? with
      | some .nils => Nat.blt 0 sz = true ∧ ghostX off { slots := st.slots, blocks := upd (upd st.blocks g (bif stk then .stk 0 0 el sz fun _ => [] else .grow 0 el sz)) s (.cells (l.set i (bif stk then .stk g 0 0 else .slice (some g) 0 fun _ => []))) } r k
      | _ => False
    | _, _ => False
  | .row s slot g el sz :: r, k =>
    match st.blocks g, st.slots slot with
    | .none, .int _ a =>
      match st.blocks s with
      | .arr n sz' get => (Nat.beq sz' 1 && Nat.blt 0 sz) = true ∧ (0 ≤ a ∧ a < n ∧ get a.toNat = [.nils]) ∧ ghostX off { slots := st.slots, blocks := upd (upd st.blocks g (.grow 0 el sz)) s (.arrx n get a.toNat (.slice (some g) 0 fun _ => [])) } r k
      | _ => False
    | _, _ => False
  | .arrv s :: r, k =>
    match st.blocks s with
    | .cells l => match viewOf l with
      | some g => ghostX off { slots := st.slots, blocks := upd st.blocks s (.arrv l.length g) } r k
      | none => False
    | _ => False
  | .slot d g el sz :: r, k =>
    match st.slots d, st.blocks g with
    | .nils, .none => Nat.blt 0 sz = true ∧ ghostX off { slots := upd st.slots d (.stk g 0 0), blocks := upd st.blocks g (.stk 0 0 el sz fun _ => []) } r k
    | _, _ => False
  | .own d live keep :: r, k =>
    match st.slots d with
    | .stk s ver len =>
      match st.blocks s with
      | .stk ver' len' _ sz get => (!keepQ off keep s) = true ∧ (ver = ver' ∧ len = len' ∧ 0 < len) ∧ ghostX off { slots := upd (clean off live keep st).slots d (.own s len), blocks := upd (clean off live keep st).blocks s (.arr len sz get) } r k
      | _ => False
    | _ => False
  | .frz d live keep :: r, k =>
    match st.slots d with
    | .stk s ver len =>
      match st.blocks s with
      | .stk ver' len' _ _ get => (!keepQ off keep s) = true ∧ (ver = ver' ∧ len = len') ∧ ghostX off { slots := upd (clean off live keep st).slots d (.slice none len get), blocks := (clean off live keep st).blocks } r k
      | _ => False
    | .own s len =>
      match st.blocks s with
      | .arr len' _ get => (!keepQ off keep s) = true ∧ len ≤ len' ∧ ghostX off { slots := upd (clean off live keep st).slots d (.slice none len get), blocks := (clean off live keep st).blocks } r k
      | _ => False
    | _ => False

def evalReg (C : Ctx) (ops : Array Oper) (draw : Bool) (st : St) (k : Out → Prop) : Prop :=
    bif C.merge then
      bif guarded ops.toList then evalM C ops.toList (ancs ops.toList []) (ops.toList.zipIdx.map fun (o, i) => (i, o)) st [] [] fun st => rebase C st fun st => k (.normal st)
      else bif draw then evalDs C ops.toList (ancs ops.toList []) ops.toList.length (ops.toList.zipIdx.map fun (o, i) => (i, o)) st fun st => rebase C st fun st => k (.normal st)
      else evalOps C ops.toList ops.toList st fun st => rebase C st fun st => k (.normal st)
    else bif draw then evalDs C ops.toList (ancs ops.toList []) ops.toList.length (ops.toList.zipIdx.map fun (o, i) => (i, o)) st fun st => k (.normal st)
    else evalOps C ops.toList ops.toList st fun st => k (.normal st)

def evalCode : Ctx → Code → St → (Out → Prop) → Prop
  | _, .skip, st, k => k (.normal st)
  | C, .region id ops draw, st, k =>
    match look C.ghosts id with
    | none => evalReg C ops draw st k
    | some gs => ghostX C.off st gs fun st => evalReg C ops draw st k
  | C, .seq a b, st, k => evalCode C a st fun o => match o with | .normal st => evalCode C b st k | o => k o
  | C, .cond c a b, st, k =>
    match ev st.slots c with
    | .tt => evalCode C a st k
    | .ff => evalCode C b st k
    | .bool c => (c = true → evalCode C a st k) ∧ (c = false → evalCode C b st k)
    | _ => False
  | C, .block id a, st, k => evalCode C a st fun o => match o with | .exit n st => bif Nat.beq n id then k (.normal st) else k (.exit n st) | o => k o
  | C, .loop a, st, k => Halt (∃ (live keep : List Nat) (Inv : St → Prop) (μ : St → Nat), (∃ st1, SLe (clean C.off live keep st) st1 ∧ Inv st1) ∧
      ∀ st, Inv st → evalCode C a st fun o => match o with | .normal st' => Halt (∃ st1, SLe (clean C.off live keep st') st1 ∧ Inv st1 ∧ μ st1 < μ st) | o => k o)
  | _, .exit n, st, k => k (.exit n st)
  | _, .ret, st, k => k (.ret st)
  | C, .scope a, st, k => evalCode C a st k
  | _, .label _, st, k => k (.normal st)
  | C, .rangeFunc g ps assign body, st, k =>
    match C.rnd with
    | true => False
    | false => Halt (∃ gs, match ghost st gs with
    | none => False
    | some st =>
    match ev st.slots g with
    | .fn (.func f) a b =>
      match look C.iters f with
      | some (s0, o1, o2, I) =>
        match st.blocks s0 with
        | .none => (Nat.ble C.off s0 && Nat.blt s0 o1 && Nat.ble o1 o2) = true ∧ ∀ l : Nat,
          I (a ++ (.yld l :: b)) (upd st.blocks s0 (.jmp .ready)) ⟨s0, l, o2, fun args bl k' => Nat.beq args.length ps.size = true ∧
              evalCode { C with off := o2, rnd := true } assign { slots := setPs (fun n => prune (fun s => Nat.blt s o1) (st.slots n)) ps.toList args, blocks := bl } fun o => match o with
                | .normal st1 => (match st1.blocks s0 with | .jmp .ready => True | _ => False) ∧ evalCode { C with off := o2, rnd := true } body { slots := st1.slots, blocks := upd st1.blocks s0 (.jmp .busy) } fun o => match o with
                  | .normal st2 => k' .tt (cutB o2 (upd st2.blocks s0 (.jmp .ready)))
                  | .ret st2 => k' .ff (cutB o2 (upd st2.blocks s0 (.jmp (.done none))))
                  | .exit n st2 => k' .ff (cutB o2 (upd st2.blocks s0 (.jmp (.done (some n)))))
                | _ => False⟩
            fun _ bl' => match bl' s0 with
              | .jmp .ready => k (.normal { slots := fun n => prune (fun s => Nat.blt s o1) (st.slots n), blocks := upd bl' s0 .none })
              | .jmp (.done none) => k (.ret { slots := fun n => prune (fun s => Nat.blt s o1) (st.slots n), blocks := upd bl' s0 .none })
              | .jmp (.done (some n)) => k (.exit n { slots := fun n => prune (fun s => Nat.blt s o1) (st.slots n), blocks := upd bl' s0 .none })
              | _ => False
        | _ => False
      | none => False
    | _ => False)
  | _, _, _, _ => False

def fills (t : Nat) : Oper := { dst := some t, op := .move (.tmp 0), type := 0, pos := default, after := #[], guard := none }
def okCode (ok : Oper → Bool) : Code → Bool
  | .region _ ops draw => ops.toList.all ok && (!draw || fitOps ops.toList)
  | .seq a b | .cond _ a b => okCode ok a && okCode ok b
  | .block _ a | .loop a | .scope a => okCode ok a
  | .rangeFunc _ ps a b => ps.toList.all (fun t => ok (fills t)) && okCode ok a && okCode ok b
  | .skip | .exit _ | .ret | .label _ => true
  | _ => false

def start (args : List PV) : St := { slots := fun n => args.getD n .junk, blocks := fun _ => .none }

def resOf (C : Ctx) (st : St) : ResultVar → PV
  | .tmp t => st.slots t
  | .cell x t =>
    match st.slots x, look C.types t with
    | .ptr s off, some ti => match st.blocks s with
      | .cells l => bif Nat.ble (off + ti.size) l.length then unc ti.agg ((l.drop off).take ti.size) else .junk
      | _ => .junk
    | _, _ => .junk
def results1 (C : Ctx) (rs : List ResultVar) (st : St) : PV :=
  match rs with
  | [r] => frz st.blocks (resOf C st r)
  | rs => .tup (rs.map fun r => frz st.blocks (resOf C st r))

def Meets (C : Ctx) (c : Code) (rs : List ResultVar) (n : Nat) (s : Spec) : Prop :=
  ∀ args : List PV, (s args).1.getD True → args.length = n ∧ evalCode C c (start args) fun o => match o with
    | .normal st | .ret st => withP (frzPL st.blocks (rs.map (resOf C st))) (rs.all (fun r => plain2 (frz st.blocks (resOf C st r))) = true ∧ PLe (results1 C rs st) (s args).2)
    | _ => False
def MeetsF (C : Ctx) (c : Code) (rs : List ResultVar) (n el sz : Nat) (s : Spec) : Prop :=
  ∀ args : List PV, (s args).1.getD True → args.length = n ∧ ∃ len get, (s args).2 = .slice none len get ∧ (∀ i, i < len → (get i).length = sz ∧ (get i).all noref1 = true) ∧ evalCode C c (start args) fun o => match o with
    | .normal st | .ret st => match rs with
      | [r] => match resOf C st r with
        | .nils => len = 0
        | .slice (some t) len' get' => match st.blocks t with
          | .grow L el' sz' => el' = el ∧ sz' = sz ∧ L = len' ∧ len' = len ∧ ∀ i, i < len → get' i = get i
          | _ => False
        | _ => False
      | _ => False
    | _ => False

def effBody (C : Ctx) (c : Code) (rs : List ResultVar) : Eff := fun args bl k =>
  evalCode C c { slots := (start args).slots, blocks := bl } fun o => match o with
    | .normal st | .ret st => rs.all (fun r => nj (resOf C st r)) = true ∧ k (prune (fun s => Nat.blt s C.off) (match rs with | [] => .tup [] | [r] => frzE C.off st.blocks (resOf C st r) | _ => .junk)) fun s => bif Nat.blt s C.off then pruneB (fun s => Nat.blt s C.off) (st.blocks s) else .none
    | _ => False
def iterBody (C : Ctx) (c : Code) (rs : List ResultVar) (n : Nat) : Iter := fun args bl y K => args.length = n ∧ effBody { C with yld := some y } c rs args bl K

end Go.V

/- What a plain value says of a machine's value in a world; what keeps it. -/
namespace Go.V
open Go.RowKit (Below)

structure Hd where
  L : Nat
  bo : Option Nat
  cp : Nat
  sz : Nat
  el : Nat
  ln : Nat
  own : Bool

structure Env where
  ρ : Nat → Option (Nat × Nat)
  hd : Nat → Option Hd
  σ : Nat → Nat → Prop

inductive RelP (σ : Nat → Nat → Prop) (w : World) : PV → Value → Prop
  | junk (v : Value) : RelP σ w .junk v
  | und : RelP σ w .und undef
  | tt : RelP σ w .tt (.bool true)
  | ff : RelP σ w .ff (.bool false)
  | bool (b : Bool) : RelP σ w (.bool b) (.bool b)
  | int (k : IntKind) (n : Int) : RelP σ w (.int k n) (.int k n)
  | str (s : ByteArray) : RelP σ w (.str s) (.string s)
  | nilp : RelP σ w .nilp (.pointer none)
  | yld (l : Nat) : RelP σ w (.yld l) (.func (.yield l) #[] #[])
  | nils : RelP σ w .nils (.slice none 0 0)
  | agg (cs : List PV) (a : Array Value) (hs : a.size = cs.length) (h : ∀ i, i < cs.length → RelP σ w (cs.getD i .junk) (a.getD i undef)) : RelP σ w (.agg cs) (.agg a)
  | tup (cs : List PV) (a : Array Value) (hs : a.size = cs.length) (h : ∀ i, i < cs.length → RelP σ w (cs.getD i .junk) (a.getD i undef)) : RelP σ w (.tup cs) (.tuple a)
  | cptr (cs : List PV) (b o : Nat) (c : Nat → Value) (h1 : ∀ j, j < cs.length → σ b (o + j) ∧ w.cell? ⟨b, o + j, none⟩ = some (c j))
      (h2 : ∀ j, j < cs.length → RelP σ w (cs.getD j .junk) (c j)) : RelP σ w (.cptr cs) (.pointer (some ⟨b, o, none⟩))
  | slice (len : Nat) (get : Nat → List PV) (a : Option Addr) (cap b o sz : Nat) (c : Nat → Nat → Value) (hc : len ≤ cap)
      (ha : 0 < len → a = some ⟨b, o, none⟩) (hn : a = none → cap = 0) (hl : ∀ i, i < len → (get i).length = sz)
      (h1 : ∀ i, i < len → ∀ j, j < sz → σ b (o + i * sz + j) ∧ w.cell? ⟨b, o + i * sz + j, none⟩ = some (c i j))
      (h2 : ∀ i, i < len → ∀ j, j < sz → RelP σ w ((get i).getD j .junk) (c i j)) : RelP σ w (.slice none len get) (.slice a len cap)
  | fn (f : Fn) (xs ys : List PV) (a b : Array Value) (ha : a.size = xs.length) (hb : b.size = ys.length) (h1 : ∀ i, i < xs.length → RelP σ w (xs.getD i .junk) (a.getD i undef))
      (h2 : ∀ i, i < ys.length → RelP σ w (ys.getD i .junk) (b.getD i undef)) : RelP σ w (.fn f xs ys) (.func f a b)

theorem RelP.mono {σ σ' : Nat → Nat → Prop} {w w' : World} (hσ : ∀ b o, σ b o → σ' b o) (hw : ∀ b o, σ b o → w'.cell? ⟨b, o, none⟩ = w.cell? ⟨b, o, none⟩) {p : PV} {v : Value} (h : RelP σ w p v) : RelP σ' w' p v := by
  induction h with
  | junk v => exact .junk v
  | und => exact .und
  | tt => exact .tt
  | ff => exact .ff
  | bool b => exact .bool b
  | int k n => exact .int k n
  | str s => exact .str s
  | nilp => exact .nilp
  | yld l => exact .yld l
  | nils => exact .nils
  | agg cs a hs _ ih => exact .agg cs a hs ih
  | tup cs a hs _ ih => exact .tup cs a hs ih
  | cptr cs b o c h1 _ ih => exact .cptr cs b o c (fun j hj => ⟨hσ _ _ (h1 j hj).1, (hw _ _ (h1 j hj).1).trans (h1 j hj).2⟩) ih
  | slice len get a cap b o sz c hc ha hn hl h1 _ ih =>
    exact .slice len get a cap b o sz c hc ha hn hl (fun i hi j hj => ⟨hσ _ _ (h1 i hi j hj).1, (hw _ _ (h1 i hi j hj).1).trans (h1 i hi j hj).2⟩) ih
  | fn f xs ys a b ha hb _ _ ih1 ih2 => exact .fn f xs ys a b ha hb ih1 ih2

inductive Rel (E : Env) (w : World) : PV → Value → Prop
  | pure {p : PV} {v : Value} (h : RelP E.σ w p v) : Rel E w p v
  | agg (cs : List PV) (a : Array Value) (hs : a.size = cs.length) (h : ∀ i, i < cs.length → Rel E w (cs.getD i .junk) (a.getD i undef)) : Rel E w (.agg cs) (.agg a)
  | tup (cs : List PV) (a : Array Value) (hs : a.size = cs.length) (h : ∀ i, i < cs.length → Rel E w (cs.getD i .junk) (a.getD i undef)) : Rel E w (.tup cs) (.tuple a)
  | ptr (s off b sz : Nat) (h : E.ρ s = some (b, sz)) : Rel E w (.ptr s off) (.pointer (some ⟨b, off, none⟩))
  | eptr (s i off b sz : Nat) (h : E.ρ s = some (b, sz)) : Rel E w (.eptr s i off) (.pointer (some ⟨b, i * sz + off, none⟩))
  | tslice (s len : Nat) (get : Nat → List PV) (a : Option Addr) (cap : Nat) (h : RelP E.σ w (.slice none len get) (.slice a len cap))
      (g : Hd) (hh : E.hd s = some g) (hL : len ≤ g.L) (hx : len = g.L → a = g.bo.map (fun b => ⟨b, 0, none⟩) ∧ cap = g.cp ∧ g.ln = 0) :
      Rel E w (.slice (some s) len get) (.slice a len cap)
  | tsl (s k len sz : Nat) (get : Nat → List PV) (a : Option Addr) (cap : Nat) (h : RelP E.σ w (.slice none len get) (.slice a len cap))
      (g : Hd) (hh : E.hd s = some g) (hL : k + len ≤ g.L) (hx : k + len = g.L → g.ln ≤ k ∧ cap + (k - g.ln) = g.cp ∧ ∃ b ad, g.bo = some b ∧ a = some ad ∧ (0 < cap → ad = ⟨b, (k - g.ln) * sz, none⟩)) :
      Rel E w (.tsl s k len sz get) (.slice a len cap)
  | own (s len b sz cap : Nat) (h : E.ρ s = some (b, sz)) (hc : len ≤ cap) : Rel E w (.own s len) (.slice (some ⟨b, 0, none⟩) len cap)
  | stk (s ver len : Nat) (a : Option Addr) (cap : Nat) (g : Hd) (hh : E.hd s = some g) (hL : ver ≤ g.L) (hx : ver = g.L → a = g.bo.map (fun b => ⟨b, 0, none⟩) ∧ cap = g.cp ∧ len = g.ln) : Rel E w (.stk s ver len) (.slice a len cap)
  | cslice (s off len sz b sz0 cap : Nat) (h : E.ρ s = some (b, sz0)) (hc : len ≤ cap) : Rel E w (.cslice s off len sz) (.slice (some ⟨b, off, none⟩) len cap)
  | fn (f : Fn) (xs ys : List PV) (a b : Array Value) (ha : a.size = xs.length) (hb : b.size = ys.length) (h1 : ∀ i, i < xs.length → Rel E w (xs.getD i .junk) (a.getD i undef))
      (h2 : ∀ i, i < ys.length → Rel E w (ys.getD i .junk) (b.getD i undef)) : Rel E w (.fn f xs ys) (.func f a b)

structure Env.le (E E' : Env) : Prop where
  ρ : ∀ s x, E.ρ s = some x → E'.ρ s = some x
  σ : ∀ b o, E.σ b o → E'.σ b o
  hd : ∀ s g, E.hd s = some g → ∃ g', E'.hd s = some g' ∧ g.L ≤ g'.L ∧ (g'.L = g.L → g'.bo = g.bo ∧ g'.cp = g.cp ∧ g'.ln = g.ln)

theorem Env.le_refl (E : Env) : E.le E := ⟨fun _ _ h => h, fun _ _ h => h, fun _ g h => ⟨g, h, Nat.le_refl _, fun _ => ⟨rfl, rfl, rfl⟩⟩⟩

theorem Rel.mono {E E' : Env} {w w' : World} (hE : E.le E') (hw : ∀ b o, E.σ b o → w'.cell? ⟨b, o, none⟩ = w.cell? ⟨b, o, none⟩) {p : PV} {v : Value} (h : Rel E w p v) : Rel E' w' p v := by
  induction h with
  | pure h => exact .pure (h.mono hE.σ hw)
  | agg cs a hs _ ih => exact .agg cs a hs ih
  | tup cs a hs _ ih => exact .tup cs a hs ih
  | ptr s off b sz h => exact .ptr s off b sz (hE.ρ _ _ h)
  | eptr s i off b sz h => exact .eptr s i off b sz (hE.ρ _ _ h)
  | tslice s len get a cap h g hh hL hx =>
    obtain ⟨g', e', hL', hx'⟩ := hE.hd s g hh
    refine .tslice s len get a cap (h.mono hE.σ hw) g' e' (Nat.le_trans hL hL') fun hlen => ?_
    have hq : len = g.L := by omega
    obtain ⟨h1, h2, h3⟩ := hx' (by omega)
    rw [h1, h2, h3]
    exact hx hq
  | tsl s k len sz get a cap h g hh hL hx =>
    obtain ⟨g', e', hL', hx'⟩ := hE.hd s g hh
    refine .tsl s k len sz get a cap (h.mono hE.σ hw) g' e' (Nat.le_trans hL hL') fun hlen => ?_
    have hq : k + len = g.L := by omega
    obtain ⟨h1, h2, h3⟩ := hx' (by omega)
    rw [h1, h2, h3]
    exact hx hq
  | own s len b sz cap h hc => exact .own s len b sz cap (hE.ρ _ _ h) hc
  | cslice s off len sz b sz0 cap h hc => exact .cslice s off len sz b sz0 cap (hE.ρ _ _ h) hc
  | stk s ver len a cap g hh hL hx =>
    obtain ⟨g', e', hL', hx'⟩ := hE.hd s g hh
    refine .stk s ver len a cap g' e' (Nat.le_trans hL hL') fun hlen => ?_
    have hq : ver = g.L := by omega
    obtain ⟨h1, h2, h3⟩ := hx' (by omega)
    rw [h1, h2, h3]
    exact hx hq
  | fn f xs ys a b ha hb _ _ ih1 ih2 => exact .fn f xs ys a b ha hb ih1 ih2

theorem Rel.int_inv {E : Env} {w : World} {k : IntKind} {n : Int} {v : Value} (h : Rel E w (.int k n) v) : v = .int k n := by
  cases h with | pure h => cases h; rfl
theorem Rel.bool_inv {E : Env} {w : World} {b : Bool} {v : Value} (h : Rel E w (.bool b) v) : v = .bool b := by
  cases h with | pure h => cases h; rfl
theorem Rel.tt_inv {E : Env} {w : World} {v : Value} (h : Rel E w .tt v) : v = .bool true := by
  cases h with | pure h => cases h; rfl
theorem Rel.ff_inv {E : Env} {w : World} {v : Value} (h : Rel E w .ff v) : v = .bool false := by
  cases h with | pure h => cases h; rfl
theorem Rel.und_inv {E : Env} {w : World} {v : Value} (h : Rel E w .und v) : v = undef := by
  cases h with | pure h => cases h; rfl
theorem Rel.nils_inv {E : Env} {w : World} {v : Value} (h : Rel E w .nils v) : v = .slice none 0 0 := by
  cases h with | pure h => cases h; rfl
theorem Rel.boolOf_inv {E : Env} {w : World} {p : PV} {b : Bool} {v : Value} (hp : boolOf p = some b) (h : Rel E w p v) : v = .bool b := by
  cases p <;> simp [boolOf] at hp <;> subst hp
  · exact h.tt_inv
  · exact h.ff_inv
  · exact h.bool_inv
theorem Rel.agg_inv {E : Env} {w : World} {cs : List PV} {v : Value} (h : Rel E w (.agg cs) v) : ∃ a : Array Value, v = .agg a ∧ a.size = cs.length ∧ ∀ i, i < cs.length → Rel E w (cs.getD i .junk) (a.getD i undef) := by
  cases h with
  | pure h => cases h with | agg _ a hs h => exact ⟨a, rfl, hs, fun i hi => .pure (h i hi)⟩
  | agg _ a hs h => exact ⟨a, rfl, hs, h⟩
theorem Rel.tup_inv {E : Env} {w : World} {cs : List PV} {v : Value} (h : Rel E w (.tup cs) v) : ∃ a : Array Value, v = .tuple a ∧ a.size = cs.length ∧ ∀ i, i < cs.length → Rel E w (cs.getD i .junk) (a.getD i undef) := by
  cases h with
  | pure h => cases h with | tup _ a hs h => exact ⟨a, rfl, hs, fun i hi => .pure (h i hi)⟩
  | tup _ a hs h => exact ⟨a, rfl, hs, h⟩
theorem Rel.yld_inv {E : Env} {w : World} {l : Nat} {v : Value} (h : Rel E w (.yld l) v) : v = .func (.yield l) #[] #[] := by
  cases h with
  | pure h => cases h; rfl
theorem Rel.ptr_inv {E : Env} {w : World} {s off : Nat} {v : Value} (h : Rel E w (.ptr s off) v) : ∃ b sz, E.ρ s = some (b, sz) ∧ v = .pointer (some ⟨b, off, none⟩) := by
  cases h with
  | pure h => cases h
  | ptr _ _ b sz h => exact ⟨b, sz, h, rfl⟩
theorem Rel.eptr_inv {E : Env} {w : World} {s i off : Nat} {v : Value} (h : Rel E w (.eptr s i off) v) : ∃ b sz, E.ρ s = some (b, sz) ∧ v = .pointer (some ⟨b, i * sz + off, none⟩) := by
  cases h with
  | pure h => cases h
  | eptr _ _ _ b sz h => exact ⟨b, sz, h, rfl⟩
theorem Rel.own_inv {E : Env} {w : World} {s len : Nat} {v : Value} (h : Rel E w (.own s len) v) : ∃ b sz cap, E.ρ s = some (b, sz) ∧ len ≤ cap ∧ v = .slice (some ⟨b, 0, none⟩) len cap := by
  cases h with
  | pure h => cases h
  | own _ _ b sz cap h hc => exact ⟨b, sz, cap, h, hc, rfl⟩
theorem Rel.stk_inv {E : Env} {w : World} {s ver len : Nat} {v : Value} (h : Rel E w (.stk s ver len) v) : ∃ a cap g, v = .slice a len cap ∧ E.hd s = some g ∧ ver ≤ g.L ∧ (ver = g.L → a = g.bo.map (fun b => ⟨b, 0, none⟩) ∧ cap = g.cp ∧ len = g.ln) := by
  cases h with
  | pure h => cases h
  | stk _ _ _ a cap g hh hL hx => exact ⟨a, cap, g, rfl, hh, hL, hx⟩
theorem Rel.cslice_inv {E : Env} {w : World} {s off len sz : Nat} {v : Value} (h : Rel E w (.cslice s off len sz) v) : ∃ b sz0 cap, E.ρ s = some (b, sz0) ∧ len ≤ cap ∧ v = .slice (some ⟨b, off, none⟩) len cap := by
  cases h with
  | pure h => cases h
  | cslice _ _ _ _ b sz0 cap h hc => exact ⟨b, sz0, cap, h, hc, rfl⟩
theorem Rel.fn_inv {E : Env} {w : World} {f : Fn} {xs ys : List PV} {v : Value} (h : Rel E w (.fn f xs ys) v) : ∃ a b : Array Value, v = .func f a b ∧ a.size = xs.length ∧ b.size = ys.length ∧
    (∀ i, i < xs.length → Rel E w (xs.getD i .junk) (a.getD i undef)) ∧ ∀ i, i < ys.length → Rel E w (ys.getD i .junk) (b.getD i undef) := by
  cases h with
  | pure h => cases h with | fn _ _ _ a b ha hb h1 h2 => exact ⟨a, b, rfl, ha, hb, fun i hi => .pure (h1 i hi), fun i hi => .pure (h2 i hi)⟩
  | fn _ _ _ a b ha hb h1 h2 => exact ⟨a, b, rfl, ha, hb, h1, h2⟩
theorem Rel.cptr_inv {E : Env} {w : World} {cs : List PV} {v : Value} (h : Rel E w (.cptr cs) v) : ∃ b o, ∃ c : Nat → Value, v = .pointer (some ⟨b, o, none⟩) ∧
    (∀ j, j < cs.length → E.σ b (o + j) ∧ w.cell? ⟨b, o + j, none⟩ = some (c j)) ∧ ∀ j, j < cs.length → RelP E.σ w (cs.getD j .junk) (c j) := by
  cases h with
  | pure h => cases h with | cptr _ b o c h1 h2 => exact ⟨b, o, c, rfl, h1, h2⟩
theorem Rel.slice_inv {E : Env} {w : World} {tag : Option Nat} {len : Nat} {get : Nat → List PV} {v : Value} (h : Rel E w (.slice tag len get) v) :
    ∃ a cap, v = .slice a len cap ∧ RelP E.σ w (.slice none len get) v := by
  cases h with
  | pure h => cases h with | slice _ _ a cap b o sz c hc ha hn hl h1 h2 => exact ⟨a, cap, rfl, .slice _ _ a cap b o sz c hc ha hn hl h1 h2⟩
  | tslice _ _ _ a cap h _ _ _ _ => exact ⟨a, cap, rfl, h⟩

theorem Rel.tsl_inv {E : Env} {w : World} {s k len sz : Nat} {get : Nat → List PV} {v : Value} (h : Rel E w (.tsl s k len sz get) v) :
    ∃ a cap g, v = .slice a len cap ∧ RelP E.σ w (.slice none len get) (.slice a len cap) ∧ E.hd s = some g ∧ k + len ≤ g.L ∧ (k + len = g.L → g.ln ≤ k ∧ cap + (k - g.ln) = g.cp ∧ ∃ b ad, g.bo = some b ∧ a = some ad ∧ (0 < cap → ad = ⟨b, (k - g.ln) * sz, none⟩)) := by
  cases h with
  | pure h => cases h
  | tsl _ _ _ _ _ a cap h g hh hL hx => exact ⟨a, cap, g, rfl, h, hh, hL, hx⟩

theorem plain1_relP {E : Env} {w : World} {p : PV} {v : Value} (hp : plain1 p = true) (h : Rel E w p v) : RelP E.σ w p v := by
  cases h with
  | pure h => exact h
  | tslice s => simp [plain1] at hp
  | tsl s => simp [plain1] at hp
  | _ => simp [plain1] at hp
theorem all_getD {f : PV → Bool} {cs : List PV} (h : cs.all f = true) (i : Nat) (hi : i < cs.length) : f (cs.getD i .junk) = true := by
  rw [List.all_eq_true] at h
  have : cs.getD i .junk = cs[i] := by simp [List.getD, hi]
  rw [this]
  exact h _ (List.getElem_mem hi)
theorem plain1a_relP {E : Env} {w : World} {p : PV} {v : Value} (hp : plain1a p = true) (h : Rel E w p v) : RelP E.σ w p v := by
  cases p with
  | agg cs =>
    obtain ⟨a, rfl, hs, hh⟩ := h.agg_inv
    exact .agg cs a hs fun i hi => plain1_relP (all_getD hp i hi) (hh i hi)
  | _ => exact plain1_relP hp h
theorem plain2_relP {E : Env} {w : World} {p : PV} {v : Value} (hp : plain2 p = true) (h : Rel E w p v) : RelP E.σ w p v := by
  cases p with
  | agg cs =>
    obtain ⟨a, rfl, hs, hh⟩ := h.agg_inv
    exact .agg cs a hs fun i hi => plain1_relP (all_getD hp i hi) (hh i hi)
  | fn f xs ys =>
    obtain ⟨a, b, rfl, ha, hb, h1, h2⟩ := h.fn_inv
    simp only [plain2, Bool.and_eq_true] at hp
    exact .fn f xs ys a b ha hb (fun i hi => plain1a_relP (all_getD hp.1 i hi) (h1 i hi)) fun i hi => plain1a_relP (all_getD hp.2 i hi) (h2 i hi)
  | _ => exact plain1_relP hp h
theorem plain3_relP {E : Env} {w : World} {p : PV} {v : Value} (hp : plain3 p = true) (h : Rel E w p v) : RelP E.σ w p v := by
  cases p with
  | tup vs =>
    obtain ⟨a, rfl, hs, hh⟩ := h.tup_inv
    exact .tup vs a hs fun i hi => plain2_relP (all_getD hp i hi) (hh i hi)
  | _ => exact plain2_relP hp h
theorem toView_rel {E : Env} {w : World} {p : PV} {v : Value} (h : Rel E w p v) : Rel E w (toView p) v := by
  cases p with
  | slice tag len get => obtain ⟨a, cap, rfl, h'⟩ := h.slice_inv; exact .pure h'
  | nils => obtain rfl := h.nils_inv; exact .pure (.slice 0 _ none 0 0 0 0 (fun _ _ => undef) (Nat.le_refl _) (by omega) (fun _ => rfl) (by intro i hi; omega) (by intro i hi; omega) (by intro i hi; omega))
  | tsl s k len sz get => obtain ⟨a, cap, g, rfl, h', _⟩ := h.tsl_inv; exact .pure h'
  | _ => exact h

end Go.V

/- The state of a walk, and that each operation does to the machine what it does to the plain state. Part 1: operations that leave the world alone. -/
namespace Go.V
open Go.RowKit (Below)

structure TIok (P : Program) (t : Nat) (ti : TI) : Prop where
  info : (P.info? t).map (fun i => (i.size, i.bytes, i.zero.map fun z => z.cells.toList.map ofVal)) = some (ti.size, ti.bytes, some ti.zero)
  desc : (P.underlying t).map TyK.of = some ti.k
  len : ti.zero.length = ti.size
  one : ti.agg = false → ti.size = 1
  eq : ti.eq = true → ∀ (w : World) (xs ys : List PV) (a b : Array Value) (r : Bool), xs.length = ti.size → eqCells xs ys = some r → a.toList = xs.map (fun | .int k n => .int k n | _ => undef) →
    b.toList = ys.map (fun | .int k n => .int k n | _ => undef) → (Op.equal t (.agg a) (.agg b)).run P w = .ok r w ∧ P.eqGuardType P.depth t = false

def Sound (P : Program) (f : Nat) (s : Spec) : Prop :=
  ∀ (args : List PV) (σ : Nat → Nat → Prop) (w : World) (vals : Array Value), vals.size = args.length → (∀ i, i < args.length → RelP σ w (args.getD i .junk) (vals.getD i undef)) →
    (∀ b o, σ b o → b < w.heap.size) → (s args).1.getD True →
    Calls P f vals w fun e w' => ∃ v σ', e = .returned v ∧ Below w.heap.size w w' ∧ (∀ b o, σ b o → σ' b o) ∧ (∀ b o, σ' b o → b < w'.heap.size ∧ (¬ σ b o → w.heap.size ≤ b)) ∧ RelP σ' w' (s args).2 v

def SoundF (P : Program) (f el sz : Nat) (s : Spec) : Prop :=
  ∀ (args : List PV) (σ : Nat → Nat → Prop) (w : World) (vals : Array Value), vals.size = args.length → (∀ i, i < args.length → RelP σ w (args.getD i .junk) (vals.getD i undef)) →
    (∀ b o, σ b o → b < w.heap.size) → (s args).1.getD True → ∀ len get, (s args).2 = .slice none len get →
    Calls P f vals w fun e w' => ∃ bo cp, e = .returned (.slice (bo.map fun b => ⟨b, 0, none⟩) len cp) ∧ Below w.heap.size w w' ∧ (bo = none → len = 0 ∧ cp = 0) ∧
      ∀ b, bo = some b → w.heap.size ≤ b ∧ ∃ arr, w'.heap[b]? = some (.cells arr el (0, 0)) ∧ arr.size = cp * sz ∧ len ≤ cp ∧ cp ≤ maxLen ∧ ∀ i, i < len → ∀ j, j < sz → RelP (fun _ _ => False) w' ((get i).getD j .junk) (arr.getD (i * sz + j) undef)
def Env.at (E : Env) (s : Nat) : Option Nat :=
  match E.ρ s with
  | some (b, _) => some b
  | none => match E.hd s with
    | some g => g.bo
    | none => none

def BR (E : Env) (w : World) (base s : Nat) : Blk → Prop
  | .none => E.ρ s = none ∧ E.hd s = none
  | .cells l => E.hd s = none ∧ ∃ b arr e, E.ρ s = some (b, 0) ∧ base ≤ b ∧ w.heap[b]? = some (.cells arr e (0, 0)) ∧ arr.size = l.length ∧ ∀ i, i < l.length → Rel E w (l.getD i .junk) (arr.getD i undef)
  | .arr len sz get => E.hd s = none ∧ ∃ b arr e, E.ρ s = some (b, sz) ∧ base ≤ b ∧ w.heap[b]? = some (.cells arr e (0, 0)) ∧ len * sz ≤ arr.size ∧ ∀ i, i < len → (get i).length = sz ∧ ∀ j, j < sz → RelP E.σ w ((get i).getD j .junk) (arr.getD (i * sz + j) undef)
  | .jmp _ => E.ρ s = none ∧ E.hd s = none
  | .stk ver len el sz get => E.ρ s = none ∧ ∃ g, E.hd s = some g ∧ g.own = true ∧ g.L = ver ∧ g.ln = len ∧ (g.bo = none → len = 0 ∧ g.cp = 0) ∧ (0 < sz ∧ ∀ i, i < len → (get i).length = sz) ∧ ∀ b, g.bo = some b → base ≤ b ∧ 0 < sz ∧ ∃ arr, w.heap[b]? = some (.cells arr el (0, 0)) ∧ arr.size = g.cp * sz ∧ len ≤ g.cp ∧ g.cp ≤ maxLen ∧ ∀ i, i < len → ∀ j, j < sz → RelP E.σ w ((get i).getD j .junk) (arr.getD (i * sz + j) undef)
  | .arrv len get => E.hd s = none ∧ ∃ b arr e, E.ρ s = some (b, 0) ∧ base ≤ b ∧ w.heap[b]? = some (.cells arr e (0, 0)) ∧ arr.size = len ∧ ∀ i, i < len → RelP E.σ w (get i) (arr.getD i undef)
  | .arrx len get i v => E.hd s = none ∧ ∃ b arr e, E.ρ s = some (b, 1) ∧ base ≤ b ∧ w.heap[b]? = some (.cells arr e (0, 0)) ∧ len ≤ arr.size ∧ i < len ∧ (∀ k, k < len → k ≠ i → (get k).length = 1 ∧ RelP E.σ w ((get k).getD 0 .junk) (arr.getD k undef)) ∧ Rel E w v (arr.getD i undef)
  | .grow L el sz => E.ρ s = none ∧ ∃ g, E.hd s = some g ∧ g.L = L ∧ g.sz = sz ∧ (g.bo = none → L = 0 ∧ g.cp = 0) ∧ (∀ b, g.bo = some b → base ≤ b ∧ 0 < g.sz ∧ ∃ arr, w.heap[b]? = some (.cells arr el (0, 0)) ∧ arr.size = g.cp * g.sz ∧ L ≤ g.cp + g.ln ∧ g.cp ≤ maxLen) ∧ g.own = false ∧ g.ln ≤ L

def Env.only (E : Env) (q : Nat → Bool) : Env := ⟨fun s => if q s = true then E.ρ s else none, fun s => if q s = true then E.hd s else none, E.σ⟩

def NC (o : Obj) : Prop := ∀ c e f, o ≠ .cells c e f

structure Orig where
  w : World
  σ : Nat → Nat → Prop
  off : Nat := 0
  Φ : (Nat → Bool) → PV → Value → Prop := fun _ _ _ => False      -- what callers hold; each with the names that it may bear
  hΦ : ∀ q p v, Φ q p v → ∀ s, q s = true → s < off := by exact fun _ _ _ h => h.elim
  κ : Nat → Obj → Prop := fun _ _ => False      -- what callers keep of their own books
  hκ : ∀ b o, κ b o → o = .deferred (some []) := by exact fun _ _ h => h.elim
  rc : Nat → Option (Nat × Loop) := fun _ => none      -- loops over functions that are under way: the name, the record's place, the record
  hrc : ∀ s x, rc s = some x → s < off := by exact fun _ _ h => nomatch h
  hri : ∀ s s' l r r', rc s = some (l, r) → rc s' = some (l, r') → s = s' := by exact fun _ _ _ _ _ h => nomatch h

def JS.loopOf (j : JS) (r : Loop) : Loop :=
  match j with
  | .ready => { r with state := .ready, pending := none }
  | .busy => { r with state := .busy, pending := none }
  | .done none => { r with state := .done, pending := some .ret }
  | .done (some n) => { r with state := .done, pending := some (.exit n) }
def markOf (D : Nat) : Deferred := { target := .collected D, args := #[] }
structure Book (base : Nat) (w0 : Orig) (bl : Nat → Blk) (ds : List Deferred) (w : World) : Prop where
  dfr : ∃ Ds : List Nat, ds = Ds.map markOf ∧ Ds.Nodup ∧ ∀ D ∈ Ds, base ≤ D ∧ w.heap[D]? = some (.deferred (some [])) ∧ ∀ o, ¬ w0.κ D o
  kp : ∀ b o, w0.κ b o → w.heap[b]? = some o
  jp : ∀ s l r, w0.rc s = some (l, r) → ∃ j, bl s = .jmp j ∧ w.heap[l]? = some (.loop (j.loopOf r))
theorem NC.deferred (x : Option (List Deferred)) : NC (.deferred x) := fun _ _ _ h => nomatch h
theorem NC.loop (r : Loop) : NC (.loop r) := fun _ _ _ h => nomatch h
theorem Book.step {base : Nat} {w0 : Orig} {bl bl' : Nat → Blk} {ds : List Deferred} {w w' : World} (h : Book base w0 bl ds w) (hw : ∀ (b : Nat) (o : Obj), w.heap[b]? = some o → NC o → w'.heap[b]? = some o) (hb : ∀ s j, bl s = .jmp j → bl' s = .jmp j) : Book base w0 bl' ds w' := by
  refine ⟨?_, fun b o hk => hw _ _ (h.kp b o hk) (by rw [w0.hκ b o hk]; exact .deferred _), fun s l r hr => ?_⟩
  · obtain ⟨Ds, h1, h2, h3⟩ := h.dfr
    exact ⟨Ds, h1, h2, fun D hD => ⟨(h3 D hD).1, hw _ _ (h3 D hD).2.1 (.deferred _), (h3 D hD).2.2⟩⟩
  · obtain ⟨j, h1, h2⟩ := h.jp s l r hr
    exact ⟨j, hb s j h1, hw _ _ h2 (.loop _)⟩
theorem Book.heap {base : Nat} {w0 : Orig} {bl : Nat → Blk} {ds : List Deferred} {w w' : World} (h : Book base w0 bl ds w) (hw : ∀ b : Nat, b < w.heap.size → w'.heap[b]? = w.heap[b]?) : Book base w0 bl ds w' :=
  h.step (fun b _ hb _ => (hw b (Array.getElem?_eq_some_iff.1 hb).1).trans hb) fun _ _ h => h
theorem Book.bare {base : Nat} {w0 : Orig} {bl : Nat → Blk} {ds : List Deferred} {w : World} (h : Book base w0 bl ds w) : Book base w0 bl [] w := ⟨⟨[], rfl, .nil, fun _ h => nomatch h⟩, h.kp, h.jp⟩

structure SR (E : Env) (base : Nat) (w0 : Orig) (st : St) (a : Act) (w : World) : Prop where
  dfr : Book base w0 st.blocks a.defers w
  slots : ∀ n, Rel E w (st.slots n) (a.tmps.getD n undef)
  blk : ∀ s, BR E w base s (st.blocks s)
  inj : ∀ s s' b, E.at s = some b → E.at s' = some b → s = s'
  σok : ∀ b o, E.σ b o → b < w.heap.size ∧ (∀ s sz, E.ρ s ≠ some (b, sz)) ∧ ∀ s g, E.hd s = some g → g.bo = some b → g.own = false ∧ o < (g.L - g.ln) * g.sz
  bel : Below base w0.w w
  bas : base ≤ w.heap.size
  σin : ∀ b o, w0.σ b o → E.σ b o
  σout : ∀ b o, E.σ b o → w0.σ b o ∨ base ≤ b
  fr : ∀ q p v, w0.Φ q p v → Rel (E.only q) w p v

def noAct : Act := ⟨#[], []⟩
structure Orig.le (w0 w1 : Orig) : Prop where
  w : w1.w = w0.w
  σ : w1.σ = w0.σ
  off : w0.off ≤ w1.off
  Φ : ∀ q p v, w0.Φ q p v → w1.Φ q p v
  κ : ∀ b o, w0.κ b o → w1.κ b o
  rc : ∀ s x, w0.rc s = some x → w1.rc s = some x
theorem Orig.le_refl (w0 : Orig) : w0.le w0 := ⟨rfl, rfl, Nat.le_refl _, fun _ _ _ h => h, fun _ _ h => h, fun _ _ h => h⟩
theorem Orig.le.trans {w0 w1 w2 : Orig} (h : w0.le w1) (h' : w1.le w2) : w0.le w2 :=
  ⟨h'.w.trans h.w, h'.σ.trans h.σ, Nat.le_trans h.off h'.off, fun q p v x => h'.Φ q p v (h.Φ q p v x), fun b o x => h'.κ b o (h.κ b o x), fun s x y => h'.rc s x (h.rc s x y)⟩
def SoundY (P : Program) (base : Nat) (w0 : Orig) (y : Yd) : Prop :=
  ∀ (w1 : Orig), w0.le w1 → w1.off = y.o2 → ∀ (args : List PV) (bl : Nat → Blk) (K : PV → (Nat → Blk) → Prop), y.Y args bl K → bl y.s = .jmp .ready → ∀ (E : Env) (w : World) (vals : Array Value), SR E base w1 ⟨fun _ => .junk, bl⟩ noAct w →
    vals.size = args.length → (∀ i, i < args.length → Rel E w (args.getD i .junk) (vals.getD i undef)) →
    ∃ (fn : FuncId) (tmps : Array Value) (assign body : Code), (Instr.yield y.l vals).run P w = .ok (.round y.l fn tmps assign body) w ∧
      RoundIn Fence.wide 0 P y.l fn tmps assign body w fun e' w' => ∃ v p bl' E', e' = .returned v ∧ K p bl' ∧ SR E' base w1 ⟨fun _ => .junk, bl'⟩ noAct w' ∧ Rel E' w' p v
theorem SoundY.le {P : Program} {base : Nat} {w0 w1 : Orig} {y : Yd} (h : SoundY P base w0 y) (hle : w0.le w1) : SoundY P base w1 y := fun w2 h2 => h w2 (hle.trans h2)
def SoundI (P : Program) (f s0 o1 o2 : Nat) (I : Iter) : Prop :=
  ∀ (args : List PV) (bl : Nat → Blk) (y : Yd) (K : PV → (Nat → Blk) → Prop), y.s = s0 → y.o2 = o2 → I args bl y K → ∀ (E : Env) (base : Nat) (w0 : Orig) (w : World) (vals : Array Value), w0.off = o1 → SR E base w0 ⟨fun _ => .junk, bl⟩ noAct w →
    SoundY P base w0 y → vals.size = args.length → (∀ i, i < args.length → Rel E w (args.getD i .junk) (vals.getD i undef)) →
    Calls P f vals w fun e' w' => ∃ v p bl' E', e' = .returned v ∧ K p bl' ∧ SR E' base w0 ⟨fun _ => .junk, bl'⟩ noAct w' ∧ Rel E' w' p v
def SoundE (P : Program) (f off : Nat) (e : Eff) : Prop :=
  ∀ (args : List PV) (bl : Nat → Blk) (K : PV → (Nat → Blk) → Prop), e args bl K → ∀ (E : Env) (base : Nat) (w0 : Orig) (w : World) (vals : Array Value), w0.off = off → SR E base w0 ⟨fun _ => .junk, bl⟩ noAct w →
    vals.size = args.length → (∀ i, i < args.length → Rel E w (args.getD i .junk) (vals.getD i undef)) →
    Calls P f vals w fun e' w' => ∃ v p bl' E', e' = .returned v ∧ K p bl' ∧ SR E' base w0 ⟨fun _ => .junk, bl'⟩ noAct w' ∧ Rel E' w' p v

structure CtxOk (P : Program) (C : Ctx) : Prop where
  effs : ∀ f off e, look C.effs f = some (off, e) → SoundE P f off e ∧ ∃ fn c, P.funcs[f]? = some fn ∧ (fn.name == "runtime.NumGoroutine") = false ∧ fn.body = some c
  types : ∀ t ti, look C.types t = some ti → TIok P t ti
  iters : ∀ f s0 o1 o2 I, look C.iters f = some (s0, o1, o2, I) → SoundI P f s0 o1 o2 I ∧ ∃ fn c, P.funcs[f]? = some fn ∧ (fn.name == "runtime.NumGoroutine") = false ∧ fn.body = some c
  specs : ∀ f s, look C.specs f = some s → Sound P f s ∧ ∃ fn c, P.funcs[f]? = some fn ∧ (fn.name == "runtime.NumGoroutine") = false ∧ fn.body = some c
  fresh : ∀ f el sz s, look C.fresh f = some (el, sz, s) → SoundF P f el sz s ∧ ∃ fn c, P.funcs[f]? = some fn ∧ (fn.name == "runtime.NumGoroutine") = false ∧ fn.body = some c

section
variable {P : Program} {C : Ctx} {E : Env} {base : Nat} {w0 : Orig} {w : World} {st : St} {a : Act}

theorem ofVal_rel (σ : Nat → Nat → Prop) (w : World) (v : Value) : RelP σ w (ofVal v) v := by
  unfold ofVal
  split <;> constructor

theorem Env.only_le {E E' : Env} (h : E.le E') (q : Nat → Bool) : (E.only q).le (E'.only q) := by
  refine ⟨fun s x hx => ?_, h.σ, fun s g hg => ?_⟩
  · simp only [Env.only] at hx ⊢
    split at hx
    · rename_i hq; rw [if_pos hq]; exact h.ρ s x hx
    · cases hx
  · simp only [Env.only] at hg ⊢
    split at hg
    · rename_i hq; rw [if_pos hq]; exact h.hd s g hg
    · cases hg

theorem SR.ev (h : SR E base w0 st a w) (x : Operand) : Rel E w (V.ev st.slots x) (a.eval x) := by
  cases x with
  | tmp t => exact h.slots t
  | const v =>
    show Rel E w (ofVal v) v
    unfold ofVal
    split <;> exact .pure (by constructor)
  | global g => exact .pure (.junk _)
  | func f => exact .pure (.fn _ _ _ _ _ rfl rfl (by intro i hi; simp at hi) (by intro i hi; simp at hi))

theorem und_of {P : Program} {t : Nat} {k : TyK} (h : (P.underlying t).map TyK.of = some k) : ∃ d, P.underlying t = some d ∧ TyK.of d = k := by
  cases hd : P.underlying t with
  | none => rw [hd] at h; cases h
  | some d => rw [hd] at h; exact ⟨d, rfl, Option.some.inj h⟩
theorem und_slice {P : Program} {t el : Nat} (h : (P.underlying t).map TyK.of = some (.slice el)) : P.underlying t = some (.slice el) := by
  obtain ⟨d, hd, hk⟩ := und_of h
  cases d <;> simp [TyK.of] at hk
  subst hk; exact hd
theorem und_array {P : Program} {t n el : Nat} (h : (P.underlying t).map TyK.of = some (.array n el)) : P.underlying t = some (.array n el) := by
  obtain ⟨d, hd, hk⟩ := und_of h
  cases d <;> simp [TyK.of] at hk
  obtain ⟨rfl, rfl⟩ := hk; exact hd
theorem und_struct {P : Program} {t : Nat} {fl : List (Nat × Nat)} (h : (P.underlying t).map TyK.of = some (.struct fl)) : ∃ fs, P.underlying t = some (.struct fs) ∧ fs.toList.map (fun f => (f.offset, f.type)) = fl := by
  obtain ⟨d, hd, hk⟩ := und_of h
  cases d <;> simp [TyK.of] at hk
  exact ⟨_, hd, hk⟩
theorem und_int {P : Program} {t : Nat} {k : IntKind} (h : (P.underlying t).map TyK.of = some (.scalar (some k))) : P.underlying t = some (.int k) := by
  obtain ⟨d, hd, hk⟩ := und_of h
  cases d <;> simp [TyK.of] at hk
  subst hk; exact hd
theorem run_und {P : Program} {t : Nat} {d : TypeDesc} (w : World) (h : P.underlying t = some d) : (underlying t).run P w = .ok d w := by
  simp [underlying, h]
theorem TIok.run_info {t : Nat} {ti : TI} (h : TIok P t ti) (w : World) : ∃ i z, (typeInfo t).run P w = .ok i w ∧ i.size = ti.size ∧ i.bytes = ti.bytes ∧ i.zero = some z ∧ z.cells.toList.map ofVal = ti.zero := by
  have := h.info
  cases hi : P.info? t with
  | none => rw [hi] at this; cases this
  | some i =>
    rw [hi] at this
    simp only [Option.map_some, Option.some.injEq, Prod.mk.injEq] at this
    obtain ⟨h1, h2, h3⟩ := this
    cases hz : i.zero with
    | none => rw [hz] at h3; cases h3
    | some z => rw [hz] at h3; exact ⟨i, z, by simp [typeInfo, hi], h1, h2, hz, Option.some.inj h3⟩
theorem TIok.run_size {t : Nat} {ti : TI} (h : TIok P t ti) (w : World) : (sizeOf t).run P w = .ok ti.size w := by
  obtain ⟨i, z, h1, h2, _⟩ := h.run_info w
  simp [sizeOf, h1, h2]
theorem TIok.run_agg {t : Nat} {ti : TI} (h : TIok P t ti) (w : World) : (isAgg t).run P w = .ok ti.agg w := by
  obtain ⟨d, hd, hk⟩ := und_of h.desc
  simp only [isAgg, Sem.run_bind, run_und w hd, Result.andThen_ok, TI.agg, ← hk]
  cases d <;> simp [TyK.of]

theorem arith_sound {op : BinOp} {k : IntKind} {x y : Int} {t : Nat} (hp : (arith op k x y).pre.getD True) :
    (arith op k x y).upd = none ∧ ∃ v, (binOp op t (.int k x) (.int k y)).run P w = .ok v w ∧ Rel E w (arith op k x y).val v := by
  cases op <;> simp only [arith, R.ok, R.bad, Option.getD_none, Option.getD_some] at hp <;>
    first
    | exact hp.elim
    | exact ⟨rfl, _, by simp [binOp, Op.intArith, Op.intCmp]; rfl, .pure (by constructor)⟩
    | exact ⟨rfl, _, by simp [binOp, Op.intDiv, hp]; rfl, .pure (by constructor)⟩
    | exact ⟨rfl, _, by simp [binOp, Op.intBits]; rfl, .pure (by constructor)⟩
theorem shift_sound {op : BinOp} {k k' : IntKind} {x y : Int} {t : Nat} {r : R} (hr : shiftR op k x y = some r) (hp : r.pre.getD True) :
    r.upd = none ∧ ∃ v, (binOp op t (.int k x) (.int k' y)).run P w = .ok v w ∧ Rel E w r.val v := by
  cases op <;> simp only [shiftR, reduceCtorEq, Option.some.injEq] at hr
  · subst hr
    have hp : 0 ≤ y := hp
    exact ⟨rfl, _, by simp [binOp, Op.shift, show ¬ y < 0 by omega]; rfl, .pure (by constructor)⟩
  · subst hr
    have hp : 0 ≤ y := hp
    exact ⟨rfl, _, by simp [binOp, Op.shift, show ¬ y < 0 by omega]; rfl, .pure (by constructor)⟩
theorem und_boolT {P : Program} {t : Nat} (h : (P.underlying t).map TyK.of = some .bool) : P.underlying t = some .bool := by
  obtain ⟨d, hd, hk⟩ := und_of h
  cases d <;> simp [TyK.of] at hk
  exact hd
theorem boolOf_inv {p : PV} {b : Bool} {v : Value} (h : boolOf p = some b) (hr : Rel E w p v) : v = .bool b := by
  cases p <;> simp [boolOf] at h
  · subst h; exact hr.tt_inv
  · subst h; exact hr.ff_inv
  · subst h; exact hr.bool_inv
theorem boolOp_sound (hC : CtxOk P C) {op : BinOp} {t : Nat} {x y : Operand} {px py : PV} {vx vy : Value} (hx : Rel E w px vx) (hy : Rel E w py vy)
    (hp : (boolOp C t op px py).pre.getD True) :
    (boolOp C t op px py).upd = none ∧ ∃ v, (do eqGuard op t x y vx vy; binOp op t vx vy : Sem Value).run P w = .ok v w ∧ Rel E w (boolOp C t op px py).val v := by
  unfold boolOp at hp ⊢
  split at hp
  · rename_i p q _ _ _ _ h1 h2 h3
    obtain rfl := boolOf_inv h1 hx
    obtain rfl := boolOf_inv h2 hy
    have hdt := und_boolT (hC.types _ _ h3).desc
    have h5 : ∀ d, (Op.equalIn (d + 1) t (.bool p) (.bool q)).run P w = .ok (p == q) w := by
      intro d
      simp [Op.equalIn, run_und w hdt]
    have h5 : (Op.equalIn 10000 t (.bool p) (.bool q)).run P w = .ok (p == q) w := h5 9999
    cases op <;> first | exact hp.elim | skip
    · exact ⟨rfl, .bool (p == q), by simp [eqGuard, binOp, Op.equal, Op.maxDepth, h5], .pure (.bool _)⟩
    · exact ⟨rfl, .bool (p != q), by simp [eqGuard, binOp, Op.equal, Op.maxDepth, h5, bne], .pure (.bool _)⟩
  · exact hp.elim

theorem kindEq_eq {k k' : IntKind} (h : kindEq k k' = true) : k = k' := by cases k <;> cases k' <;> simp [kindEq] at h <;> rfl

theorem eqGuard_none {op : BinOp} {t : Nat} {x y : Operand} {k k' : IntKind} {m n : Int} : (eqGuard op t x y (.int k m) (.int k' n)).run P w = .ok () w := by
  cases op <;> simp [eqGuard]

theorem ints_of : ∀ {xs ys : List PV} {r : Bool}, eqCells xs ys = some r → (∀ p ∈ xs, ∃ k n, p = .int k n) ∧ (∀ p ∈ ys, ∃ k n, p = .int k n) ∧ xs.length = ys.length
  | [], [], _, _ => ⟨by simp, by simp, rfl⟩
  | x :: xs, [], _, h => by cases x <;> simp [eqCells] at h
  | [], y :: ys, _, h => by simp [eqCells] at h
  | x :: xs, y :: ys, r, h => by
    cases x <;> try (simp [eqCells] at h; done)
    cases y <;> try (simp [eqCells] at h; done)
    simp only [eqCells] at h
    rename_i k n k' n'
    cases hk : decide (k = k') with
    | false => rw [hk] at h; cases h
    | true =>
      rw [hk] at h
      cases hr : eqCells xs ys with
      | none => rw [hr] at h; cases h
      | some r' =>
        obtain ⟨h1, h2, h3⟩ := ints_of hr
        refine ⟨?_, ?_, by simp [h3]⟩
        · intro p hp
          rcases List.mem_cons.1 hp with rfl | hp
          · exact ⟨_, _, rfl⟩
          · exact h1 p hp
        · intro p hp
          rcases List.mem_cons.1 hp with rfl | hp
          · exact ⟨_, _, rfl⟩
          · exact h2 p hp
theorem row_ints {xs : List PV} {a : Array Value} (hs : a.size = xs.length) (h : ∀ i, i < xs.length → Rel E w (xs.getD i .junk) (a.getD i undef)) (hi : ∀ p ∈ xs, ∃ k n, p = .int k n) :
    a.toList = xs.map (fun | .int k n => .int k n | _ => undef) := by
  apply List.ext_getElem
  · simp [hs]
  · intro i h1 h2
    have hi1 : i < xs.length := by simpa using h2
    have := h i hi1
    obtain ⟨k, n, e⟩ := hi xs[i] (List.getElem_mem hi1)
    have e2 : xs.getD i .junk = xs[i] := by simp [List.getD, hi1]
    rw [e2, e] at this
    have := this.int_inv
    simp only [List.getElem_map, e, Array.getElem_toList]
    have h3 : i < a.size := by omega
    simpa [Array.getD, h3] using this

theorem binOp_sound (hC : CtxOk P C) {op : BinOp} {t u : Nat} {x y : Operand} {px py : PV} {vx vy : Value} (hx : Rel E w px vx) (hy : Rel E w py vy) {bl : Nat → Blk} {d ty : Nat} {e : Operand → PV} (ex : e x = px) (ey : e y = py)
    (hp : (evalOp C e bl d ty (.binOp op t x y u)).pre.getD True) :
    (evalOp C e bl d ty (.binOp op t x y u)).upd = none ∧
    ∃ v, (do eqGuard op t x y vx vy; binOp op t vx vy : Sem Value).run P w = .ok v w ∧ Rel E w (evalOp C e bl d ty (.binOp op t x y u)).val v := by
  simp only [evalOp, ex, ey] at hp ⊢
  split at hp
  · rename_i k m k' n
    cases hsh : shiftR op k m n with
    | some r =>
      rw [hsh] at hp
      simp only at hp ⊢
      obtain rfl := hx.int_inv
      obtain rfl := hy.int_inv
      obtain ⟨h1, v, h2, h3⟩ := shift_sound (P := P) (w := w) (E := E) (t := t) (k' := k') hsh hp
      exact ⟨h1, v, by simp [eqGuard_none, h2], h3⟩
    | none =>
    rw [hsh] at hp
    simp only at hp ⊢
    cases hk : kindEq k k' with
    | false => rw [hk] at hp; exact hp.elim
    | true =>
      rw [hk] at hp
      obtain rfl := kindEq_eq hk
      obtain rfl := hx.int_inv
      obtain rfl := hy.int_inv
      simp only [cond_true]
      obtain ⟨h1, v, h2, h3⟩ := arith_sound (P := P) (w := w) (E := E) (t := t) hp
      exact ⟨h1, v, by simp [eqGuard_none, h2], h3⟩
  · rename_i xs ys
    obtain ⟨a, rfl, ha, h1⟩ := hx.agg_inv
    obtain ⟨b, rfl, hb, h2⟩ := hy.agg_inv
    cases hl : look C.types t with
    | none => rw [hl] at hp; exact hp.elim
    | some ti =>
      simp only [hl] at hp ⊢
      cases hq : (ti.eq && Nat.beq xs.length ti.size) with
      | false => rw [hq] at hp; exact hp.elim
      | true =>
        rw [hq] at hp
        simp only [Bool.and_eq_true] at hq
        cases hr : eqCells xs ys with
        | none => rw [hr] at hp; exact hp.elim
        | some r =>
          simp only [hr, cond_true] at hp ⊢
          obtain ⟨i1, i2, _⟩ := ints_of hr
          obtain ⟨hrun, hgd⟩ := (hC.types t ti hl).eq hq.1 w xs ys a b r (Nat.eq_of_beq_eq_true hq.2) hr (row_ints ha h1 i1) (row_ints hb h2 i2)
          have hg : ∀ op', (eqGuard op' t x y (.agg a) (.agg b)).run P w = .ok () w := by
            intro op'
            cases op' <;> simp [eqGuard, hgd]
          cases op <;> first | exact hp.elim | skip
          · exact ⟨rfl, .bool r, by simp [hg, binOp, hrun], .pure (.bool r)⟩
          · exact ⟨rfl, .bool !r, by simp [hg, binOp, hrun], .pure (.bool !r)⟩
  · exact boolOp_sound hC hx hy hp

theorem cells_rel {p : PV} {v : Value} (h : Rel E w p v) (hj : p ≠ .junk) (hu : p ≠ .und) (ht : ∀ l, p ≠ .tup l) : v.cells.size = (cellsOf p).length ∧ ∀ i, i < (cellsOf p).length → Rel E w ((cellsOf p).getD i .junk) (v.cells.getD i undef) := by
  cases p with
  | agg cs => obtain ⟨a, rfl, hs, hh⟩ := h.agg_inv; exact ⟨hs, hh⟩
  | junk => exact (hj rfl).elim
  | und => exact (hu rfl).elim
  | tup l => exact (ht l rfl).elim
  | _ =>
    have hv : v.cells = #[v] := by
      cases h with
      | pure h => cases h <;> rfl
      | _ => rfl
    rw [hv]
    refine ⟨rfl, fun i hi => ?_⟩
    have : i = 0 := by simp [cellsOf] at hi; omega
    subst this
    exact h
theorem sc1_one {p : PV} {v : Value} (h : Rel E w p v) (hs : sc1 p = true) : v.oneCell' = true := by
  cases h with
  | pure h => cases h <;> first | rfl | (simp [sc1] at hs)
  | agg => simp [sc1] at hs
  | tup => simp [sc1] at hs
  | _ => rfl

theorem getD_take_drop {l : List PV} {o n i : Nat} (hi : i < n) : ((l.drop o).take n).getD i .junk = l.getD (o + i) .junk := by
  simp [List.getD, hi, List.getElem?_drop]

theorem add_none (b o j : Nat) : (Addr.add ⟨b, o, none⟩ j) = ⟨b, o + j, none⟩ := by unfold Addr.add; split <;> simp_all

theorem getD_ofList (f : Nat → Value) (n i : Nat) (h : i < n) : (((List.range n).map f).toArray).getD i undef = f i := by
  simp [Array.getD, h]

theorem load_sound {t : Nat} {ti : TI} (ht : TIok P t ti) {b o : Nat} {cs : List PV} {c : Nat → Value} (hl : cs.length = ti.size) (h1 : ∀ j, j < ti.size → w.cell? ⟨b, o + j, none⟩ = some (c j)) (h2 : ∀ j, j < ti.size → Rel E w (cs.getD j .junk) (c j)) :
    ∃ v, (Instr.loadAt t (.pointer (some ⟨b, o, none⟩))).run P w = .ok v w ∧ Rel E w (unc ti.agg cs) v := by
  simp only [Instr.loadAt, Instr.sureAddr, loadVar, pure_bind, Sem.run_bind, ht.run_agg, Result.andThen_ok]
  cases hag : ti.agg with
  | true =>
    have := run_loadCells (P := P) (w := w) ⟨b, o, none⟩ ti.size c (fun j hj => by rw [add_none]; exact h1 j hj)
    refine ⟨.agg ((List.range ti.size).map c).toArray, by simp [ht.run_size, this], ?_⟩
    refine .agg _ _ (by simp [hl]) fun i hi => ?_
    rw [hl] at hi
    rw [getD_ofList c _ _ hi]
    exact h2 i hi
  | false =>
    have hs := ht.one hag
    refine ⟨c 0, ?_, ?_⟩
    · have := h1 0 (by omega)
      simp at this
      simp [this]
    · have := h2 0 (by omega)
      match cs, hl with
      | x :: _, _ => simpa [unc, List.getD] using this
      | [], hl => simp at hl; omega

def ValOk (P : Program) (E : Env) (w : World) (r : R) (s : Sem Next) : Prop := r.upd = none ∧ ∃ v, s.run P w = .ok (.value v) w ∧ Rel E w r.val v

variable (hC : CtxOk P C) (hS : SR E base w0 st a w) {d ty : Nat} {o : Oper}
include hS

theorem v_move {x : Operand} (ho : o.op = .move x) : ValOk P E w (evalOp C (V.ev st.slots) st.blocks d ty o.op) (execOp a.eval o) := by
  simp only [ho, evalOp]
  exact ⟨rfl, a.eval x, by simp [execOp, ho], hS.ev x⟩

theorem v_assign {x : Operand} (ho : o.op = .assign x) (hx : nilConst x = false) : ValOk P E w (evalOp C (V.ev st.slots) st.blocks d ty o.op) (execOp a.eval o) := by
  simp only [ho, evalOp, hx, cond_false]
  exact ⟨rfl, a.eval x, by simp [execOp, ho], hS.ev x⟩

theorem v_pick {c x y : Operand} (ho : o.op = .pick c x y) (hp : (evalOp C (V.ev st.slots) st.blocks d ty o.op).pre.getD True) :
    ValOk P E w (evalOp C (V.ev st.slots) st.blocks d ty o.op) (execOp a.eval o) := by
  have hc := hS.ev c
  have hx := hS.ev x
  have hy := hS.ev y
  simp only [ho, evalOp] at hp ⊢
  cases h : V.ev st.slots c with
  | tt => rw [h] at hc; have e := hc.tt_inv; exact ⟨rfl, a.eval x, by simp [execOp, ho, e, asBool], hx⟩
  | ff => rw [h] at hc; have e := hc.ff_inv; exact ⟨rfl, a.eval y, by simp [execOp, ho, e, asBool], hy⟩
  | bool b =>
    rw [h] at hc
    have e := hc.bool_inv
    simp only [h] at hp ⊢
    cases h1 : boolOf (V.ev st.slots x) with
    | none =>
      cases h2 : boolOf (V.ev st.slots y) with
      | none => rw [h1, h2] at hp; exact hp.elim
      | some q =>
        simp only [h1, h2, Option.getD_some] at hp ⊢
        subst hp
        have e2 := Rel.boolOf_inv h2 hy
        exact ⟨rfl, .bool q, by simp [execOp, ho, e, e2, asBool], .pure (.bool _)⟩
    | some p =>
      cases h2 : boolOf (V.ev st.slots y) with
      | none =>
        simp only [h1, h2, Option.getD_some] at hp ⊢
        subst hp
        have e1 := Rel.boolOf_inv h1 hx
        exact ⟨rfl, .bool p, by simp [execOp, ho, e, e1, asBool], .pure (.bool _)⟩
      | some q =>
        have e1 := Rel.boolOf_inv h1 hx
        have e2 := Rel.boolOf_inv h2 hy
        refine ⟨rfl, .bool (cond b p q), ?_, .pure (.bool _)⟩
        cases b <;> simp [execOp, ho, e, e1, e2, asBool]
  | _ => rw [h] at hp; exact hp.elim

theorem v_nilCheck {x : Operand} (ho : o.op = .nilCheck x) (hp : (evalOp C (V.ev st.slots) st.blocks d ty o.op).pre.getD True) :
    ValOk P E w (evalOp C (V.ev st.slots) st.blocks d ty o.op) (execOp a.eval o) := by
  have hx := hS.ev x
  simp only [ho, evalOp] at hp ⊢
  cases h : V.ev st.slots x with
  | ptr s off => rw [h] at hx; obtain ⟨b, sz, _, e⟩ := hx.ptr_inv; exact ⟨rfl, a.eval x, by simp [execOp, ho, e], hx⟩
  | eptr s i off => rw [h] at hx; obtain ⟨b, sz, _, e⟩ := hx.eptr_inv; exact ⟨rfl, a.eval x, by simp [execOp, ho, e], hx⟩
  | cptr cs => rw [h] at hx; obtain ⟨b, o', c, e, _⟩ := hx.cptr_inv; exact ⟨rfl, a.eval x, by simp [execOp, ho, e], hx⟩
  | fn f xs ys =>
    rw [h] at hx
    obtain ⟨p, q, e, _⟩ := hx.fn_inv
    cases f with
    | func f => exact ⟨rfl, a.eval x, by simp [execOp, ho, e], hx⟩
    | _ => rw [h] at hp; exact hp.elim
  | _ => rw [h] at hp; exact hp.elim

theorem v_unOp {u : UnOp} {t : Nat} {x : Operand} (ho : o.op = .unOp u t x) (hp : (evalOp C (V.ev st.slots) st.blocks d ty o.op).pre.getD True) :
    ValOk P E w (evalOp C (V.ev st.slots) st.blocks d ty o.op) (execOp a.eval o) := by
  have hx := hS.ev x
  simp only [ho] at hp ⊢
  cases u with
  | not =>
    simp only [evalOp] at hp ⊢
    cases h : V.ev st.slots x with
    | tt => rw [h] at hx; have e := hx.tt_inv; exact ⟨rfl, .bool false, by simp [execOp, ho, e, Op.unary], .pure .ff⟩
    | ff => rw [h] at hx; have e := hx.ff_inv; exact ⟨rfl, .bool true, by simp [execOp, ho, e, Op.unary], .pure .tt⟩
    | bool b => rw [h] at hx; have e := hx.bool_inv; exact ⟨rfl, .bool !b, by simp [execOp, ho, e, Op.unary], .pure (.bool _)⟩
    | _ => rw [h] at hp; exact hp.elim
  | neg =>
    simp only [evalOp] at hp ⊢
    cases h : V.ev st.slots x with
    | int k n => rw [h] at hx; have e := hx.int_inv; exact ⟨rfl, _, by simp [execOp, ho, e, Op.unary, Op.intArith]; rfl, .pure (by simpa [R.ok] using RelP.int k (k.wrap (-n)))⟩
    | _ => rw [h] at hp; exact hp.elim
  | _ => simp [evalOp, R.bad] at hp

theorem v_makeFunc {f : Fn} {xs ys : Array Operand} (ho : o.op = .makeFunc f xs ys) : ValOk P E w (evalOp C (V.ev st.slots) st.blocks d ty o.op) (execOp a.eval o) := by
  simp only [ho, evalOp]
  refine ⟨rfl, .func f (xs.map a.eval) (ys.map a.eval), by simp [execOp, ho, Instr.makeFunc], ?_⟩
  refine .fn _ _ _ _ _ (by simp) (by simp) ?_ ?_ <;>
  · intro i hi
    simp at hi
    simpa [List.getD, Array.getD, hi] using hS.ev _

theorem v_extract {x : Operand} {i : Nat} (ho : o.op = .extract x i) (hp : (evalOp C (V.ev st.slots) st.blocks d ty o.op).pre.getD True) :
    ValOk P E w (evalOp C (V.ev st.slots) st.blocks d ty o.op) (execOp a.eval o) := by
  have hx := hS.ev x
  simp only [ho, evalOp] at hp ⊢
  cases h : V.ev st.slots x with
  | tup vs =>
    rw [h] at hx
    obtain ⟨p, e, hs, hh⟩ := hx.tup_inv
    simp only [h] at hp ⊢
    cases hv : vs[i]? with
    | none => rw [hv] at hp; exact hp.elim
    | some v =>
      obtain ⟨hi, hvi⟩ := List.getElem?_eq_some_iff.1 hv
      have := hh i hi
      have e2 : vs.getD i .junk = v := by simp [List.getD, hv]
      have hi' : i < p.size := by omega
      rw [e2] at this
      simp only [Array.getD, hi', dif_pos] at this
      exact ⟨rfl, p[i], by simp [execOp, ho, e, Instr.extract, hi'], this⟩
  | _ => rw [h] at hp; exact hp.elim

include hC
theorem v_binOp {op : BinOp} {t u : Nat} {x y : Operand} (ho : o.op = .binOp op t x y u) (hp : (evalOp C (V.ev st.slots) st.blocks d ty o.op).pre.getD True) :
    ValOk P E w (evalOp C (V.ev st.slots) st.blocks d ty o.op) (execOp a.eval o) := by
  rw [ho] at hp ⊢
  obtain ⟨h1, v, h2, h3⟩ := binOp_sound (P := P) hC (hS.ev x) (hS.ev y) (bl := st.blocks) (d := d) (ty := ty) (e := V.ev st.slots) rfl rfl hp
  refine ⟨h1, v, ?_, h3⟩
  simp only [execOp, ho]
  simp only [Sem.run_bind] at h2 ⊢
  simp [h2]

omit hC hS in
theorem tab_spec (get : Nat → PV) : ∀ (n : Nat) (r : List PV), (tab get n r).length = n + r.length ∧ (∀ i, i < n → (tab get n r).getD i .junk = get i) ∧ ∀ i, (tab get n r).getD (n + i) .junk = r.getD i .junk
  | 0, r => ⟨by simp [tab], fun i hi => by omega, fun i => by simp [tab]⟩
  | n + 1, r => by
    obtain ⟨h1, h2, h3⟩ := tab_spec get n (get n :: r)
    refine ⟨by show (tab get n _).length = _; rw [h1]; simp; omega, fun i hi => ?_, fun i => ?_⟩
    · show (tab get n _).getD i .junk = _
      by_cases hin : i < n
      · exact h2 i hin
      · obtain rfl : i = n := by omega
        have := h3 0
        simpa using this
    · show (tab get n _).getD _ .junk = _
      have := h3 (i + 1)
      have e : n + 1 + i = n + (i + 1) := by omega
      rw [e, this]
      simp
omit hC hS in
theorem tab_len (get : Nat → PV) (n : Nat) (_r : List PV) : (tab get n []).length = n := by have := (tab_spec get n []).1; simpa using this
omit hC hS in
theorem tab_getD (get : Nat → PV) {n i : Nat} (h : i < n) : (tab get n []).getD i .junk = get i := (tab_spec get n []).2.1 i h
theorem v_load {t : Nat} {x : Operand} (ho : o.op = .load t x) (hp : (evalOp C (V.ev st.slots) st.blocks d ty o.op).pre.getD True) :
    ValOk P E w (evalOp C (V.ev st.slots) st.blocks d ty o.op) (execOp a.eval o) := by
  have hx := hS.ev x
  simp only [ho, evalOp] at hp ⊢
  cases hl : look C.types t with
  | none => rw [hl] at hp; exact hp.elim
  | some ti =>
    have ht := hC.types t ti hl
    simp only [hl] at hp ⊢
    have fin : ∀ {b o' : Nat} {cs : List PV} {c : Nat → Value}, a.eval x = .pointer (some ⟨b, o', none⟩) → cs.length = ti.size → (∀ j, j < ti.size → w.cell? ⟨b, o' + j, none⟩ = some (c j)) → (∀ j, j < ti.size → Rel E w (cs.getD j .junk) (c j)) →
        ∃ v, (execOp a.eval o).run P w = .ok (.value v) w ∧ Rel E w (unc ti.agg cs) v := by
      intro b o' cs c e h0 h1 h2
      obtain ⟨v, hv, hr⟩ := load_sound ht h0 h1 h2
      exact ⟨v, by simp [execOp, ho, e, hv], hr⟩
    cases h : V.ev st.slots x with
    | ptr s off =>
      rw [h] at hx
      obtain ⟨b, sz, hρ, e⟩ := hx.ptr_inv
      simp only [h] at hp ⊢
      have hb := hS.blk s
      cases hbl : st.blocks s with
      | cells l =>
        simp only [hbl] at hp ⊢
        rw [hbl] at hb
        obtain ⟨_, b', arr, el, hρ', _, hh, hsz, hr⟩ := hb
        rw [hρ] at hρ'
        simp only [Option.some.injEq, Prod.mk.injEq] at hρ'
        obtain ⟨rfl, _⟩ := hρ'
        cases hle : Nat.ble (off + ti.size) l.length with
        | false => rw [hle] at hp; exact hp.elim
        | true =>
          simp only [cond_true]
          have hle' := Nat.le_of_ble_eq_true hle
          obtain ⟨v, h1, h2⟩ := fin (cs := (l.drop off).take ti.size) (c := fun j => arr.getD (off + j) undef) e (by simp; omega)
            (fun j hj => by simp [World.cell?, hh, show off + j < arr.size by omega]) (fun j hj => by rw [getD_take_drop hj]; exact hr _ (by omega))
          exact ⟨rfl, v, h1, h2⟩
      | arrv len get =>
        simp only [hbl] at hp ⊢
        rw [hbl] at hb
        obtain ⟨_, b', arr, el, hρ', _, hh, hsz, hr⟩ := hb
        rw [hρ] at hρ'
        simp only [Option.some.injEq, Prod.mk.injEq] at hρ'
        obtain ⟨rfl, _⟩ := hρ'
        cases hag : ti.agg with
        | true =>
          rw [hag] at hp
          simp only [cond_true] at hp ⊢
          cases hq : (Nat.beq off 0 && Nat.beq ti.size len) with
          | false => rw [hq] at hp; exact hp.elim
          | true =>
            simp only [Bool.and_eq_true] at hq
            obtain rfl := Nat.eq_of_beq_eq_true hq.1
            obtain rfl := Nat.eq_of_beq_eq_true hq.2
            simp only [cond_true]
            obtain ⟨v, h1, h2⟩ := fin (cs := tab get ti.size []) (c := fun j => arr.getD (0 + j) undef) e (tab_len get _ [])
              (fun j hj => by simp [World.cell?, hh, show j < arr.size by omega]) (fun j hj => by rw [tab_getD get hj, Nat.zero_add]; exact .pure (hr _ (by omega)))
            rw [hag] at h2
            exact ⟨rfl, v, h1, h2⟩
        | false =>
          rw [hag] at hp
          simp only [cond_false] at hp ⊢
          cases hq : Nat.beq ti.size 1 with
          | false => rw [hq] at hp; exact hp.elim
          | true =>
            rw [hq] at hp
            simp only [cond_true, Option.getD_some] at hp ⊢
            have q1 := Nat.eq_of_beq_eq_true hq
            obtain ⟨v, h1, h2⟩ := fin (cs := [get off]) (c := fun j => arr.getD (off + j) undef) e (by simp [q1])
              (fun j hj => by
                obtain rfl : j = 0 := by omega
                simp [World.cell?, hh, show off < arr.size by omega]) (fun j hj => by
                obtain rfl : j = 0 := by omega
                exact .pure (hr _ hp))
            rw [hag] at h2
            exact ⟨rfl, v, h1, h2⟩
      | _ => rw [hbl] at hp; exact hp.elim
    | cptr cs =>
      rw [h] at hx
      obtain ⟨b, o', c, e, h1, h2⟩ := hx.cptr_inv
      simp only [h] at hp ⊢
      cases hle : Nat.ble ti.size cs.length with
      | false => rw [hle] at hp; exact hp.elim
      | true =>
        simp only [cond_true]
        have hle' := Nat.le_of_ble_eq_true hle
        obtain ⟨v, h1, h2⟩ := fin (cs := cs.take ti.size) (c := c) e (by simp; omega) (fun j hj => (h1 j (by omega)).2)
          (fun j hj => by have := h2 j (by omega); simpa [List.getD, hj] using Rel.pure (E := E) this)
        exact ⟨rfl, v, h1, h2⟩
    | eptr s i off =>
      rw [h] at hx
      obtain ⟨b, sz, hρ, e⟩ := hx.eptr_inv
      simp only [h] at hp ⊢
      have hb := hS.blk s
      cases hbl : st.blocks s with
      | arr len sz' get =>
        simp only [hbl] at hp ⊢
        rw [hbl] at hb
        obtain ⟨_, b', arr, el, hρ', _, hh, hsz, hr⟩ := hb
        rw [hρ] at hρ'
        simp only [Option.some.injEq, Prod.mk.injEq] at hρ'
        obtain ⟨rfl, rfl⟩ := hρ'
        simp only [Option.getD_some] at hp
        obtain ⟨hi, hle⟩ := hp
        obtain ⟨hg, hr⟩ := hr i hi
        have hbound : i * sz + sz ≤ arr.size := Nat.le_trans (by rw [← Nat.succ_mul]; exact Nat.mul_le_mul_right _ hi) hsz
        obtain ⟨v, h1, h2⟩ := fin (cs := ((get i).drop off).take ti.size) (c := fun j => arr.getD (i * sz + off + j) undef) e (by simp; omega)
            (fun j hj => by simp [World.cell?, hh, show i * sz + off + j < arr.size by omega]) (fun j hj => by rw [getD_take_drop hj, Nat.add_assoc]; exact .pure (hr _ (by omega)))
        exact ⟨rfl, v, h1, h2⟩
      | arrx len get i' v' =>
        simp only [hbl] at hp ⊢
        rw [hbl] at hb
        obtain ⟨_, b', arr, el, hρ', _, hh, hsz, hlt, hr, hv⟩ := hb
        rw [hρ] at hρ'
        simp only [Option.some.injEq, Prod.mk.injEq] at hρ'
        obtain ⟨rfl, rfl⟩ := hρ'
        cases hq : (Nat.beq ti.size 1 && (Nat.beq off 0 && !ti.agg)) with
        | false => rw [hq] at hp; exact hp.elim
        | true =>
          rw [hq] at hp
          simp only [Bool.and_eq_true, Bool.not_eq_true'] at hq
          obtain ⟨q1, q2, q3⟩ := hq
          have q1 := Nat.eq_of_beq_eq_true q1
          obtain rfl := Nat.eq_of_beq_eq_true q2
          simp only [cond_true, Option.getD_some] at hp ⊢
          subst hp
          obtain ⟨v, h1, h2⟩ := fin (cs := [v']) (c := fun _ => arr.getD i undef) e (by simp [q1])
              (fun j hj => by
                have : j = 0 := by omega
                subst this
                simp [World.cell?, hh, show i < arr.size by omega]) (fun j hj => by
                have : j = 0 := by omega
                subst this
                exact hv)
          rw [q3] at h2
          exact ⟨rfl, v, h1, h2⟩
      | _ => rw [hbl] at hp; exact hp.elim
    | _ => rw [h] at hp; exact hp.elim

theorem v_convert {u t : Nat} {x : Operand} (ho : o.op = .convert u t x) (hp : (evalOp C (V.ev st.slots) st.blocks d ty o.op).pre.getD True) :
    ValOk P E w (evalOp C (V.ev st.slots) st.blocks d ty o.op) (execOp a.eval o) := by
  have hx := hS.ev x
  simp only [ho, evalOp] at hp ⊢
  cases h1 : look C.types u with
  | none => rw [h1] at hp; exact hp.elim
  | some tu =>
    cases h2 : look C.types t with
    | none => rw [h1, h2] at hp; exact hp.elim
    | some ti =>
      obtain ⟨tk, sz, by', z, q⟩ := ti
      cases tk with
      | scalar ok =>
        cases ok with
        | none => rw [h1, h2] at hp; exact hp.elim
        | some k =>
          cases h3 : V.ev st.slots x with
          | int k' n =>
            rw [h3] at hx
            have e := hx.int_inv
            obtain ⟨du, hdu, _⟩ := und_of (hC.types _ _ h1).desc
            have hdt := und_int (hC.types _ _ h2).desc
            refine ⟨rfl, _, ?_, .pure (.int k (k.wrap n))⟩
            simp [execOp, ho, e, convert, run_und w hdu, run_und w hdt, Conv.intToInt]
          | _ => rw [h1, h2, h3] at hp; exact hp.elim
      | _ => rw [h1, h2] at hp; exact hp.elim

omit hC hS in
theorem addr_lit (b o' : Nat) (f : Field) {t' : Nat} {te : TI} (hf : f.type = t') (ht : TIok P t' te) (h1 : Nat.ble 1 te.size = true) :
    (fieldPlace ⟨b, o', none⟩ f).run P w = .ok ⟨b, o' + f.offset, none⟩ w := by
  have := Nat.le_of_ble_eq_true h1
  simp [fieldPlace, hf, ht.run_size, show te.size ≠ 0 by omega, add_none]

theorem v_fieldAddr {t i : Nat} {x : Operand} (ho : o.op = .fieldAddr t x i) (hp : (evalOp C (V.ev st.slots) st.blocks d ty o.op).pre.getD True) :
    ValOk P E w (evalOp C (V.ev st.slots) st.blocks d ty o.op) (execOp a.eval o) := by
  have hx := hS.ev x
  simp only [ho, evalOp] at hp ⊢
  split at hp
  · rename_i fl _ _ _ _ h1
    obtain ⟨fs, hfs, hfl⟩ := und_struct (hC.types _ _ h1).desc
    cases hi : fl[i]? with
    | none => rw [hi] at hp; exact hp.elim
    | some ot =>
      obtain ⟨o', t'⟩ := ot
      simp only [hi] at hp ⊢
      have hfi : ∃ f, fs[i]? = some f ∧ f.offset = o' ∧ f.type = t' := by
        rw [← hfl] at hi
        simp only [List.getElem?_map, Option.map_eq_some_iff] at hi
        obtain ⟨f, hf, hx⟩ := hi
        simp only [Prod.mk.injEq] at hx
        exact ⟨f, by simpa using hf, hx.1, hx.2⟩
      obtain ⟨f, hf, rfl, hft⟩ := hfi
      cases hl : look C.types t' with
      | none => rw [hl] at hp; exact hp.elim
      | some te =>
        simp only [hl] at hp ⊢
        cases h2 : Nat.ble 1 te.size with
        | false => rw [h2] at hp; exact hp.elim
        | true =>
          simp only [h2, cond_true] at hp ⊢
          have key : ∀ b o', a.eval x = .pointer (some ⟨b, o', none⟩) → (execOp a.eval o).run P w = .ok (.value (.pointer (some ⟨b, o' + f.offset, none⟩))) w := by
            intro b o' e
            simp [execOp, ho, e, Instr.fieldAt, run_und w hfs, hf, Instr.sureAddr, addr_lit b o' f hft (hC.types _ _ hl) h2]
          cases h : V.ev st.slots x with
          | ptr s off => rw [h] at hx; obtain ⟨b, sz, hρ, e⟩ := hx.ptr_inv; exact ⟨rfl, _, key _ _ e, .ptr s _ b sz hρ⟩
          | eptr s j off =>
            rw [h] at hx; obtain ⟨b, sz, hρ, e⟩ := hx.eptr_inv
            exact ⟨rfl, _, key _ _ e, by rw [Nat.add_assoc]; exact .eptr s j _ b sz hρ⟩
          | cptr cs =>
            rw [h] at hx; obtain ⟨b, o', c, e, g1, g2⟩ := hx.cptr_inv
            simp only [h] at hp ⊢
            cases hle : Nat.ble f.offset cs.length with
            | false => rw [hle] at hp; exact hp.elim
            | true =>
              have hle' := Nat.le_of_ble_eq_true hle
              simp only [cond_true]
              refine ⟨rfl, _, key _ _ e, .pure (.cptr _ b _ (fun j => c (f.offset + j)) ?_ ?_)⟩
              · intro j hj
                simp at hj
                have := g1 (f.offset + j) (by omega)
                rwa [← Nat.add_assoc] at this
              · intro j hj
                simp at hj
                have := g2 (f.offset + j) (by omega)
                simpa [List.getD, List.getElem?_drop] using this
          | _ => rw [h] at hp; exact hp.elim
  · exact hp.elim

theorem v_field {t i : Nat} {x : Operand} (ho : o.op = .field t x i) (hp : (evalOp C (V.ev st.slots) st.blocks d ty o.op).pre.getD True) :
    ValOk P E w (evalOp C (V.ev st.slots) st.blocks d ty o.op) (execOp a.eval o) := by
  have hx := hS.ev x
  simp only [ho, evalOp] at hp ⊢
  split at hp
  · rename_i fl _ _ _ _ h1
    obtain ⟨fs, hfs, hfl⟩ := und_struct (hC.types _ _ h1).desc
    cases hi : fl[i]? with
    | none => rw [hi] at hp; exact hp.elim
    | some ot =>
      obtain ⟨o', t'⟩ := ot
      simp only [hi] at hp ⊢
      have hfi : ∃ f, fs[i]? = some f ∧ f.offset = o' ∧ f.type = t' := by
        rw [← hfl] at hi
        simp only [List.getElem?_map, Option.map_eq_some_iff] at hi
        obtain ⟨f, hf, hx⟩ := hi
        simp only [Prod.mk.injEq] at hx
        exact ⟨f, by simpa using hf, hx.1, hx.2⟩
      obtain ⟨f, hf, rfl, rfl⟩ := hfi
      cases h : V.ev st.slots x with
      | agg cs =>
        rw [h] at hx
        obtain ⟨p, e, hs, hh⟩ := hx.agg_inv
        simp only [h] at hp ⊢
        cases hl : look C.types f.type with
        | none => rw [hl] at hp; exact hp.elim
        | some te =>
          simp only [hl] at hp ⊢
          have ht := hC.types _ _ hl
          cases hle : Nat.ble (f.offset + te.size) cs.length with
          | false => rw [hle] at hp; exact hp.elim
          | true =>
            have hle' := Nat.le_of_ble_eq_true hle
            simp only [cond_true]
            cases hag : te.agg with
            | true =>
              refine ⟨rfl, .agg (p.extract f.offset (f.offset + te.size)), ?_, ?_⟩
              · simp [execOp, ho, e, Instr.field, run_und w hfs, hf, asAgg, part, ht.run_agg, hag, ht.run_size]
              · refine .agg _ _ (by simp; omega) fun j hj => ?_
                simp at hj
                rw [getD_take_drop (by omega)]
                have := hh (f.offset + j) (by omega)
                have e2 : (p.extract f.offset (f.offset + te.size)).getD j undef = p.getD (f.offset + j) undef := by
                  simp [Array.getD, show f.offset + j < p.size by omega, show j < min (f.offset + te.size) p.size - f.offset by omega]
                rwa [e2]
            | false =>
              have h1s := ht.one hag
              refine ⟨rfl, p.getD f.offset undef, ?_, ?_⟩
              · simp [execOp, ho, e, Instr.field, run_und w hfs, hf, asAgg, part, ht.run_agg, hag, show f.offset < p.size by omega, Array.getD]
              · have := hh f.offset (by omega)
                have e2 : ((cs.drop f.offset).take te.size).headD .junk = cs.getD f.offset .junk := by
                  rw [h1s]
                  simp [List.getD, List.head?_take, List.head?_drop, List.headD_eq_head?_getD]
                simp only [unc, cond_false, e2]
                exact this
      | _ => rw [h] at hp; exact hp.elim
  · exact hp.elim

theorem v_index {t : Nat} {x i : Operand} (ho : o.op = .index t x i) (hp : (evalOp C (V.ev st.slots) st.blocks d ty o.op).pre.getD True) :
    ValOk P E w (evalOp C (V.ev st.slots) st.blocks d ty o.op) (execOp a.eval o) := by
  have hx := hS.ev x
  have hi := hS.ev i
  simp only [ho, evalOp] at hp ⊢
  split at hp
  · rename_i m el _ _ _ _ k n cs h1 h2 h3
    rw [h2] at hi
    rw [h3] at hx
    have e1 := hi.int_inv
    obtain ⟨p, e, hs, hh⟩ := hx.agg_inv
    have hd := und_array (hC.types _ _ h1).desc
    cases hl : look C.types el with
    | none => rw [hl] at hp; exact hp.elim
    | some te =>
      simp only [hl] at hp ⊢
      have ht := hC.types _ _ hl
      obtain ⟨g1, g2, g3⟩ := hp
      cases hag : te.agg with
      | true =>
        refine ⟨rfl, .agg (p.extract (n.toNat * te.size) (n.toNat * te.size + te.size)), ?_, ?_⟩
        · simp [execOp, ho, e, e1, Instr.index, asIntOf, run_und w hd, g1, g2, part, ht.run_agg, hag, ht.run_size]
        · refine .agg _ _ (by simp; omega) fun j hj => ?_
          simp at hj
          rw [getD_take_drop (by omega)]
          have := hh (n.toNat * te.size + j) (by omega)
          have e2 : (p.extract (n.toNat * te.size) (n.toNat * te.size + te.size)).getD j undef = p.getD (n.toNat * te.size + j) undef := by
            simp [Array.getD, show n.toNat * te.size + j < p.size by omega, show j < min (n.toNat * te.size + te.size) p.size - n.toNat * te.size by omega]
          rwa [e2]
      | false =>
        have h1s := ht.one hag
        refine ⟨rfl, p.getD (n.toNat * te.size) undef, ?_, ?_⟩
        · simp [execOp, ho, e, e1, Instr.index, asIntOf, run_und w hd, g1, g2, part, ht.run_agg, hag, ht.run_size, show n.toNat * te.size < p.size by omega, Array.getD]
        · have := hh (n.toNat * te.size) (by omega)
          have e2 : ((cs.drop (n.toNat * te.size)).take te.size).headD .junk = cs.getD (n.toNat * te.size) .junk := by
            rw [h1s]
            simp [List.getD, List.head?_take, List.head?_drop, List.headD_eq_head?_getD]
          simp only [unc, cond_false, e2]
          exact this
  · exact hp.elim

theorem v_indexAddr {t : Nat} {x i : Operand} (ho : o.op = .indexAddr t x i) (hp : (evalOp C (V.ev st.slots) st.blocks d ty o.op).pre.getD True) :
    ValOk P E w (evalOp C (V.ev st.slots) st.blocks d ty o.op) (execOp a.eval o) := by
  have hx := hS.ev x
  have hi := hS.ev i
  simp only [ho, evalOp] at hp ⊢
  split at hp
  · rename_i el _ _ _ _ k n h1 h2
    rw [h2] at hi
    have e1 := hi.int_inv
    have hd := und_slice (hC.types _ _ h1).desc
    split at hp
    · rename_i _ _ te tag len get h3 h4
      rw [h4] at hx
      have ht := hC.types _ _ h3
      obtain ⟨g1, g2, g3⟩ := hp
      obtain ⟨ad, cap, e, hr⟩ := hx.slice_inv
      rw [e] at hr
      cases hr with
      | slice _ _ _ _ b o' sz c hc ha hn hl q1 q2 =>
        have hn' : n.toNat < len := by omega
        obtain rfl := ha (by omega)
        have hsz := hl _ hn'
        rw [g3] at hsz
        subst hsz
        refine ⟨rfl, .pointer (some ⟨b, o' + n.toNat * te.size, none⟩), ?_, .pure (.cptr _ b _ (c n.toNat) ?_ ?_)⟩
        · simp [execOp, ho, e, e1, Instr.indexAt, asIntOf, run_und w hd, g1, g2, ht.run_size, add_none]
        · intro j hj
          exact q1 _ hn' j (by omega)
        · intro j hj
          exact q2 _ hn' j (by omega)
    · rename_i _ _ te s len h3 h4
      rw [h4] at hx
      have ht := hC.types _ _ h3
      obtain ⟨b, sz, cap, hρ, hcap, e⟩ := hx.own_inv
      have hb := hS.blk s
      cases hbl : st.blocks s with
      | arr len' sz' get =>
        simp only [hbl] at hp ⊢
        rw [hbl] at hb
        obtain ⟨_, b', arr, el', hρ', _, _⟩ := hb
        rw [hρ] at hρ'
        simp only [Option.some.injEq, Prod.mk.injEq] at hρ'
        obtain ⟨rfl, rfl⟩ := hρ'
        cases hq : Nat.beq sz te.size with
        | false => rw [hq] at hp; exact hp.elim
        | true =>
          rw [hq] at hp
          obtain rfl := Nat.eq_of_beq_eq_true hq
          simp only [cond_true]
          obtain ⟨g1, g2, g3⟩ := hp
          refine ⟨rfl, .pointer (some ⟨b, n.toNat * te.size + 0, none⟩), ?_, .eptr s _ 0 b te.size hρ⟩
          simp [execOp, ho, e, e1, Instr.indexAt, asIntOf, run_und w hd, g1, g2, ht.run_size, add_none]
      | arrx len' get' i' v' =>
        simp only [hbl] at hp ⊢
        rw [hbl] at hb
        obtain ⟨_, b', arr, el', hρ', _, _⟩ := hb
        rw [hρ] at hρ'
        simp only [Option.some.injEq, Prod.mk.injEq] at hρ'
        obtain ⟨rfl, rfl⟩ := hρ'
        cases hq : Nat.beq 1 te.size with
        | false => rw [hq] at hp; exact hp.elim
        | true =>
          rw [hq] at hp
          have hq1 := Nat.eq_of_beq_eq_true hq
          simp only [cond_true]
          obtain ⟨g1, g2, g3⟩ := hp
          refine ⟨rfl, .pointer (some ⟨b, n.toNat * te.size + 0, none⟩), ?_, by have := Rel.eptr (E := E) (w := w) s n.toNat 0 b 1 hρ; rw [← hq1]; exact this⟩
          simp [execOp, ho, e, e1, Instr.indexAt, asIntOf, run_und w hd, g1, g2, ht.run_size, add_none]
      | _ => rw [hbl] at hp; exact hp.elim
    · exact hp.elim
  · rename_i m el _ _ _ _ k n h1 h2
    rw [h2] at hi
    have e1 := hi.int_inv
    have hd := und_array (hC.types _ _ h1).desc
    split at hp
    · rename_i _ _ te s off h3 h4
      rw [h4] at hx
      have ht := hC.types _ _ h3
      obtain ⟨g1, g2⟩ := hp
      obtain ⟨b, sz, hρ, e⟩ := hx.ptr_inv
      refine ⟨rfl, .pointer (some ⟨b, off + n.toNat * te.size, none⟩), ?_, .ptr s _ b sz hρ⟩
      simp [execOp, ho, e, e1, Instr.indexAt, Instr.sureAddr, asIntOf, run_und w hd, g1, g2, ht.run_size, add_none]
    · exact hp.elim
  · exact hp.elim

theorem v_slice {t : Nat} {x : Operand} {lo hi mx : Option Operand} (ho : o.op = .slice t x lo hi mx) (hp : (evalOp C (V.ev st.slots) st.blocks d ty o.op).pre.getD True) :
    ValOk P E w (evalOp C (V.ev st.slots) st.blocks d ty o.op) (execOp a.eval o) := by
  have hx := hS.ev x
  cases mx with
  | some m => simp only [ho, evalOp] at hp; exact hp.elim
  | none =>
  simp only [ho, evalOp] at hp ⊢
  split at hp
  · rename_i el _ _ _ _ h1
    have hd := und_slice (hC.types _ _ h1).desc
    split at hp
    · rename_i _ _ te tag len get h2 h
      have ht := hC.types _ _ h2
      rw [h] at hx
      obtain ⟨ad, cap, e, hr⟩ := hx.slice_inv
      rw [e] at hr
      cases hr with
      | slice _ _ _ _ b o' sz c hc ha hn hl q1 q2 =>
      have lo0 : ∀ (l : Nat) (hh : Nat), l ≤ hh → hh ≤ len → (l = 0 ∨ ∀ i, i < len → (get i).length = te.size) →
          RelP E.σ w (.slice none (hh - l) fun i => get (i + l)) (.slice (if cap = l then ad else ad.map (·.add (l * te.size))) (hh - l) (cap - l)) := by
        intro l hh h1 h2 h3
        refine .slice _ _ _ _ b (o' + l * sz) sz (fun i => c (i + l)) (by omega) ?_ ?_ (fun i hi => hl _ (by omega)) ?_ (fun i hi j hj => q2 _ (by omega) j hj)
        · intro hlt
          rw [if_neg (by omega), ha (by omega)]
          rcases h3 with rfl | h3
          · simp [add_none]
          · have := h3 0 (by omega)
            have := hl 0 (by omega)
            simp [add_none, show te.size = sz by omega]
        · intro hnn
          split at hnn
          · have := hn hnn; omega
          · cases ad with
            | none => have := hn rfl; omega
            | some _ => simp at hnn
        · intro i hi j hj
          have := q1 (i + l) (by omega) j hj
          rw [Nat.add_mul] at this
          have e2 : o' + l * sz + i * sz + j = o' + (i * sz + l * sz) + j := by omega
          rw [e2]; exact this
      have ix : ∀ (x : Operand) {k n}, V.ev st.slots x = .int k n → a.eval x = .int k n := fun x k n hxx => by have := hS.ev x; rw [hxx] at this; exact this.int_inv
      cases lo with
      | none =>
        cases hi with
        | none => exact hp.elim
        | some hi =>
          simp only [Option.map_none, Option.map_some] at hp ⊢
          cases hhi : V.ev st.slots hi with
          | int k n =>
            simp only [hhi, Option.getD_some] at hp ⊢
            have e1 := ix _ hhi
            obtain ⟨g1, g2⟩ := hp
            refine ⟨rfl, .slice ad n.toNat cap, ?_, .pure ?_⟩
            · simp [execOp, ho, e, e1, Instr.sliceAt, Instr.slice, Instr.sliceBounds, Instr.sliceBound, asIntOf, run_und w hd, g1, show n ≤ (cap : Int) by omega, ht.run_size]
              intro h0
              cases ad with
              | none => rfl
              | some x => simp [Addr.add]
            · have := lo0 0 n.toNat (by omega) (by omega) (.inl rfl)
              simp only [Nat.sub_zero, Nat.add_zero, Nat.zero_mul] at this
              have e3 : (if cap = 0 then ad else ad.map (·.add 0)) = ad := by
                split
                · rfl
                · cases ad <;> simp [Addr.add]
              rw [e3] at this
              exact this
          | _ => rw [hhi] at hp; exact hp.elim
      | some lo =>
        cases hlo : V.ev st.slots lo with
        | int k n =>
          have e1 := ix _ hlo
          cases hi with
          | none =>
            simp only [Option.map_none, Option.map_some, hlo, Option.getD_some] at hp ⊢
            obtain ⟨g1, g2, g3⟩ := hp
            refine ⟨rfl, _, ?_, .pure (lo0 n.toNat len (by omega) (by omega) (.inr g3))⟩
            simp [execOp, ho, e, e1, Instr.sliceAt, Instr.slice, Instr.sliceBounds, Instr.sliceBound, asIntOf, run_und w hd, g1, g2, ht.run_size]
          | some hi =>
            simp only [Option.map_some, hlo] at hp ⊢
            cases hhi : V.ev st.slots hi with
            | int k' n' =>
              simp only [hhi, Option.getD_some] at hp ⊢
              have e2 := ix _ hhi
              obtain ⟨g1, g2, g3, g4⟩ := hp
              refine ⟨rfl, _, ?_, .pure (lo0 n.toNat n'.toNat (by omega) (by omega) (.inr g4))⟩
              simp [execOp, ho, e, e1, e2, Instr.sliceAt, Instr.slice, Instr.sliceBounds, Instr.sliceBound, asIntOf, run_und w hd, g1, ht.run_size, show 0 ≤ n' by omega, show n' ≤ (cap : Int) by omega, show n ≤ max n' 0 by omega]
            | _ => rw [hhi] at hp; exact hp.elim
        | _ => cases hi <;> simp only [Option.map_none, Option.map_some, hlo] at hp <;> exact hp.elim
    · exact hp.elim
  · exact hp.elim

omit hC in
theorem v_len {args : Array Operand} {ts : Array TypeId} (ho : o.op = .call { callee := .builtin .len, args := args, argTypes := ts }) (hC : CtxOk P C) (hp : (evalOp C (V.ev st.slots) st.blocks d ty o.op).pre.getD True) :
    ValOk P E w (evalOp C (V.ev st.slots) st.blocks d ty o.op) (execOp a.eval o) := by
  simp only [ho, evalOp] at hp ⊢
  cases h0 : args[0]? with
  | none => rw [h0] at hp; exact hp.elim
  | some x =>
    cases h1 : ts[0]? with
    | none => rw [h0, h1] at hp; simp only [Option.map_some, Option.bind_none] at hp; split at hp <;> first | exact hp.elim | (rename_i hh; cases hh)
    | some t =>
      have hx := hS.ev x
      simp only [h0, h1, Option.map_some, Option.bind_some] at hp ⊢
      have ha : (args.map a.eval)[0]? = some (a.eval x) := by simp [h0]
      split at hp
      · rename_i _ _ tag len get el _ _ _ _ hx' ht
        simp only [Option.some.injEq] at hx'
        rw [hx'] at hx
        obtain ⟨ad, cap, e, _⟩ := hx.slice_inv
        have hd := und_slice (hC.types _ _ ht).desc
        exact ⟨rfl, _, by simp [execOp, ho, resolve, invoke, builtin, Builtin.len_, h1, ha, e, run_und w hd, goInt], .pure (.int _ _)⟩
      · rename_i _ _ el _ _ _ _ hx' ht
        simp only [Option.some.injEq] at hx'
        rw [hx'] at hx
        have e := hx.nils_inv
        have hd := und_slice (hC.types _ _ ht).desc
        exact ⟨rfl, _, by simp [execOp, ho, resolve, invoke, builtin, Builtin.len_, h1, ha, e, run_und w hd, goInt], .pure (.int _ _)⟩
      · rename_i _ _ s len el _ _ _ _ hx' ht
        simp only [Option.some.injEq] at hx'
        rw [hx'] at hx
        obtain ⟨b, sz, cap, _, _, e⟩ := hx.own_inv
        have hd := und_slice (hC.types _ _ ht).desc
        exact ⟨rfl, _, by simp [execOp, ho, resolve, invoke, builtin, Builtin.len_, h1, ha, e, run_und w hd, goInt], .pure (.int _ _)⟩
      · rename_i _ _ s ver len el _ _ _ _ hx' ht
        simp only [Option.some.injEq] at hx'
        rw [hx'] at hx
        obtain ⟨ad, cap, g, e, _⟩ := hx.stk_inv
        have hd := und_slice (hC.types _ _ ht).desc
        exact ⟨rfl, _, by simp [execOp, ho, resolve, invoke, builtin, Builtin.len_, h1, ha, e, run_und w hd, goInt], .pure (.int _ _)⟩
      · rename_i _ _ s off len sz el _ _ _ _ hx' ht
        simp only [Option.some.injEq] at hx'
        rw [hx'] at hx
        obtain ⟨b, sz0, cap, _, _, e⟩ := hx.cslice_inv
        have hd := und_slice (hC.types _ _ ht).desc
        exact ⟨rfl, _, by simp [execOp, ho, resolve, invoke, builtin, Builtin.len_, h1, ha, e, run_und w hd, goInt], .pure (.int _ _)⟩
      · exact hp.elim

end
end Go.V

/- Part 2: min, max, build. -/
namespace Go.V
open Go.RowKit (Below)
section
variable {P : Program} {C : Ctx} {E : Env} {base : Nat} {w0 : Orig} {w : World} {st : St} {a : Act}
variable (hC : CtxOk P C) (hS : SR E base w0 st a w) {d ty : Nat} {o : Oper}
include hS

theorem two_args {args : Array Operand} {x y : PV} (h : args.toList.map (V.ev st.slots) = [x, y]) : ∃ p q, args.toList = [p, q] ∧ V.ev st.slots p = x ∧ V.ev st.slots q = y ∧ Rel E w x (a.eval p) ∧ Rel E w y (a.eval q) := by
  match hl : args.toList, h with
  | [p, q], h =>
    simp only [List.map_cons, List.map_nil, List.cons.injEq, and_true] at h
    exact ⟨p, q, rfl, h.1, h.2, h.1 ▸ hS.ev p, h.2 ▸ hS.ev q⟩

theorem v_max {args : Array Operand} {ts : Array TypeId} (ho : o.op = .call { callee := .builtin .max, args := args, argTypes := ts }) (hp : (evalOp C (V.ev st.slots) st.blocks d ty o.op).pre.getD True) :
    ValOk P E w (evalOp C (V.ev st.slots) st.blocks d ty o.op) (execOp a.eval o) := by
  simp only [ho, evalOp] at hp ⊢
  split at hp
  · rename_i k m k' n h
    cases hk : kindEq k k' with
    | false => rw [hk] at hp; exact hp.elim
    | true =>
      obtain ⟨p, q, h1, _, _, h2, h3⟩ := two_args hS h
      simp only [cond_true]
      refine ⟨rfl, _, ?_, .pure (.int _ _)⟩
      simp [execOp, ho, resolve, invoke, builtin, Builtin.max_, h1, h2.int_inv, h3.int_inv, Builtin.max2]
  · exact hp.elim

theorem v_min {args : Array Operand} {ts : Array TypeId} (ho : o.op = .call { callee := .builtin .min, args := args, argTypes := ts }) (hp : (evalOp C (V.ev st.slots) st.blocks d ty o.op).pre.getD True) :
    ValOk P E w (evalOp C (V.ev st.slots) st.blocks d ty o.op) (execOp a.eval o) := by
  simp only [ho, evalOp] at hp ⊢
  split at hp
  · rename_i k m k' n h
    cases hk : kindEq k k' with
    | false => rw [hk] at hp; exact hp.elim
    | true =>
      obtain ⟨p, q, h1, _, _, h2, h3⟩ := two_args hS h
      simp only [cond_true]
      refine ⟨rfl, _, ?_, .pure (.int _ _)⟩
      simp [execOp, ho, resolve, invoke, builtin, Builtin.min_, h1, h2.int_inv, h3.int_inv, Builtin.min2]
  · exact hp.elim
omit hS

theorem foldl_set (vs : List Value) : ∀ (k off : Nat) (cs : Array Value), ((vs.zipIdx k).foldl (fun cs (c, j) => cs.setIfInBounds (off + j) c) cs).size = cs.size ∧
    ∀ i, ((vs.zipIdx k).foldl (fun cs (c, j) => cs.setIfInBounds (off + j) c) cs).getD i undef = if off + k ≤ i ∧ i < off + k + vs.length ∧ i < cs.size then vs.getD (i - (off + k)) undef else cs.getD i undef := by
  induction vs with
  | nil => intro k off cs; refine ⟨rfl, fun i => ?_⟩; simp only [List.zipIdx_nil, List.foldl_nil, List.length_nil]; rw [if_neg (by omega)]
  | cons v vs ih =>
    intro k off cs
    simp only [List.zipIdx_cons, List.foldl_cons]
    obtain ⟨h1, h2⟩ := ih (k + 1) off (cs.setIfInBounds (off + k) v)
    refine ⟨by rw [h1]; simp, fun i => ?_⟩
    rw [h2 i]
    simp only [Array.size_setIfInBounds, List.length_cons]
    by_cases hc : off + (k + 1) ≤ i ∧ i < off + (k + 1) + vs.length ∧ i < cs.size
    · rw [if_pos hc, if_pos (by omega)]
      have : i - (off + k) = (i - (off + (k + 1))) + 1 := by omega
      rw [this]; simp [List.getD]
    · rw [if_neg hc]
      by_cases hi : i = off + k
      · subst hi
        by_cases hs : off + k < cs.size
        · rw [if_pos (by omega)]; simp [Array.getD, hs, List.getD]
        · rw [if_neg (by omega)]; simp [Array.getD, hs]
      · rw [if_neg (by omega)]
        by_cases hs : i < cs.size
        · simp [Array.getD, hs, show ¬ (off + k = i) by omega]
        · simp [Array.getD, hs]

theorem fillL_len {l vs : List PV} {off : Nat} (h : off + vs.length ≤ l.length) : (fillL l off vs).length = l.length := by
  simp [fillL]; omega
theorem fillL_getD {l vs : List PV} {off i : Nat} (h : off + vs.length ≤ l.length) : (fillL l off vs).getD i .junk = if off ≤ i ∧ i < off + vs.length then vs.getD (i - off) .junk else l.getD i .junk := by
  simp only [fillL, List.getD]
  by_cases h1 : i < off
  · rw [if_neg (by omega), List.getElem?_append_left (by simp; omega)]
    simp [h1]
  · rw [List.getElem?_append_right (by simp; omega)]
    simp only [List.length_take, show min off l.length = off by omega]
    by_cases h2 : i - off < vs.length
    · rw [if_pos (by omega), List.getElem?_append_left h2]
    · rw [if_neg (by omega), List.getElem?_append_right (by omega), List.getElem?_drop]
      have : off + vs.length + (i - off - vs.length) = i := by omega
      rw [this]

def RowR (E : Env) (w : World) (l : List PV) (c : Array Value) : Prop := c.size = l.length ∧ ∀ i, i < l.length → Rel E w (l.getD i .junk) (c.getD i undef)

theorem part_cells {p : PV} {v : Value} (h : Rel E w p v) {n : Nat} (hs : (cellsOf p).length = n) (hc : v.cells.size = n) : RowR E w (cellsOf p) v.cells := by
  refine ⟨by rw [hs, hc], fun i hi => ?_⟩
  by_cases hj : p = .junk
  · subst hj
    have : i = 0 := by simp [cellsOf] at hi; omega
    subst this
    exact .pure (.junk _)
  · by_cases hu : p = .und
    · subst hu
      have hv := h.und_inv
      subst hv
      have : i = 0 := by simp [cellsOf] at hi; omega
      subst this
      exact h
    · by_cases ht : ∃ l, p = .tup l
      · obtain ⟨l, rfl⟩ := ht
        obtain ⟨t, rfl, _, _⟩ := h.tup_inv
        have : i = 0 := by simp [cellsOf] at hi; omega
        subst this
        exact h
      · exact (cells_rel h hj hu (fun l e => ht ⟨l, e⟩)).2 i hi
theorem cells_size {p : PV} {v : Value} (h : Rel E w p v) (hj : p ≠ .junk) : v.cells.size = (cellsOf p).length := by
  by_cases hu : p = .und
  · subst hu; rw [h.und_inv]; rfl
  · by_cases ht : ∃ l, p = .tup l
    · obtain ⟨l, rfl⟩ := ht; obtain ⟨t, rfl, _, _⟩ := h.tup_inv; rfl
    · exact (cells_rel h hj hu (fun l e => ht ⟨l, e⟩)).1

include hS
theorem fill_sound (place : Nat → Option (Nat × Nat)) : ∀ (ps : List (Nat × Operand)) (l l' : List PV) (c : Array Value), fillParts place (V.ev st.slots) ps l = some l' → RowR E w l c →
    ∃ c', Instr.fill place c (ps.map fun p => (p.1, a.eval p.2)) = some c' ∧ RowR E w l' c'
  | [], l, l', c, h, hr => by
    simp only [fillParts, Option.some.injEq] at h
    subst h
    exact ⟨c, rfl, hr⟩
  | (i, x) :: ps, l, l', c, h, hr => by
    simp only [fillParts] at h
    cases hp : place i with
    | none => rw [hp] at h; cases h
    | some os =>
      obtain ⟨off, sz⟩ := os
      rw [hp] at h
      simp only at h
      cases hq : (nj (V.ev st.slots x) && (Nat.beq (cellsOf (V.ev st.slots x)).length sz && Nat.ble (off + sz) l.length)) with
      | false => rw [hq] at h; cases h
      | true =>
        rw [hq] at h
        simp only [cond_true] at h
        simp only [Bool.and_eq_true] at hq
        obtain ⟨hj, hq1, hq2⟩ := hq
        have e1 := Nat.eq_of_beq_eq_true hq1
        have e2 := Nat.le_of_ble_eq_true hq2
        have hx := hS.ev x
        have hsz : (a.eval x).cells.size = sz := by rw [cells_size hx (by intro h0; rw [h0] at hj; cases hj), e1]
        have hpc := part_cells hx e1 hsz
        have hlen : off + (cellsOf (V.ev st.slots x)).length ≤ l.length := by omega
        obtain ⟨g1, g2⟩ := foldl_set (a.eval x).cells.toList 0 off c
        have hz : (a.eval x).cells.zipIdx.foldl (fun cs (c, j) => cs.setIfInBounds (off + j) c) c = ((a.eval x).cells.toList.zipIdx 0).foldl (fun cs (c, j) => cs.setIfInBounds (off + j) c) c := by
          rw [← Array.foldl_toList]; simp
        have hr' : RowR E w (fillL l off (cellsOf (V.ev st.slots x))) ((a.eval x).cells.zipIdx.foldl (fun cs (c, j) => cs.setIfInBounds (off + j) c) c) := by
          rw [hz]
          refine ⟨by rw [g1, fillL_len hlen, hr.1], fun i hi => ?_⟩
          rw [fillL_len hlen] at hi
          rw [g2 i, fillL_getD hlen]
          simp only [Nat.add_zero, Array.length_toList, hsz]
          have hcs := hr.1
          by_cases hc : off ≤ i ∧ i < off + sz
          · rw [if_pos (by omega), if_pos (by omega)]
            have := hpc.2 (i - off) (by omega)
            have hi2 : i - off < (a.eval x).cells.size := by omega
            simpa [Array.getD, List.getD, hi2] using this
          · rw [if_neg (by omega), if_neg (by omega)]
            exact hr.2 i hi
        obtain ⟨c', h1, h2⟩ := fill_sound place ps _ l' _ h hr'
        refine ⟨c', ?_, h2⟩
        simp only [List.map_cons, Instr.fill, hp]
        rw [if_neg ?_]
        · exact h1
        · have := hr.1
          simp [hsz]
          omega

omit hS in
theorem zero_row {t : Nat} {ti : TI} (ht : TIok P t ti) : ∃ z : Value, (zeroValue t).run P w = .ok z w ∧ RowR E w ti.zero z.cells := by
  obtain ⟨i, z, h1, h2, h3, h4, h5⟩ := ht.run_info w
  refine ⟨z, by simp [zeroValue, h1, h4], ?_⟩
  rw [← h5]
  refine ⟨by simp, fun j hj => ?_⟩
  simp at hj
  have : (z.cells.toList.map ofVal).getD j .junk = ofVal (z.cells.getD j undef) := by simp [List.getD, Array.getD, hj]
  rw [this]
  exact .pure (ofVal_rel _ _ _)

omit hS in
theorem mapM_places (fs : List Field) (h : ∀ f ∈ fs, ∃ te, look C.types f.type = some te) (hC : CtxOk P C) : (fs.mapM fun f => (Prod.mk f.offset <$> sizeOf f.type : Sem (Nat × Nat))).run P w = .ok (fs.map fun f => (f.offset, ((look C.types f.type).map (·.size)).getD 0)) w := by
  induction fs with
  | nil => simp
  | cons f fs ih =>
    obtain ⟨te, hte⟩ := h f (List.mem_cons_self ..)
    have := ih fun g hg => h g (List.mem_cons_of_mem _ hg)
    simp only [List.mapM_cons, Sem.run_bind, Sem.run_map, (hC.types _ _ hte).run_size, Result.andThen_ok, Sem.run_pure, List.map_cons, hte, this, Option.map_some, Option.getD_some]

include hC
theorem v_build {t : Nat} {ps : Array (Nat × Operand)} (ho : o.op = .build t ps) (hp : (evalOp C (V.ev st.slots) st.blocks d ty o.op).pre.getD True) :
    ValOk P E w (evalOp C (V.ev st.slots) st.blocks d ty o.op) (execOp a.eval o) := by
  simp only [ho, evalOp] at hp ⊢
  cases hl : look C.types t with
  | none => rw [hl] at hp; exact hp.elim
  | some ti =>
    have ht := hC.types _ _ hl
    simp only [hl] at hp ⊢
    obtain ⟨z, hz, hzr⟩ := zero_row (E := E) (w := w) ht
    have hps : ∀ (e : Operand → Value), (ps.map fun (i, x) => (i, e x)).toList = ps.toList.map fun p => (p.1, e p.2) := by intro e; simp
    cases hk : ti.k with
    | struct fl =>
      have hd := ht.desc
      rw [hk] at hd
      obtain ⟨fs, hfs, hfl⟩ := und_struct hd
      simp only [hk] at hp ⊢
      cases hall : fl.all (fun f => (look C.types f.2).isSome) with
      | false => rw [hall] at hp; exact hp.elim
      | true =>
        rw [hall] at hp
        simp only [cond_true] at hp ⊢
        rw [List.all_eq_true] at hall
        have hsome : ∀ f ∈ fs.toList, ∃ te, look C.types f.type = some te := by
          intro f hf
          have := hall (f.offset, f.type) (by rw [← hfl]; exact List.mem_map_of_mem hf)
          exact Option.isSome_iff_exists.1 this
        have hm := mapM_places (w := w) fs.toList hsome hC
        have hplace : placeOf C fl = fun i => (fs.toList.map fun f => (f.offset, ((look C.types f.type).map (·.size)).getD 0))[i]? := by
          funext i
          rw [← hfl]
          simp only [placeOf, List.getElem?_map]
          cases hi : fs.toList[i]? with
          | none => rfl
          | some f =>
            obtain ⟨te, hte⟩ := hsome f (List.mem_of_getElem? hi)
            simp [hte]
        generalize (fs.toList.map fun f => (f.offset, ((look C.types f.type).map (·.size)).getD 0)) = pl at hm hplace
        rw [hplace] at hp ⊢
        cases hf : fillParts (fun i => pl[i]?) (V.ev st.slots) ps.toList ti.zero with
        | none => rw [hf] at hp; exact hp.elim
        | some l =>
          obtain ⟨c', h1, h2⟩ := fill_sound hS _ ps.toList ti.zero l z.cells hf hzr
          refine ⟨rfl, .agg c', ?_, .agg _ _ h2.1 h2.2⟩
          simp only [execOp, ho, Instr.build, Sem.run_bind, hz, Result.andThen_ok, run_und w hfs, hps]
          simp [Array.mapM_eq_mapM_toList, hm, h1]
    | array n el =>
      have hd := ht.desc
      rw [hk] at hd
      have hfs := und_array hd
      simp only [hk] at hp ⊢
      cases he : look C.types el with
      | none => rw [he] at hp; exact hp.elim
      | some te =>
        simp only [he] at hp ⊢
        cases hf : fillParts (fun i => some (i * te.size, te.size)) (V.ev st.slots) ps.toList ti.zero with
        | none => rw [hf] at hp; exact hp.elim
        | some l =>
          obtain ⟨c', h1, h2⟩ := fill_sound hS _ ps.toList ti.zero l z.cells hf hzr
          refine ⟨rfl, .agg c', ?_, .agg _ _ h2.1 h2.2⟩
          simp [execOp, ho, Instr.build, hz, run_und w hfs, (hC.types _ _ he).run_size, h1]
    | _ => simp only [hk] at hp; exact hp.elim

end
end Go.V

/- Part 3: operations that make or write memory. -/
namespace Go.V
open Go.RowKit (Below)
section
variable {P : Program} {C : Ctx} {E E' : Env} {base : Nat} {w0 : Orig} {w w' : World} {st : St} {a : Act}

def OpOk (P : Program) (base : Nat) (w0 : Orig) (st : St) (a : Act) (w : World) (o : Oper) (r : R) : Prop :=
  ∀ (next : Act → World → Prop) (Q : Exit → Act → World → Prop), (∀ E' w' v, SR E' base w0 (st.setB r.upd) a w' → Rel E' w' r.val v → next (a.put o.dst v) w') → o.wp P a w next Q

theorem ValOk.op {o : Oper} {r : R} (hS : SR E base w0 st a w) (h : ValOk P E w r (execOp a.eval o)) : OpOk P base w0 st a w o r := by
  intro next Q hn
  obtain ⟨h1, v, h2, h3⟩ := h
  simp only [Oper.wp, h2, Oper.upon]
  exact hn E w v (by rw [h1]; exact hS) h3

theorem BR.keep {s : Nat} {B : Blk} (h : BR E w base s B) (hE : E.le E') (hw : ∀ b o, E.σ b o → w'.cell? ⟨b, o, none⟩ = w.cell? ⟨b, o, none⟩)
    (hρ : E'.ρ s = E.ρ s) (hhd : E'.hd s = E.hd s) (hb : ∀ b, E.at s = some b → w'.heap[b]? = w.heap[b]?) : BR E' w' base s B := by
  cases B with
  | none => exact ⟨hρ.trans h.1, hhd.trans h.2⟩
  | jmp j => exact ⟨hρ.trans h.1, hhd.trans h.2⟩
  | cells l =>
    obtain ⟨h1, b, arr, e, h2, h3, h4, h5, h6⟩ := h
    exact ⟨hhd.trans h1, b, arr, e, hρ.trans h2, h3, (hb b (by simp [Env.at, h2])).trans h4, h5, fun i hi => (h6 i hi).mono hE hw⟩
  | arr len sz get =>
    obtain ⟨h1, b, arr, e, h2, h3, h4, h5, h6⟩ := h
    exact ⟨hhd.trans h1, b, arr, e, hρ.trans h2, h3, (hb b (by simp [Env.at, h2])).trans h4, h5, fun i hi => ⟨(h6 i hi).1, fun j hj => ((h6 i hi).2 j hj).mono hE.σ hw⟩⟩
  | grow L el sz0 =>
    obtain ⟨h1, g, h2, h3, h4, h5, h6, h7⟩ := h
    refine ⟨hρ.trans h1, g, hhd.trans h2, h3, h4, h5, fun b hbo => ?_, h7⟩
    obtain ⟨q1, q2, arr, q3, q4⟩ := h6 b hbo
    exact ⟨q1, q2, arr, (hb b (by simp [Env.at, h1, h2, hbo])).trans q3, q4⟩
  | stk ver len el sz get =>
    obtain ⟨h1, g, h2, h3, h4, h5, h6, h7, h8⟩ := h
    refine ⟨hρ.trans h1, g, hhd.trans h2, h3, h4, h5, h6, h7, fun b hbo => ?_⟩
    obtain ⟨q1, q2, arr, q3, q4, q5, q6, q7⟩ := h8 b hbo
    exact ⟨q1, q2, arr, (hb b (by simp [Env.at, h1, h2, hbo])).trans q3, q4, q5, q6, fun i hi j hj => (q7 i hi j hj).mono hE.σ hw⟩
  | arrv len get =>
    obtain ⟨h1, b, arr, e, h2, h3, h4, h5, h6⟩ := h
    exact ⟨hhd.trans h1, b, arr, e, hρ.trans h2, h3, (hb b (by simp [Env.at, h2])).trans h4, h5, fun i hi => (h6 i hi).mono hE.σ hw⟩
  | arrx len get i v =>
    obtain ⟨h1, b, arr, e, h2, h3, h4, h5, h8, h6, h7⟩ := h
    exact ⟨hhd.trans h1, b, arr, e, hρ.trans h2, h3, (hb b (by simp [Env.at, h2])).trans h4, h5, h8, fun k hk hn => ⟨(h6 k hk hn).1, (h6 k hk hn).2.mono hE.σ hw⟩, h7.mono hE hw⟩

theorem cell_of_heap {b o : Nat} (h : w'.heap[b]? = w.heap[b]?) : w'.cell? ⟨b, o, none⟩ = w.cell? ⟨b, o, none⟩ := by simp [World.cell?, h]

theorem upd_same {α : Type} (f : Nat → α) (n : Nat) (v : α) : upd f n v n = v := by simp [upd]
theorem upd_ne {α : Type} (f : Nat → α) {n m : Nat} (v : α) (h : m ≠ n) : upd f n v m = f m := by
  have : Nat.beq m n = false := by rw [Bool.eq_false_iff]; intro e; exact h (Nat.eq_of_beq_eq_true e)
  simp [upd, this]

theorem heap_alloc_lt (w : World) (o : Obj) {b : Nat} (h : b < w.heap.size) : (w.alloc o).heap[b]? = w.heap[b]? := Below.heap_alloc w o b h
theorem heap_alloc_new' (w : World) (o : Obj) : (w.alloc o).heap[w.heap.size]? = some o := by show (w.heap.push o)[w.heap.size]? = some o; simp

theorem SR.at_lt (hS : SR E base w0 st a w) {s b : Nat} (h : E.at s = some b) : b < w.heap.size ∧ base ≤ b := by
  have hb := hS.blk s
  cases hB : st.blocks s with
  | none => rw [hB] at hb; simp [Env.at, hb.1, hb.2] at h
  | jmp j => rw [hB] at hb; simp [Env.at, hb.1, hb.2] at h
  | cells l =>
    rw [hB] at hb
    obtain ⟨_, b', arr, e, h2, h3, h4, _⟩ := hb
    simp [Env.at, h2] at h
    subst h
    exact ⟨(Array.getElem?_eq_some_iff.1 h4).1, h3⟩
  | arr len sz get =>
    rw [hB] at hb
    obtain ⟨_, b', arr, e, h2, h3, h4, _⟩ := hb
    simp [Env.at, h2] at h
    subst h
    exact ⟨(Array.getElem?_eq_some_iff.1 h4).1, h3⟩
  | grow L el sz0 =>
    rw [hB] at hb
    obtain ⟨h1, g, h2, _, _, _, h6, _⟩ := hb
    simp [Env.at, h1, h2] at h
    obtain ⟨q1, _, arr, q3, _⟩ := h6 b h
    exact ⟨(Array.getElem?_eq_some_iff.1 q3).1, q1⟩
  | stk ver len el sz get =>
    rw [hB] at hb
    obtain ⟨h1, g, h2, _, _, _, _, _, h6⟩ := hb
    simp [Env.at, h1, h2] at h
    obtain ⟨q1, _, arr, q3, _⟩ := h6 b h
    exact ⟨(Array.getElem?_eq_some_iff.1 q3).1, q1⟩
  | arrv len get =>
    rw [hB] at hb
    obtain ⟨_, b', arr, e, h2, h3, h4, _⟩ := hb
    simp [Env.at, h2] at h
    subst h
    exact ⟨(Array.getElem?_eq_some_iff.1 h4).1, h3⟩
  | arrx len get i v =>
    rw [hB] at hb
    obtain ⟨_, b', arr, e, h2, h3, h4, _⟩ := hb
    simp [Env.at, h2] at h
    subst h
    exact ⟨(Array.getElem?_eq_some_iff.1 h4).1, h3⟩

theorem SR.at_cells (hS : SR E base w0 st a w) {s b : Nat} (h : E.at s = some b) : (∃ c e f, w.heap[b]? = some (.cells c e f)) ∧ ∀ j, st.blocks s ≠ .jmp j := by
  have hb := hS.blk s
  cases hB : st.blocks s with
  | none => rw [hB] at hb; simp [Env.at, hb.1, hb.2] at h
  | jmp j => rw [hB] at hb; simp [Env.at, hb.1, hb.2] at h
  | cells l =>
    rw [hB] at hb
    obtain ⟨_, b', arr, e, h2, h3, h4, _⟩ := hb
    simp [Env.at, h2] at h
    subst h
    exact ⟨⟨_, _, _, h4⟩, fun j h => nomatch h⟩
  | arr len sz get =>
    rw [hB] at hb
    obtain ⟨_, b', arr, e, h2, h3, h4, _⟩ := hb
    simp [Env.at, h2] at h
    subst h
    exact ⟨⟨_, _, _, h4⟩, fun j h => nomatch h⟩
  | grow L el sz0 =>
    rw [hB] at hb
    obtain ⟨h1, g, h2, _, _, _, h6, _⟩ := hb
    simp [Env.at, h1, h2] at h
    obtain ⟨q1, _, arr, q3, _⟩ := h6 b h
    exact ⟨⟨_, _, _, q3⟩, fun j h => nomatch h⟩
  | stk ver len el sz get =>
    rw [hB] at hb
    obtain ⟨h1, g, h2, _, _, _, _, _, h6⟩ := hb
    simp [Env.at, h1, h2] at h
    obtain ⟨q1, _, arr, q3, _⟩ := h6 b h
    exact ⟨⟨_, _, _, q3⟩, fun j h => nomatch h⟩
  | arrv len get =>
    rw [hB] at hb
    obtain ⟨_, b', arr, e, h2, h3, h4, _⟩ := hb
    simp [Env.at, h2] at h
    subst h
    exact ⟨⟨_, _, _, h4⟩, fun j h => nomatch h⟩
  | arrx len get i v =>
    rw [hB] at hb
    obtain ⟨_, b', arr, e, h2, h3, h4, _⟩ := hb
    simp [Env.at, h2] at h
    subst h
    exact ⟨⟨_, _, _, h4⟩, fun j h => nomatch h⟩
theorem SR.hd_at (hS : SR E base w0 st a w) {s b : Nat} {g : Hd} (hg : E.hd s = some g) (hb : g.bo = some b) : E.at s = some b := by
  have hbl := hS.blk s
  cases hB : st.blocks s with
  | grow _ _ _ => rw [hB] at hbl; simp [Env.at, hbl.1, hg, hb]
  | stk _ _ _ _ _ => rw [hB] at hbl; simp [Env.at, hbl.1, hg, hb]
  | none => rw [hB] at hbl; rw [hbl.2] at hg; cases hg
  | jmp j => rw [hB] at hbl; rw [hbl.2] at hg; cases hg
  | cells l => rw [hB] at hbl; rw [hbl.1] at hg; cases hg
  | arr l s' g' => rw [hB] at hbl; rw [hbl.1] at hg; cases hg
  | arrx _ _ _ _ => rw [hB] at hbl; rw [hbl.1] at hg; cases hg
  | arrv _ _ => rw [hB] at hbl; rw [hbl.1] at hg; cases hg
theorem upd_jmp {bl : Nat → Blk} {d : Nat} {B : Blk} (hd : ∀ j, bl d ≠ .jmp j) : ∀ s j, bl s = .jmp j → upd bl d B s = .jmp j := fun s j h => by
  have hs : s ≠ d := by rintro rfl; exact hd j h
  rw [upd_ne _ _ hs]; exact h

theorem SR.own_new (hS : SR E base w0 st a w) {d : Nat} (hd : st.blocks d = .none) (arr : Array Value) (e : TypeId) (sz : Nat) (B : Blk)
    (hB : ∀ E' w', E.le E' → (∀ b o, E.σ b o → w'.cell? ⟨b, o, none⟩ = w.cell? ⟨b, o, none⟩) → E'.hd d = none → E'.ρ d = some (w.heap.size, sz) → w'.heap[w.heap.size]? = some (.cells arr e (0, 0)) → BR E' w' base d B) :
    ∃ E', E'.ρ d = some (w.heap.size, sz) ∧ SR E' base w0 (st.setB (some (d, B))) a (w.alloc (.cells arr e)) := by
  have hn := hS.blk d
  rw [hd] at hn
  have hlt : ∀ b o, E.σ b o → (w.alloc (.cells arr e)).cell? ⟨b, o, none⟩ = w.cell? ⟨b, o, none⟩ := fun b o h => cell_of_heap (heap_alloc_lt _ _ (hS.σok b o h).1)
  have hE : E.le ⟨fun s => if s = d then some (w.heap.size, sz) else E.ρ s, E.hd, E.σ⟩ := by
    refine ⟨fun s x h => ?_, fun _ _ h => h, fun s g h => ⟨g, h, Nat.le_refl _, fun _ => ⟨rfl, rfl, rfl⟩⟩⟩
    show (if s = d then _ else _) = _
    rw [if_neg (by rintro rfl; rw [hn.1] at h; cases h)]
    exact h
  have hat : ∀ s b, Env.at ⟨fun s => if s = d then some (w.heap.size, sz) else E.ρ s, E.hd, E.σ⟩ s = some b → (s = d ∧ b = w.heap.size) ∨ (s ≠ d ∧ E.at s = some b) := by
    intro s b h
    by_cases hs : s = d
    · left; refine ⟨hs, ?_⟩; simp [Env.at, hs] at h; exact h.symm
    · right; refine ⟨hs, ?_⟩; simpa [Env.at, hs] using h
  refine ⟨⟨fun s => if s = d then some (w.heap.size, sz) else E.ρ s, E.hd, E.σ⟩, by simp, ?_⟩
  constructor
  · exact (hS.dfr.heap fun b hb => heap_alloc_lt _ _ hb).step (fun _ _ h _ => h) (upd_jmp fun j h => by rw [hd] at h; cases h)
  · exact fun n => (hS.slots n).mono hE hlt
  · intro s
    show BR _ _ base s (upd st.blocks d B s)
    by_cases hs : s = d
    · subst hs
      have : upd st.blocks s B s = B := upd_same _ _ _
      rw [this]
      exact hB _ _ hE hlt hn.2 (by simp) (heap_alloc_new' _ _)
    · have : upd st.blocks d B s = st.blocks s := upd_ne _ _ hs
      rw [this]
      exact (hS.blk s).keep hE hlt (by simp [hs]) rfl fun b hb => heap_alloc_lt _ _ (hS.at_lt hb).1
  · intro s s' b h h'
    rcases hat s b h with ⟨k1, k2⟩ | ⟨hs, k⟩ <;> rcases hat s' _ h' with ⟨k3, k4⟩ | ⟨hs', k'⟩
    · exact k1.trans k3.symm
    · have := (hS.at_lt k').1; omega
    · have := (hS.at_lt k).1; omega
    · exact hS.inj s s' b k k'
  · intro b o h
    obtain ⟨h1, h2, h3⟩ := hS.σok b o h
    refine ⟨by simp; omega, fun s sz' hx => ?_, h3⟩
    by_cases hs : s = d
    · simp [hs] at hx; omega
    · simp [hs] at hx; exact h2 s sz' hx
  · exact hS.bel.alloc hS.bas _
  · have := hS.bas; simp; omega
  · exact hS.σin
  · exact hS.σout
  · exact fun q p v h => (hS.fr q p v h).mono (Env.only_le hE q) hlt

theorem reps_len (n : Nat) (z : List PV) : (reps n z).length = n * z.length := by simp [reps]
theorem reps_getD (n : Nat) (z : List PV) (i : Nat) (h : i < n * z.length) : (reps n z).getD i .junk = z.getD (i % z.length) .junk := by
  induction n generalizing i with
  | zero => simp at h
  | succ n ih =>
    have hz : 0 < z.length := by
      rcases Nat.eq_zero_or_pos z.length with h0 | h0
      · rw [h0] at h; simp at h
      · exact h0
    have e : reps (n + 1) z = z ++ reps n z := by simp [reps, List.replicate_succ]
    rw [e]
    by_cases hi : i < z.length
    · simp [List.getD, List.getElem?_append_left hi, Nat.mod_eq_of_lt hi]
    · have hi' : z.length ≤ i := by omega
      have := ih (i - z.length) (by rw [Nat.succ_mul] at h; omega)
      simp only [List.getD, List.getElem?_append_right hi'] at this ⊢
      rw [this, Nat.mod_eq_sub_mod hi']

theorem zeros_row {t : Nat} {ti : TI} (ht : TIok P t ti) {z : Value} (hz : RowR E w ti.zero z.cells) (n : Nat) :
    RowR E w (reps n ti.zero) ((Array.range (n * ti.size)).map (z.cells[· % z.cells.size]!)) := by
  have hl := ht.len
  have hs : z.cells.size = ti.size := by rw [hz.1, hl]
  refine ⟨by rw [reps_len, hl]; simp, fun i hi => ?_⟩
  rw [reps_len, hl] at hi
  rw [reps_getD _ _ _ (by rw [hl]; exact hi), hl]
  have hpos : 0 < ti.size := by
    rcases Nat.eq_zero_or_pos ti.size with h0 | h0
    · rw [h0] at hi; simp at hi
    · exact h0
  have hm : i % ti.size < ti.size := Nat.mod_lt _ hpos
  have := hz.2 (i % ti.size) (by rw [hl]; exact hm)
  have e : ((Array.range (n * ti.size)).map (z.cells[· % z.cells.size]!)).getD i undef = z.cells.getD (i % ti.size) undef := by
    have hm' : i % ti.size < z.cells.size := by omega
    have e1 : z.cells.getD (i % ti.size) undef = z.cells[i % ti.size] := by simp [Array.getD, hm']
    rw [e1, ← getElem!_pos z.cells (i % ti.size) hm', ← hs]
    simp [Array.getD, hi, hs]
  rw [e]; exact this

theorem fillParts_len (place : Nat → Option (Nat × Nat)) (e : Operand → PV) : ∀ (ps : List (Nat × Operand)) (l l' : List PV), fillParts place e ps l = some l' → l'.length = l.length
  | [], l, l', h => by simp only [fillParts, Option.some.injEq] at h; rw [h]
  | (i, x) :: ps, l, l', h => by
    simp only [fillParts] at h
    cases hp : place i with
    | none => rw [hp] at h; cases h
    | some os =>
      obtain ⟨off, sz⟩ := os
      rw [hp] at h
      simp only at h
      cases hq : (nj (e x) && (Nat.beq (cellsOf (e x)).length sz && Nat.ble (off + sz) l.length)) with
      | false => rw [hq] at h; cases h
      | true =>
        rw [hq] at h
        simp only [cond_true] at h
        simp only [Bool.and_eq_true] at hq
        obtain ⟨_, h1, h2⟩ := hq
        have e1 := Nat.eq_of_beq_eq_true h1
        have e2 := Nat.le_of_ble_eq_true h2
        rw [fillParts_len place e ps _ l' h, fillL_len (by omega)]

variable (hC : CtxOk P C) (hS : SR E base w0 st a w) {d ty : Nat} {o : Oper}
include hC hS

theorem o_alloc {t : Nat} (ho : o.op = .alloc t) (hp : (evalOp C (V.ev st.slots) st.blocks d ty o.op).pre.getD True) : OpOk P base w0 st a w o (evalOp C (V.ev st.slots) st.blocks d ty o.op) := by
  simp only [ho, evalOp] at hp ⊢
  cases hl : look C.types t with
  | none => rw [hl] at hp; exact hp.elim
  | some ti =>
    cases hd : st.blocks d with
    | none =>
      simp only
      obtain ⟨z, hz, hzr⟩ := zero_row (E := E) (w := w) (hC.types _ _ hl)
      obtain ⟨E', h1, h2⟩ := hS.own_new hd z.cells t 0 (.cells ti.zero) fun E' w' hE hw g1 g2 g3 =>
        ⟨g1, _, _, _, g2, hS.bas, g3, hzr.1, fun i hi => (hzr.2 i hi).mono hE hw⟩
      intro next Q hn
      have hrun : (execOp a.eval o).run P w = .ok (.value (.pointer (some ⟨w.heap.size, 0, none⟩))) (w.alloc (.cells z.cells t)) := by
        simp [execOp, ho, Instr.alloc, hz, newVar, newRow]
      simp only [Oper.wp, hrun, Oper.upon]
      exact hn E' _ _ h2 (.ptr d 0 _ 0 h1)
    | _ => rw [hl, hd] at hp; exact hp.elim

omit hC in
theorem o_box {t : Nat} {x : Operand} (ho : o.op = .box t x) (hp : (evalOp C (V.ev st.slots) st.blocks d ty o.op).pre.getD True) : OpOk P base w0 st a w o (evalOp C (V.ev st.slots) st.blocks d ty o.op) := by
  simp only [ho, evalOp] at hp ⊢
  cases hl : look C.types t with
  | none => rw [hl] at hp; exact hp.elim
  | some ti =>
    cases hd : st.blocks d with
    | none =>
      simp only [hl, hd] at hp ⊢
      cases hj : nj (V.ev st.slots x) with
      | false => rw [hj] at hp; exact hp.elim
      | true =>
        simp only [cond_true]
        have hx := hS.ev x
        have hsz := cells_size hx (by intro h0; rw [h0] at hj; cases hj)
        have hr := part_cells hx rfl hsz
        obtain ⟨E', h1, h2⟩ := hS.own_new hd (a.eval x).cells t 0 (.cells (cellsOf (V.ev st.slots x))) fun E' w' hE hw g1 g2 g3 =>
          ⟨g1, _, _, _, g2, hS.bas, g3, hr.1, fun i hi => (hr.2 i hi).mono hE hw⟩
        intro next Q hn
        have hrun : (execOp a.eval o).run P w = .ok (.value (.pointer (some ⟨w.heap.size, 0, none⟩))) (w.alloc (.cells (a.eval x).cells t)) := by
          simp [execOp, ho, Instr.box, newVar, newRow]
        simp only [Oper.wp, hrun, Oper.upon]
        exact hn E' _ _ h2 (.ptr d 0 _ 0 h1)
    | _ => rw [hl, hd] at hp; exact hp.elim

omit hC in
theorem SR.view_new (arr : Array Value) (e : TypeId) : ∃ E', E.le E' ∧ (∀ o, E'.σ w.heap.size o) ∧ SR E' base w0 st a (w.alloc (.cells arr e)) ∧ ∀ b o, E.σ b o → (w.alloc (.cells arr e)).cell? ⟨b, o, none⟩ = w.cell? ⟨b, o, none⟩ := by
  have hlt : ∀ b o, E.σ b o → (w.alloc (.cells arr e)).cell? ⟨b, o, none⟩ = w.cell? ⟨b, o, none⟩ := fun b o h => cell_of_heap (heap_alloc_lt _ _ (hS.σok b o h).1)
  have hE : E.le ⟨E.ρ, E.hd, fun b o => E.σ b o ∨ b = w.heap.size⟩ := ⟨fun _ _ h => h, fun _ _ h => .inl h, fun s g h => ⟨g, h, Nat.le_refl _, fun _ => ⟨rfl, rfl, rfl⟩⟩⟩
  refine ⟨_, hE, fun _ => .inr rfl, ?_, hlt⟩
  constructor
  · exact hS.dfr.heap fun b hb => heap_alloc_lt _ _ hb
  · exact fun n => (hS.slots n).mono hE hlt
  · exact fun s => (hS.blk s).keep hE hlt rfl rfl fun b hb => heap_alloc_lt _ _ (hS.at_lt hb).1
  · exact hS.inj
  · intro b o h
    rcases h with h | rfl
    · obtain ⟨h1, h2, h3⟩ := hS.σok b o h
      exact ⟨by simp; omega, h2, h3⟩
    · refine ⟨by simp, fun s sz hx => ?_, fun s g hg hb => ?_⟩
      · have hx' : E.ρ s = some (w.heap.size, sz) := hx
        have := (hS.at_lt (s := s) (b := w.heap.size) (by simp [Env.at, hx'])).1
        omega
      · have hg' : E.hd s = some g := hg
        have := (hS.at_lt (hS.hd_at hg' hb)).1
        omega
  · exact hS.bel.alloc hS.bas _
  · have := hS.bas; simp; omega
  · exact fun b o h => .inl (hS.σin b o h)
  · rintro b o (h | rfl)
    · exact hS.σout b o h
    · exact .inr hS.bas
  · exact fun q p v h => (hS.fr q p v h).mono (Env.only_le hE q) hlt

omit hC hS in
theorem wrap_id {n : Int} (h1 : -9223372036854775808 ≤ n) (h2 : n ≤ 9223372036854775807) : IntKind.i64.wrap n = n := by
  simp [IntKind.wrap, IntKind.signed, IntKind.bits]
  omega

omit hC hS in
theorem plain1_or_zero {t : Nat} {ti : TI} (ht : TIok P t ti) (j : Nat) (hj : j < ti.size) {v : Value} (h : Rel E w (ti.zero.getD j .junk) v) : RelP E.σ w (ti.zero.getD j .junk) v := by
  obtain ⟨i, z, h1, h2, h3, h4, h5⟩ := ht.run_info w
  have hlen := ht.len
  have e : ∃ u : Value, ti.zero.getD j .junk = ofVal u := by
    rw [← h5]
    refine ⟨z.cells.toList.getD j undef, ?_⟩
    have : j < z.cells.toList.length := by
      have := congrArg List.length h5
      simp only [List.length_map] at this
      omega
    simp only [List.getD, List.getElem?_map, List.getElem?_eq_getElem this, Option.map_some, Option.getD_some]
  obtain ⟨u, hu⟩ := e
  rw [hu] at h ⊢
  unfold ofVal at h ⊢
  split at h
  all_goals first
    | (rename_i hx; simp only at h ⊢; cases h with | pure h => exact h)
    | (cases h with | pure h => exact h)
    | exact .junk _

theorem o_makeSlice {t : Nat} {x y : Operand} (ho : o.op = .makeSlice t x y) (hp : (evalOp C (V.ev st.slots) st.blocks d ty o.op).pre.getD True) : OpOk P base w0 st a w o (evalOp C (V.ev st.slots) st.blocks d ty o.op) := by
  have hx := hS.ev x
  have hy := hS.ev y
  simp only [ho, evalOp] at hp ⊢
  split at hp
  · rename_i el _ _ _ _ h1
    have hd := und_slice (hC.types _ _ h1).desc
    split at hp
    · rename_i _ _ _ _ te n m h2 h3 h4 h5
      have ht := hC.types _ _ h2
      rw [h3] at hx
      rw [h4] at hy
      have e1 := hx.int_inv
      have e2 := hy.int_inv
      cases hq : Nat.ble 1 te.size with
      | false => rw [hq] at hp; exact hp.elim
      | true =>
        have q1 := Nat.le_of_ble_eq_true hq
        simp only [hq, cond_true, Option.getD_some] at hp ⊢
        obtain ⟨rfl, g1, g2, g3⟩ := hp
        obtain ⟨z, hz, hzr⟩ := zero_row (E := E) (w := w) ht
        have hz0 := zeros_row ht hzr n.toNat
        have hsz : ((Array.range (n.toNat * te.size)).map (z.cells[· % z.cells.size]!)).size = n.toNat * te.size := by simp
        generalize hc' : (Array.range (n.toNat * te.size)).map (z.cells[· % z.cells.size]!) = c' at hz0 hsz
        obtain ⟨E', k1, k2⟩ := hS.own_new h5 c' el te.size (.arr n.toNat te.size fun _ => te.zero) fun E' w' hE hw g1 g2 g3 => by
          refine ⟨g1, _, _, _, g2, hS.bas, g3, Nat.le_of_eq hsz.symm, fun i hi => ⟨ht.len, fun j hj => ?_⟩⟩
          have hb : i * te.size + te.size ≤ n.toNat * te.size := by rw [← Nat.succ_mul]; exact Nat.mul_le_mul_right _ hi
          have := hz0.2 (i * te.size + j) (by rw [reps_len, ht.len]; omega)
          rw [reps_getD _ _ _ (by rw [ht.len]; omega), ht.len] at this
          have e : (i * te.size + j) % te.size = j := by rw [Nat.mul_comm, Nat.mul_add_mod, Nat.mod_eq_of_lt hj]
          rw [e] at this
          exact (plain1_or_zero ht j hj this).mono hE.σ hw
        intro next Q hn
        obtain ⟨i0, z0, hi0, hi1, hi2, hi3, _⟩ := ht.run_info w
        have hz1 : (zeroValue el).run P w = .ok z0 w := by simp [zeroValue, hi0, hi3]
        obtain rfl : z0 = z := by rw [hz1] at hz; cases hz; rfl
        have hrun : (execOp a.eval o).run P w = .ok (.value (.slice (some ⟨w.heap.size, 0, none⟩) n.toNat n.toNat)) (w.alloc (.cells c' el)) := by
          have hw : IntKind.i64.wrap n = n := wrap_id (by omega) (by omega)
          have hb : ¬ ((te.bytes : Int) * n > 281474976710656) := by omega
          have hr0 : Array.range 0 = #[] := rfl
          have hai : (asInt (.int .i64 n)).run P w = .ok n w := by simp [asInt, asIntOf]
          simp only [execOp, ho, e1, e2, Instr.makeSlice, Sem.run_bind, run_und w hd, Result.andThen_ok, hai, hi0, hi2, hw]
          have hcond : ((decide (n < 0) || decide ((te.bytes : Int) * n > 2 ^ 48)) || decide (n < 0) || decide (n > n)) = false := by
            simp; omega
          rw [hcond]
          simp only [Bool.false_eq_true, if_false, Sem.run_bind, run_askRoom, Result.andThen_ok, ht.run_size]
          by_cases h0 : n.toNat * te.size = 0
          · simp only [h0, hr0, Array.map_empty] at hc'
            rw [if_pos h0]
            simp [h0, hr0, newRow, ← hc']
          · rw [if_neg h0]
            simp [hz1, newRow, ← hc']
        simp only [Oper.wp, hrun, Oper.upon]
        exact hn E' _ _ k2 (.own d n.toNat _ te.size _ k1 (Nat.le_refl _))
    · exact hp.elim
  · exact hp.elim

omit hC in
theorem SR.write (s b : Nat) (arr' : Array Value) (e : TypeId) (B : Blk) (hat : E.at s = some b) (hρ : ∃ sz, E.ρ s = some (b, sz)) (hw : w'.heap[b]? = some (.cells arr' e (0, 0))) (hoth : ∀ b', b' ≠ b → w'.heap[b']? = w.heap[b']?)
    (hos : w'.os = w.os) (hta : w'.tape = w.tape) (hou : w'.output = w.output) (hsz : w'.heap.size = w.heap.size)
    (hB : (∀ p v, Rel E w p v → Rel E w' p v) → (∀ p v, RelP E.σ w p v → RelP E.σ w' p v) → BR E w' base s B) : SR E base w0 (st.setB (some (s, B))) a w' := by
  have hσ : ∀ b' o, E.σ b' o → w'.cell? ⟨b', o, none⟩ = w.cell? ⟨b', o, none⟩ := by
    intro b' o h
    refine cell_of_heap (hoth b' ?_)
    rintro rfl
    obtain ⟨sz, h2⟩ := hρ
    exact (hS.σok b' o h).2.1 s sz h2
  have hm : ∀ p v, Rel E w p v → Rel E w' p v := fun p v h => h.mono (Env.le_refl E) hσ
  constructor
  · refine hS.dfr.step (fun b' o hb' hn => (hoth b' ?_).trans hb') (upd_jmp (hS.at_cells hat).2)
    rintro rfl
    obtain ⟨c, e, f, hc⟩ := (hS.at_cells hat).1
    rw [hc] at hb'
    exact hn c e f (Option.some.inj hb').symm
  · exact fun n => hm _ _ (hS.slots n)
  · intro s'
    show BR _ _ base s' (upd st.blocks s B s')
    by_cases hs : s' = s
    · subst hs
      rw [upd_same]
      exact hB hm fun p v h => h.mono (fun _ _ h => h) hσ
    · rw [upd_ne _ _ hs]
      refine (hS.blk s').keep (Env.le_refl E) hσ rfl rfl fun b' hb' => hoth b' ?_
      rintro rfl
      exact hs (hS.inj s' s b' hb' hat)
  · exact hS.inj
  · intro b' o h
    obtain ⟨h1, h2, h3⟩ := hS.σok b' o h
    exact ⟨by rw [hsz]; exact h1, h2, h3⟩
  · refine hS.bel.trans ⟨hos, hta, hou, by rw [hsz]; exact Nat.le_refl _, fun k hk => hoth k ?_⟩
    have := (hS.at_lt hat).2
    omega
  · rw [hsz]; exact hS.bas
  · exact hS.σin
  · exact hS.σout
  · exact fun q p v h => (hS.fr q p v h).mono (Env.only_le (Env.le_refl E) q) hσ

omit hC hS in
theorem run_storeCells (b : Nat) (e : TypeId) : ∀ (vs : List Value) (i off : Nat) (w : World) (arr : Array Value), w.heap[b]? = some (.cells arr e (0, 0)) → off + i + vs.length ≤ arr.size → (∀ v ∈ vs, v.oneCell' = true) →
    ∃ w' arr', (storeCells ⟨b, off, none⟩ vs i).run P w = .ok () w' ∧ w'.heap[b]? = some (.cells arr' e (0, 0)) ∧ arr'.size = arr.size ∧ (∀ j, arr'.getD j undef = if off + i ≤ j ∧ j < off + i + vs.length then vs.getD (j - (off + i)) undef else arr.getD j undef) ∧
      (∀ b', b' ≠ b → w'.heap[b']? = w.heap[b']?) ∧ w'.os = w.os ∧ w'.tape = w.tape ∧ w'.output = w.output ∧ w'.heap.size = w.heap.size
  | [], i, off, w, arr, h, _, _ => ⟨w, arr, rfl, h, rfl, fun j => by rw [if_neg (by simp only [List.length_nil]; omega)], fun _ _ => rfl, rfl, rfl, rfl, rfl⟩
  | v :: vs, i, off, w, arr, h, hlen, h1 => by
    simp only [List.length_cons] at hlen
    have hc : w.cell? ⟨b, off + i, none⟩ = some (arr.getD (off + i) undef) := by simp [World.cell?, h, Array.getD, show off + i < arr.size by omega]
    have hf : w.frozen? ⟨b, off + i, none⟩ = false := by simp [World.frozen?, h]
    have hb : b < w.heap.size := (Array.getElem?_eq_some_iff.1 h).1
    have hset : (w.setCell ⟨b, off + i, none⟩ v).heap[b]? = some (.cells (arr.setIfInBounds (off + i) v) e (0, 0)) := by
      simp only [World.setCell, Array.getElem?_modify, if_true, h]
      simp
    obtain ⟨w', arr', g1, g2, g3, g4, g5, g6, g7, g8, g9⟩ := run_storeCells b e vs (i + 1) off (w.setCell ⟨b, off + i, none⟩ v) (arr.setIfInBounds (off + i) v) hset (by simp; omega) fun u hu => h1 u (List.mem_cons_of_mem _ hu)
    refine ⟨w', arr', ?_, g2, by rw [g3]; simp, ?_, fun b' hb' => (g5 b' hb').trans (Below.heap_setCell w ⟨b, off + i, none⟩ v b' hb'), g6, g7, g8, by rw [g9]; simp⟩
    · simp only [storeCells, Sem.run_bind, add_none, run_store P w _ v _ (h1 v (List.mem_cons_self ..)), hc, hf]
      simpa using g1
    · intro j
      rw [g4 j]
      simp only [List.length_cons]
      by_cases hj : j = off + i
      · subst hj
        rw [if_neg (by omega), if_pos (by omega)]
        simp [Array.getD, List.getD, show off + i < arr.size by omega]
      · by_cases hj2 : off + (i + 1) ≤ j ∧ j < off + (i + 1) + vs.length
        · rw [if_pos hj2, if_pos (by omega)]
          have : j - (off + i) = (j - (off + (i + 1))) + 1 := by omega
          rw [this]; simp [List.getD]
        · rw [if_neg hj2, if_neg (by omega)]
          by_cases hs : j < arr.size
          · simp [Array.getD, hs, show ¬ (off + i = j) by omega]
          · simp [Array.getD, hs]

theorem o_store {t : Nat} {x y : Operand} (ho : o.op = .store t x y) (hdst : o.dst = none) (hp : (evalOp C (V.ev st.slots) st.blocks d ty o.op).pre.getD True) : OpOk P base w0 st a w o (evalOp C (V.ev st.slots) st.blocks d ty o.op) := by
  have hx := hS.ev x
  have hy := hS.ev y
  simp only [ho, evalOp] at hp ⊢
  cases hl : look C.types t with
  | none => rw [hl] at hp; exact hp.elim
  | some ti =>
    have ht := hC.types _ _ hl
    simp only [hl] at hp ⊢
    cases hq : (Nat.beq (cellsOf (V.ev st.slots y)).length ti.size && (cellsOf (V.ev st.slots y)).all sc1) with
    | false => rw [hq] at hp; exact hp.elim
    | true =>
      rw [hq] at hp
      simp only [cond_true] at hp ⊢
      simp only [Bool.and_eq_true] at hq
      have q1 := Nat.eq_of_beq_eq_true hq.1
      have hj : V.ev st.slots y ≠ .junk := by
        intro h0
        have := hq.2
        rw [h0] at this
        simp [cellsOf, sc1] at this
      have hsz := cells_size hy hj
      have hr := part_cells hy rfl hsz
      have hone : ∀ v ∈ (a.eval y).cells.toList, v.oneCell' = true := by
        intro v hv
        obtain ⟨i, hi, rfl⟩ := List.getElem_of_mem hv
        have hi' : i < (cellsOf (V.ev st.slots y)).length := by rw [← hsz]; simpa using hi
        have := hr.2 i hi'
        have e : (a.eval y).cells.getD i undef = (a.eval y).cells.toList[i] := by
          simp at hi
          simp [Array.getD, hi]
        rw [e] at this
        exact sc1_one this (all_getD hq.2 i hi')
      have hlen : (a.eval y).cells.toList.length = (cellsOf (V.ev st.slots y)).length := by simpa using hsz
      have hrun : ∀ {b o' : Nat} {w' : World}, a.eval x = .pointer (some ⟨b, o', none⟩) → (storeCells ⟨b, o', none⟩ (a.eval y).cells.toList 0).run P w = .ok () w' → (execOp a.eval o).run P w = .ok .skip w' := by
        intro b o' w' e h
        simp [execOp, ho, e, Instr.storeAt, Instr.sureAddr, storeVar, ht.run_size, hsz, q1, h]
      have hskip : ∀ (next : Act → World → Prop), a.put o.dst undef = a := by intro _; simp [Act.put, hdst]
      cases h : V.ev st.slots x with
      | ptr s off =>
        rw [h] at hx
        obtain ⟨b, sz, hρ, e⟩ := hx.ptr_inv
        simp only [h] at hp ⊢
        have hb := hS.blk s
        cases hbl : st.blocks s with
        | cells l =>
          simp only [hbl] at hp ⊢
          rw [hbl] at hb
          obtain ⟨hhd, b', arr, el, hρ', hbase, hh, hszl, hrl⟩ := hb
          rw [hρ] at hρ'
          simp only [Option.some.injEq, Prod.mk.injEq] at hρ'
          obtain ⟨rfl, rfl⟩ := hρ'
          cases hle : Nat.ble (off + (cellsOf (V.ev st.slots y)).length) l.length with
          | false => rw [hle] at hp; exact hp.elim
          | true =>
            have hle' := Nat.le_of_ble_eq_true hle
            simp only [cond_true]
            obtain ⟨w', arr', g1, g2, g3, g4, g5, g6, g7, g8, g9⟩ := run_storeCells (P := P) b el (a.eval y).cells.toList 0 off w arr hh (by omega) hone
            intro next Q hn
            simp only [Oper.wp, hrun e g1, Oper.upon]
            refine hn E w' undef (SR.write hS s b arr' el _ (by simp [Env.at, hρ]) ⟨0, hρ⟩ g2 g5 g6 g7 g8 g9 fun hm _ => ?_) (.pure .und)
            refine ⟨hhd, b, arr', el, hρ, hbase, g2, by rw [g3, hszl, fillL_len hle'], fun i hi => ?_⟩
            rw [fillL_len hle'] at hi
            rw [fillL_getD hle', g4 i]
            simp only [Nat.add_zero, hlen]
            by_cases hc : off ≤ i ∧ i < off + (cellsOf (V.ev st.slots y)).length
            · rw [if_pos hc, if_pos hc]
              have := hr.2 (i - off) (by omega)
              have e3 : (a.eval y).cells.toList.getD (i - off) undef = (a.eval y).cells.getD (i - off) undef := by
                simp [List.getD, Array.getD, show i - off < (a.eval y).cells.size by omega]
              rw [e3]
              exact hm _ _ this
            · rw [if_neg hc, if_neg hc]
              exact hm _ _ (hrl i hi)
        | arrv len get =>
          simp only [hbl] at hp ⊢
          rw [hbl] at hb
          obtain ⟨hhd, b', arr, el, hρ', hbase, hh, hszl, hrl⟩ := hb
          rw [hρ] at hρ'
          simp only [Option.some.injEq, Prod.mk.injEq] at hρ'
          obtain ⟨rfl, rfl⟩ := hρ'
          cases hag : ti.agg with
          | true =>
            rw [hag] at hp
            simp only [cond_true] at hp ⊢
            cases hq : (Nat.beq off 0 && (Nat.beq (cellsOf (V.ev st.slots y)).length len && (cellsOf (V.ev st.slots y)).all plain1)) with
            | false => rw [hq] at hp; exact hp.elim
            | true =>
              simp only [Bool.and_eq_true] at hq
              obtain ⟨x1, x2, x3⟩ := hq
              obtain rfl := Nat.eq_of_beq_eq_true x1
              have x2 := Nat.eq_of_beq_eq_true x2
              simp only [cond_true]
              obtain ⟨w', arr', g1, g2, g3, g4, g5, g6, g7, g8, g9⟩ := run_storeCells (P := P) b el (a.eval y).cells.toList 0 0 w arr hh (by omega) hone
              intro next Q hn
              simp only [Oper.wp, hrun e g1, Oper.upon]
              refine hn E w' undef (SR.write hS s b arr' el _ (by simp [Env.at, hρ]) ⟨0, hρ⟩ g2 g5 g6 g7 g8 g9 fun hm hmp => ?_) (.pure .und)
              refine ⟨hhd, b, arr', el, hρ, hbase, g2, by rw [g3, hszl], fun i hi => ?_⟩
              rw [g4, if_pos (by omega)]
              have := hr.2 i (by omega)
              have e3 : (a.eval y).cells.toList.getD (i - (0 + 0)) undef = (a.eval y).cells.getD i undef := by
                simp [List.getD, Array.getD, show i < (a.eval y).cells.size by omega]
              rw [e3]
              exact hmp _ _ (plain1_relP (all_getD x3 _ (by omega)) this)
          | false =>
            rw [hag] at hp
            simp only [cond_false] at hp ⊢
            cases hq : (Nat.beq (cellsOf (V.ev st.slots y)).length 1 && (cellsOf (V.ev st.slots y)).all plain1) with
            | false => rw [hq] at hp; exact hp.elim
            | true =>
              rw [hq] at hp
              simp only [Bool.and_eq_true] at hq
              obtain ⟨x2, x3⟩ := hq
              have x2 := Nat.eq_of_beq_eq_true x2
              simp only [cond_true, Option.getD_some] at hp ⊢
              obtain ⟨w', arr', g1, g2, g3, g4, g5, g6, g7, g8, g9⟩ := run_storeCells (P := P) b el (a.eval y).cells.toList 0 off w arr hh (by omega) hone
              intro next Q hn
              simp only [Oper.wp, hrun e g1, Oper.upon]
              refine hn E w' undef (SR.write hS s b arr' el _ (by simp [Env.at, hρ]) ⟨0, hρ⟩ g2 g5 g6 g7 g8 g9 fun hm hmp => ?_) (.pure .und)
              refine ⟨hhd, b, arr', el, hρ, hbase, g2, by rw [g3, hszl], fun i hi => ?_⟩
              rw [g4]
              by_cases hii : i = off
              · subst hii
                have e5 : Nat.beq i i = true := by simp
                simp only [e5, cond_true]
                rw [if_pos (by omega)]
                have := hr.2 0 (by omega)
                have e3 : (a.eval y).cells.toList.getD (i - (i + 0)) undef = (a.eval y).cells.getD 0 undef := by
                  have : i - (i + 0) = 0 := by omega
                  rw [this]
                  simp [List.getD, Array.getD, show 0 < (a.eval y).cells.size by omega]
                rw [e3]
                have e4 : (cellsOf (V.ev st.slots y)).headD .junk = (cellsOf (V.ev st.slots y)).getD 0 .junk := by cases cellsOf (V.ev st.slots y) <;> rfl
                rw [e4]
                exact hmp _ _ (plain1_relP (all_getD x3 _ (by omega)) this)
              · have e5 : Nat.beq i off = false := by rw [Bool.eq_false_iff]; intro e; exact hii (Nat.eq_of_beq_eq_true e)
                simp only [e5, cond_false]
                rw [if_neg (by omega)]
                exact hmp _ _ (hrl i hi)
        | _ => rw [hbl] at hp; exact hp.elim
      | eptr s i off =>
        rw [h] at hx
        obtain ⟨b, sz, hρ, e⟩ := hx.eptr_inv
        simp only [h] at hp ⊢
        have hb := hS.blk s
        cases hbl : st.blocks s with
        | arr len sz' get =>
          simp only [hbl] at hp ⊢
          cases hpl : (cellsOf (V.ev st.slots y)).all plain1 with
          | false =>
            rw [hpl] at hp
            simp only [cond_false] at hp ⊢
            cases hqx : (Nat.beq (cellsOf (V.ev st.slots y)).length 1 && (Nat.beq off 0 && Nat.beq sz' 1)) with
            | false => rw [hqx] at hp; exact hp.elim
            | true =>
            rw [hqx] at hp
            simp only [Bool.and_eq_true] at hqx
            obtain ⟨x1, x2, x3⟩ := hqx
            have x1 := Nat.eq_of_beq_eq_true x1
            obtain rfl := Nat.eq_of_beq_eq_true x2
            obtain rfl := Nat.eq_of_beq_eq_true x3
            simp only [cond_true, Option.getD_some] at hp ⊢
            rw [hbl] at hb
            obtain ⟨hhd, b', arr, el, hρ', hbase, hh, hszl, hrl⟩ := hb
            rw [hρ] at hρ'
            simp only [Option.some.injEq, Prod.mk.injEq] at hρ'
            obtain ⟨rfl, rfl⟩ := hρ'
            obtain ⟨w', arr', g1, g2, g3, g4, g5, g6, g7, g8, g9⟩ := run_storeCells (P := P) b el (a.eval y).cells.toList 0 (i * 1 + 0) w arr hh (by omega) hone
            intro next Q hn
            simp only [Oper.wp, hrun e g1, Oper.upon]
            refine hn E w' undef (SR.write hS s b arr' el _ (by simp [Env.at, hρ]) ⟨1, hρ⟩ g2 g5 g6 g7 g8 g9 fun hm hmp => ?_) (.pure .und)
            refine ⟨hhd, b, arr', el, hρ, hbase, g2, by rw [g3]; omega, hp, fun k hk hne => ?_, ?_⟩
            · obtain ⟨r1, r2⟩ := hrl k hk
              refine ⟨r1, ?_⟩
              rw [g4, if_neg (by omega)]
              have := hmp _ _ (r2 0 (by omega))
              simpa using this
            · rw [g4, if_pos (by omega)]
              have := hm _ _ (hr.2 0 (by omega))
              have e3 : (a.eval y).cells.toList.getD (i - (i * 1 + 0 + 0)) undef = (a.eval y).cells.getD 0 undef := by
                have : i - (i * 1 + 0 + 0) = 0 := by omega
                rw [this]
                simp [List.getD, Array.getD, show 0 < (a.eval y).cells.size by omega]
              rw [e3]
              have e4 : (cellsOf (V.ev st.slots y)).headD .junk = (cellsOf (V.ev st.slots y)).getD 0 .junk := by cases cellsOf (V.ev st.slots y) <;> rfl
              rw [e4]; exact this
          | true =>
          rw [hpl] at hp
          simp only [cond_true, Option.getD_some] at hp ⊢
          rw [hbl] at hb
          obtain ⟨hhd, b', arr, el, hρ', hbase, hh, hszl, hrl⟩ := hb
          rw [hρ] at hρ'
          simp only [Option.some.injEq, Prod.mk.injEq] at hρ'
          obtain ⟨rfl, rfl⟩ := hρ'
          obtain ⟨p1, p2⟩ := hp
          obtain ⟨hgl, _⟩ := hrl i p1
          have hbound : i * sz + sz ≤ len * sz := by rw [← Nat.succ_mul]; exact Nat.mul_le_mul_right _ p1
          obtain ⟨w', arr', g1, g2, g3, g4, g5, g6, g7, g8, g9⟩ := run_storeCells (P := P) b el (a.eval y).cells.toList 0 (i * sz + off) w arr hh (by omega) hone
          intro next Q hn
          simp only [Oper.wp, hrun e g1, Oper.upon]
          refine hn E w' undef (SR.write hS s b arr' el _ (by simp [Env.at, hρ]) ⟨sz, hρ⟩ g2 g5 g6 g7 g8 g9 fun hm hmp => ?_) (.pure .und)
          refine ⟨hhd, b, arr', el, hρ, hbase, g2, by rw [g3]; exact hszl, fun i' hi' => ?_⟩
          have hbound' : i' * sz + sz ≤ len * sz := by rw [← Nat.succ_mul]; exact Nat.mul_le_mul_right _ hi'
          obtain ⟨r1, r2⟩ := hrl i' hi'
          by_cases hii : i' = i
          · subst hii
            have e5 : Nat.beq i' i' = true := by simp
            simp only [e5, cond_true]
            refine ⟨by rw [fillL_len (by omega)]; exact r1, fun j hj => ?_⟩
            rw [fillL_getD (by omega), g4]
            simp only [Nat.add_zero, hlen]
            by_cases hc : off ≤ j ∧ j < off + (cellsOf (V.ev st.slots y)).length
            · rw [if_pos hc, if_pos (by omega)]
              have := hr.2 (j - off) (by omega)
              have e3 : (a.eval y).cells.toList.getD (i' * sz + j - (i' * sz + off)) undef = (a.eval y).cells.getD (j - off) undef := by
                have : i' * sz + j - (i' * sz + off) = j - off := by omega
                rw [this]
                simp [List.getD, Array.getD, show j - off < (a.eval y).cells.size by omega]
              rw [e3]
              exact hmp _ _ (plain1_relP (all_getD hpl _ (by omega)) this)
            · rw [if_neg hc, if_neg (by omega)]
              exact hmp _ _ (r2 j hj)
          · have e5 : Nat.beq i' i = false := by rw [Bool.eq_false_iff]; intro e; exact hii (Nat.eq_of_beq_eq_true e)
            simp only [e5, cond_false]
            refine ⟨r1, fun j hj => ?_⟩
            rw [g4, if_neg]
            · exact hmp _ _ (r2 j hj)
            · rintro ⟨k1, k2⟩
              simp only [Nat.add_zero, hlen] at k1 k2
              rcases Nat.lt_or_gt_of_ne hii with hlt | hgt
              · have : i' * sz + sz ≤ i * sz := by rw [← Nat.succ_mul]; exact Nat.mul_le_mul_right _ hlt
                omega
              · have : i * sz + sz ≤ i' * sz := by rw [← Nat.succ_mul]; exact Nat.mul_le_mul_right _ hgt
                omega
        | arrx len get i' v =>
          simp only [hbl] at hp ⊢
          cases hqx : (Nat.beq (cellsOf (V.ev st.slots y)).length 1 && (Nat.beq off 0 && plain1 (toView v))) with
          | false => rw [hqx] at hp; exact hp.elim
          | true =>
          rw [hqx] at hp
          simp only [Bool.and_eq_true] at hqx
          obtain ⟨x1, x2, x3⟩ := hqx
          have x1 := Nat.eq_of_beq_eq_true x1
          obtain rfl := Nat.eq_of_beq_eq_true x2
          simp only [cond_true, Option.getD_some] at hp ⊢
          rw [hbl] at hb
          obtain ⟨hhd, b', arr, el, hρ', hbase, hh, hszl, hlt, hrl, hv⟩ := hb
          rw [hρ] at hρ'
          simp only [Option.some.injEq, Prod.mk.injEq] at hρ'
          obtain ⟨rfl, rfl⟩ := hρ'
          obtain ⟨w', arr', g1, g2, g3, g4, g5, g6, g7, g8, g9⟩ := run_storeCells (P := P) b el (a.eval y).cells.toList 0 (i * 1 + 0) w arr hh (by omega) hone
          intro next Q hn
          simp only [Oper.wp, hrun e g1, Oper.upon]
          refine hn E w' undef (SR.write hS s b arr' el _ (by simp [Env.at, hρ]) ⟨1, hρ⟩ g2 g5 g6 g7 g8 g9 fun hm hmp => ?_) (.pure .und)
          refine ⟨hhd, b, arr', el, hρ, hbase, g2, by rw [g3]; exact hszl, hp, fun k hk hne => ?_, ?_⟩
          · rw [g4, if_neg (by omega)]
            by_cases hki : k = i'
            · subst hki
              have e5 : Nat.beq k k = true := by simp
              simp only [e5, cond_true]
              exact ⟨rfl, hmp _ _ (plain1_relP x3 (toView_rel hv))⟩
            · have e5 : Nat.beq k i' = false := by rw [Bool.eq_false_iff]; intro e; exact hki (Nat.eq_of_beq_eq_true e)
              simp only [e5, cond_false]
              exact ⟨(hrl k hk hki).1, hmp _ _ (hrl k hk hki).2⟩
          · rw [g4, if_pos (by omega)]
            have := hm _ _ (hr.2 0 (by omega))
            have e3 : (a.eval y).cells.toList.getD (i - (i * 1 + 0 + 0)) undef = (a.eval y).cells.getD 0 undef := by
              have : i - (i * 1 + 0 + 0) = 0 := by omega
              rw [this]
              simp [List.getD, Array.getD, show 0 < (a.eval y).cells.size by omega]
            rw [e3]
            have e4 : (cellsOf (V.ev st.slots y)).headD .junk = (cellsOf (V.ev st.slots y)).getD 0 .junk := by cases cellsOf (V.ev st.slots y) <;> rfl
            rw [e4]; exact this
        | _ => rw [hbl] at hp; exact hp.elim
      | _ => rw [h] at hp; exact hp.elim

end
end Go.V

/- Part 4: append; a nil slice given a name; calls. -/
namespace Go.V
open Go.RowKit (Below)

structure Grew0 (w w' : World) (e sz : Nat) (old : Option Nat) (ocp L0 L : Nat) (xs : List Value) (bo : Option Nat) (cp : Nat) : Prop where
  nil : bo = none → L = 0 ∧ cp = 0
  blk : ∀ b, bo = some b → (old = some b ∨ w.heap.size ≤ b) ∧ ∃ arr, w'.heap[b]? = some (.cells arr e (0, 0)) ∧ arr.size = cp * sz ∧ L ≤ cp ∧ cp ≤ maxLen ∧ ∀ j, j < L * sz → arr.getD j undef = xs.getD j undef
  oth : ∀ k, k < w.heap.size → (old ≠ some k ∨ bo ≠ some k) → w'.heap[k]? = w.heap[k]?
  os : w'.os = w.os
  tape : w'.tape = w.tape
  output : w'.output = w.output
  size : w.heap.size ≤ w'.heap.size
structure Grew (w w' : World) (e sz : Nat) (old : Option Nat) (ocp L0 L : Nat) (xs : List Value) (bo : Option Nat) (cp : Nat) : Prop extends Grew0 w w' e sz old ocp L0 L xs bo cp where
  same : L = L0 → bo = old ∧ cp = ocp

theorem toArray_getD (l : List Value) (j : Nat) : (l.toArray).getD j undef = l.getD j undef := by
  by_cases h : j < l.length
  · simp [Array.getD, List.getD, h]
  · simp [Array.getD, List.getD, h]
theorem getD_app_l (l r : List Value) {j : Nat} (h : j < l.length) : (l ++ r).getD j undef = l.getD j undef := by
  simp [List.getD, List.getElem?_append_left h]
theorem getD_app_r (l r : List Value) {j : Nat} (h : l.length ≤ j) : (l ++ r).getD j undef = r.getD (j - l.length) undef := by
  simp [List.getD, List.getElem?_append_right h]

theorem blt_t {i L : Nat} (h : i < L) : Nat.blt i L = true := Nat.ble_eq_true_of_le h
theorem blt_f {i L : Nat} (h : ¬ i < L) : Nat.blt i L = false := by
  cases hb : Nat.blt i L with
  | false => rfl
  | true => exact (h (Nat.le_of_ble_eq_true hb)).elim

section
variable {P : Program} {w : World}

theorem append_run {t ty e n cx L0 cp0 : Nat} {te : TI} {bo0 : Option Nat} {ax : Option Addr} (hd : P.underlying t = some (.slice e)) (ht : TIok P e te)
    (h0 : bo0 = none → L0 = 0 ∧ cp0 = 0) (arr0 : Array Value) (hb0 : ∀ b, bo0 = some b → w.heap[b]? = some (.cells arr0 e (0, 0)) ∧ arr0.size = cp0 * te.size ∧ L0 ≤ cp0 ∧ cp0 ≤ maxLen)
    (news : List Value) (hl : news.length = n * te.size) (hnil : ax = none → n = 0 ∧ cx = 0) (hnews : ∀ ad, ax = some ad → ∀ j u, news[j]? = some u → w.cell? (ad.add j) = some u) (h1 : ∀ u ∈ news, u.oneCell' = true)
    (hlt : L0 + n < 2147483648) (hby : (L0 + n) * te.bytes ≤ 140737488355328) :
    ∃ w' bo cp, (Builtin.append_ #[t, t] ty #[.slice (bo0.map fun b => ⟨b, 0, none⟩) L0 cp0, .slice ax n cx]).run P w = .ok (.slice (bo.map fun b => ⟨b, 0, none⟩) (L0 + n) cp) w' ∧
      Grew w w' e te.size bo0 cp0 L0 (L0 + n) (arr0.toList.take (L0 * te.size) ++ news) bo cp := by
  obtain ⟨i, z, hi0, hi1, hi2, hi3, hi4⟩ := ht.run_info w
  have hi : P.info? e = some i := by
    simp only [typeInfo] at hi0
    cases hx : P.info? e with
    | none => simp [hx] at hi0
    | some i' => simp [hx] at hi0; rw [hi0]
  have hzs : z.cells.size = te.size := by
    have := congrArg List.length hi4
    simpa [ht.len] using this
  have stay : ∀ (bo : Option Nat) (_ : bo = bo0), n = 0 → Grew w w e te.size bo0 cp0 L0 (L0 + n) (arr0.toList.take (L0 * te.size) ++ news) bo cp0 := by
    rintro _ rfl rfl
    have hn : news = [] := List.eq_nil_of_length_eq_zero (by simpa using hl)
    subst hn
    refine ⟨⟨h0, fun b hb => ?_, fun _ _ _ => rfl, rfl, rfl, rfl, Nat.le_refl _⟩, fun _ => ⟨rfl, rfl⟩⟩
    obtain ⟨g1, g2, g3, g4⟩ := hb0 b hb
    refine ⟨.inl hb, arr0, g1, g2, g3, g4, fun j hj => ?_⟩
    have : L0 * te.size ≤ cp0 * te.size := Nat.mul_le_mul_right _ g3
    have hj' : j < L0 * te.size := hj
    simp [List.getD, Array.getD, hj', show j < arr0.size by omega]
  cases ax with
  | none =>
    obtain ⟨rfl, rfl⟩ := hnil rfl
    refine ⟨w, bo0, cp0, ?_, stay bo0 rfl rfl⟩
    cases bo0 with
    | none =>
      obtain ⟨rfl, rfl⟩ := h0 rfl
      simp [Builtin.append_, run_underlying hd, sizeOf, typeInfo, hi, Builtin.lenOf, Builtin.firstCells]
    | some b =>
      obtain ⟨g1, g2, g3, g4⟩ := hb0 b rfl
      simp [Builtin.append_, run_underlying hd, sizeOf, typeInfo, hi, Builtin.lenOf, Builtin.firstCells, g3, storeCells]
  | some ad =>
    have hnews' := hnews ad rfl
    have hl' : news.length = n * i.size := by rw [hi1]; exact hl
    have fresh : ∀ (olds : List Value) (old : Nat), olds.length = L0 * te.size → old < L0 + n → (∀ j, j < L0 * te.size → olds.getD j undef = (arr0.toList.take (L0 * te.size)).getD j undef) → 0 < n →
        Grew w (w.drew.alloc (.cells (olds.toArray ++ news.toArray ++ Builtin.zeroCells z.cells (grownCap w (L0 + n) old e - (L0 + n))) e)) e te.size bo0 cp0 L0 (L0 + n) (arr0.toList.take (L0 * te.size) ++ news) (some w.heap.size) (grownCap w (L0 + n) old e) := by
      intro olds old ho hlt' heq hn
      have hge := grownCap_ge w (L0 + n) old e
      have hcm : grownCap w (L0 + n) old e ≤ maxLen := grownCap_le_maxLen w (L0 + n) old e (by unfold maxLen; omega)
      refine ⟨⟨(fun h => nomatch h), fun b hb => ?_, fun k hk _ => heap_alloc_lt w.drew _ hk, rfl, rfl, rfl, by simp⟩, fun h => by omega⟩
      simp only [Option.some.injEq] at hb
      subst hb
      refine ⟨.inr (Nat.le_refl _), _, heap_alloc_new' w.drew _, ?_, hge, hcm, fun j hj => ?_⟩
      · simp only [Array.size_append, List.size_toArray, size_zeroCells, hzs, ho, hl, ← Nat.add_mul]
        congr 1
        omega
      · rw [Nat.add_mul] at hj
        have e0 : olds.toArray ++ news.toArray ++ Builtin.zeroCells z.cells (grownCap w (L0 + n) old e - (L0 + n)) = (olds ++ news ++ (Builtin.zeroCells z.cells (grownCap w (L0 + n) old e - (L0 + n))).toList).toArray := by simp
        rw [e0, toArray_getD, getD_app_l _ _ (by simp; omega)]
        by_cases hj1 : j < olds.length
        · rw [getD_app_l _ _ hj1, heq j (by omega)]
          by_cases hj2 : j < (arr0.toList.take (L0 * te.size)).length
          · rw [getD_app_l _ _ hj2]
          · exfalso
            cases hbo : bo0 with
            | none => have := (h0 hbo).1; rw [this, Nat.zero_mul] at ho; omega
            | some b =>
              obtain ⟨_, g2, g3, _⟩ := hb0 b hbo
              have : L0 * te.size ≤ cp0 * te.size := Nat.mul_le_mul_right _ g3
              simp at hj2
              omega
        · have hll : (arr0.toList.take (L0 * te.size)).length = L0 * te.size := by
            cases hbo : bo0 with
            | none => have := (h0 hbo).1; subst this; simp
            | some b =>
              obtain ⟨_, g2, g3, _⟩ := hb0 b hbo
              have : L0 * te.size ≤ cp0 * te.size := Nat.mul_le_mul_right _ g3
              simp
              omega
          rw [getD_app_r _ _ (by omega), getD_app_r _ _ (by omega), ho, hll]
    cases bo0 with
    | none =>
      obtain ⟨rfl, rfl⟩ := h0 rfl
      by_cases hn : n = 0
      · refine ⟨w, none, 0, ?_, stay none rfl hn⟩
        subst hn
        have : news = [] := List.eq_nil_of_length_eq_zero (by simpa using hl)
        simp [Builtin.append_, run_underlying hd, sizeOf, typeInfo, hi, Builtin.lenOf, Builtin.firstCells, loadCells, loadCellsFrom]
      · simp only [Nat.zero_add] at hby hlt
        have hr := run_append_nil (P := P) w t ty e i z hd hi hi3 ad n cx news hl' hnews' (by omega) (by omega) (by rw [hi2]; omega)
        have := fresh [] 0 (by simp) (by omega) (by simp) (by omega)
        simp only [Nat.zero_add, Array.empty_append] at this ⊢
        exact ⟨_, some w.heap.size, _, hr, this⟩
    | some b =>
      obtain ⟨g1, g2, g3, g4⟩ := hb0 b rfl
      have hbl : L0 * te.size ≤ cp0 * te.size := Nat.mul_le_mul_right _ g3
      by_cases hroom : L0 + n ≤ cp0
      · have hfit : L0 * i.size + news.length ≤ arr0.size := by rw [hl', g2, hi1, ← Nat.add_mul]; exact Nat.mul_le_mul_right _ hroom
        have hr := run_append_room (P := P) w t ty e i hd hi b L0 cp0 arr0 g1 ad n cx news hl' hnews' h1 hroom hfit
        refine ⟨_, some b, cp0, hr, ⟨⟨(fun h => nomatch h), fun b' hb' => ?_, fun k hk ho => ?_, rfl, rfl, rfl, by simp [World.setRow]⟩, fun _ => ⟨rfl, rfl⟩⟩⟩
        · simp only [Option.some.injEq] at hb'
          subst hb'
          refine ⟨.inl rfl, _, setRow_heap w b arr0 _ e _ g1, ?_, hroom, g4, fun j hj => ?_⟩
          · simp only [List.size_toArray, List.length_append, List.length_take, List.length_drop, Array.length_toList]
            rw [hi1] at hfit ⊢
            omega
          · rw [toArray_getD, hi1, getD_app_l]
            rw [hi1] at hfit
            rw [Nat.add_mul] at hj
            simp
            omega
        · have hkb : k ≠ b := by
            rintro rfl
            rcases ho with ho | ho <;> exact ho rfl
          exact setRow_other w b k _ hkb
      · have holds : ∀ j u, (arr0.toList.take (L0 * te.size))[j]? = some u → w.cell? ((⟨b, 0, none⟩ : Addr).add j) = some u := by
          intro j u hu
          rw [List.getElem?_take] at hu
          split at hu
          · rw [add_none]
            simpa [World.cell?, g1] using hu
          · cases hu
        have hol : (arr0.toList.take (L0 * te.size)).length = L0 * te.size := by simp; omega
        have hr := run_append_grow (P := P) w t ty e i z hd hi hi3 ⟨b, 0, none⟩ L0 cp0 (arr0.toList.take (L0 * te.size)) (by rw [hi1]; exact hol) holds ad n cx news hl' hnews' (by omega) (by omega) (growslice_fits (by omega) (by rw [hi2]; exact hby))
        exact ⟨_, some w.heap.size, _, hr, fresh _ cp0 hol (by omega) (fun _ _ => rfl) (by omega)⟩

variable {C : Ctx} {E : Env} {base : Nat} {w0 : Orig} {w' : World} {st : St} {a : Act}

theorem SR.grew (hS : SR E base w0 st a w) {s el sz L0 L cp0 cp : Nat} (B0 B : Nat) {bo0 bo : Option Nat} {xs : List Value} (hg : Grew0 w w' el sz bo0 cp0 L0 L xs bo cp) (hsz : 0 < sz) (hL : ∀ b, bo0 = some b → bo = some b → L0 ≤ L) (hLB : L0 + B0 ≤ L + B) (hB : bo = none → B = 0) (hρ : E.ρ s = none)
    (hold : (E.hd s = none ∧ bo0 = none ∧ L0 = 0) ∨ ∃ g, E.hd s = some g ∧ g.L = L0 + B0 ∧ g.bo = bo0 ∧ g.cp = cp0 ∧ (bo0 ≠ none → g.sz = sz) ∧ g.own = false ∧ g.ln = B0 ∧ (L + B = L0 + B0 → bo = bo0 ∧ cp = cp0 ∧ B = B0))
    (hxs : ∀ b, bo0 = some b → bo = some b → ∀ o, o < L0 * sz → w.cell? ⟨b, o, none⟩ = some (xs.getD o undef)) (hnj : ∀ j, st.blocks s ≠ .jmp j) :
    ∃ E', E.le E' ∧ E'.hd s = some ⟨L + B, bo, cp, sz, el, B, false⟩ ∧ (∀ b, bo = some b → ∀ o, o < L * sz → E'.σ b o ∧ w'.cell? ⟨b, o, none⟩ = some (xs.getD o undef)) ∧
      (∀ b o, E.σ b o → w'.cell? ⟨b, o, none⟩ = w.cell? ⟨b, o, none⟩) ∧ SR E' base w0 (st.setB (some (s, .grow (L + B) el sz))) a w' := by
  have hat0 : ∀ b, bo0 = some b → E.at s = some b := by
    intro b hb
    rcases hold with ⟨_, h2, _⟩ | ⟨g, h1, _, h3, _⟩
    · rw [h2] at hb; cases hb
    · simp [Env.at, hρ, h1, h3, hb]
  have hcell' : ∀ b, bo = some b → ∀ o, o < L * sz → w'.cell? ⟨b, o, none⟩ = some (xs.getD o undef) := by
    intro b hb o ho
    obtain ⟨_, arr, g1, g2, g3, _, g5⟩ := hg.blk b hb
    have : L * sz ≤ cp * sz := Nat.mul_le_mul_right _ g3
    rw [← g5 o ho]
    simp [World.cell?, g1, Array.getD, show o < arr.size by omega]
  have hσ : ∀ b o, E.σ b o → w'.cell? ⟨b, o, none⟩ = w.cell? ⟨b, o, none⟩ := by
    intro b o h
    obtain ⟨h1, h2, h3⟩ := hS.σok b o h
    by_cases hk : bo0 = some b ∧ bo = some b
    · obtain ⟨k1, k2⟩ := hk
      have hoL : o < L0 * sz := by
        rcases hold with ⟨_, h5, _⟩ | ⟨g, h4, h5, h6, h7, h8⟩
        · rw [h5] at k1; cases k1
        · have := (h3 s g h4 (h6.trans k1)).2
          rw [h5, h8.2.2.1, Nat.add_sub_cancel, h8.1 (by rw [k1]; simp)] at this
          exact this
      have hL2 : L0 * sz ≤ L * sz := Nat.mul_le_mul_right _ (hL b k1 k2)
      rw [hcell' b k2 o (by omega), hxs b k1 k2 o hoL]
    · refine cell_of_heap (hg.oth b h1 ?_)
      by_cases k1 : bo0 = some b
      · exact .inr fun k2 => hk ⟨k1, k2⟩
      · exact .inl k1
  have hE : E.le ⟨E.ρ, fun s' => if s' = s then some ⟨L + B, bo, cp, sz, el, B, false⟩ else E.hd s', fun b o => E.σ b o ∨ (bo = some b ∧ o < L * sz)⟩ := by
    refine ⟨fun _ _ h => h, fun _ _ h => .inl h, fun s' g h => ?_⟩
    by_cases hs : s' = s
    · subst hs
      refine ⟨_, if_pos rfl, ?_⟩
      rcases hold with ⟨h1, _⟩ | ⟨g', h1, h2, h3, h4, _, _, h5, h6⟩
      · rw [h1] at h; cases h
      · rw [h1] at h
        cases h
        refine ⟨by simp only; omega, fun hl => ?_⟩
        obtain ⟨e1, e2, e3⟩ := h6 (by simp only at hl; omega)
        exact ⟨by rw [h3]; exact e1, by rw [h4]; exact e2, by rw [h5]; exact e3⟩
    · exact ⟨g, by simp [hs, h], Nat.le_refl _, fun _ => ⟨rfl, rfl, rfl⟩⟩
  have hne : ∀ s' b, s' ≠ s → E.at s' = some b → bo ≠ some b ∧ w'.heap[b]? = w.heap[b]? := by
    intro s' b hs hat
    have hlt := (hS.at_lt hat).1
    have h0 : bo0 ≠ some b := fun h => hs (hS.inj s' s b hat (hat0 b h))
    refine ⟨fun h => ?_, hg.oth b hlt (.inl h0)⟩
    rcases (hg.blk b h).1 with h1 | h1
    · exact h0 h1
    · omega
  have hbase : ∀ b, bo = some b → base ≤ b := by
    intro b hb
    rcases (hg.blk b hb).1 with h1 | h1
    · exact (hS.at_lt (hat0 b h1)).2
    · have := hS.bas; omega
  have hatE : ∀ s' b, Env.at ⟨E.ρ, fun s' => if s' = s then some ⟨L + B, bo, cp, sz, el, B, false⟩ else E.hd s', fun b o => E.σ b o ∨ (bo = some b ∧ o < L * sz)⟩ s' = some b → (s' = s ∧ bo = some b) ∨ (s' ≠ s ∧ E.at s' = some b) := by
    intro s' b h
    by_cases hs : s' = s
    · left
      subst hs
      refine ⟨rfl, ?_⟩
      simpa [Env.at, hρ] using h
    · right
      exact ⟨hs, by simpa [Env.at, hs] using h⟩
  refine ⟨_, hE, if_pos rfl, fun b hb o ho => ⟨.inr ⟨hb, ho⟩, hcell' b hb o ho⟩, hσ, ?_⟩
  constructor
  · refine hS.dfr.step (fun b o hb hn => (hg.oth b (Array.getElem?_eq_some_iff.1 hb).1 (.inl fun h0 => ?_)).trans hb) (upd_jmp hnj)
    obtain ⟨c, e, f, hc⟩ := (hS.at_cells (hat0 b h0)).1
    rw [hc] at hb
    exact hn c e f (Option.some.inj hb).symm
  · exact fun n => (hS.slots n).mono hE hσ
  · intro s'
    show BR _ _ base s' (upd st.blocks s (.grow (L + B) el sz) s')
    by_cases hs : s' = s
    · subst hs
      rw [upd_same]
      refine ⟨hρ, _, if_pos rfl, rfl, rfl, fun h => ⟨by rw [(hg.nil h).1, hB h], (hg.nil h).2⟩, fun b hb => ?_, rfl, Nat.le_add_left _ _⟩
      obtain ⟨_, arr, g1, g2, g3, g4, _⟩ := hg.blk b hb
      exact ⟨hbase b hb, hsz, arr, g1, g2, Nat.add_le_add_right g3 _, g4⟩
    · rw [upd_ne _ _ hs]
      exact (hS.blk s').keep hE hσ rfl (by simp [hs]) fun b hb => (hne s' b hs hb).2
  · intro s1 s2 b h1 h2
    rcases hatE s1 b h1 with ⟨k1, k2⟩ | ⟨k1, k2⟩ <;> rcases hatE s2 b h2 with ⟨k3, k4⟩ | ⟨k3, k4⟩
    · exact k1.trans k3.symm
    · exact ((hne s2 b k3 k4).1 k2).elim
    · exact ((hne s1 b k1 k2).1 k4).elim
    · exact hS.inj s1 s2 b k2 k4
  · intro b o h
    rcases h with h | ⟨h, ho⟩
    · obtain ⟨h1, h2, h3⟩ := hS.σok b o h
      have := hg.size
      refine ⟨by omega, h2, fun s' g hg' hb => ?_⟩
      by_cases hs : s' = s
      · subst hs
        simp only [if_pos] at hg'
        cases hg'
        refine ⟨rfl, ?_⟩
        simp only [Nat.add_sub_cancel] at hb ⊢
        rcases (hg.blk b hb).1 with k | k
        · rcases hold with ⟨_, h5, _⟩ | ⟨g, h4, h5, h6, h7, h8⟩
          · rw [h5] at k; cases k
          · have := (h3 s' g h4 (h6.trans k)).2
            rw [h5, h8.2.2.1, Nat.add_sub_cancel, h8.1 (by rw [k]; simp)] at this
            have hL2 : L0 * sz ≤ L * sz := Nat.mul_le_mul_right _ (hL b k hb)
            omega
        · omega
      · simp only [if_neg hs] at hg'
        exact h3 s' g hg' hb
    · obtain ⟨_, arr, g1, _⟩ := hg.blk b h
      refine ⟨(Array.getElem?_eq_some_iff.1 g1).1, fun s' sz' hx => ?_, fun s' g hg' hb => ?_⟩
      · have hx' : E.ρ s' = some (b, sz') := hx
        have hs : s' ≠ s := by rintro rfl; rw [hρ] at hx'; cases hx'
        exact (hne s' b hs (by simp [Env.at, hx'])).1 h
      · by_cases hs : s' = s
        · subst hs
          simp only [if_pos] at hg'
          cases hg'
          exact ⟨rfl, by simpa using ho⟩
        · simp only [if_neg hs] at hg'
          exact ((hne s' b hs (hS.hd_at hg' hb)).1 h).elim
  · refine hS.bel.trans ⟨hg.os, hg.tape, hg.output, hg.size, fun k hk => hg.oth k (by have := hS.bas; omega) (.inl fun h => ?_)⟩
    have := (hS.at_lt (hat0 k h)).2
    omega
  · have := hS.bas; have := hg.size; omega
  · exact fun b o h => .inl (hS.σin b o h)
  · rintro b o (h | ⟨h, _⟩)
    · exact hS.σout b o h
    · exact .inr (hbase b h)
  · exact fun q p v h => (hS.fr q p v h).mono (Env.only_le hE q) hσ

theorem SR.stkd (hS : SR E base w0 st a w) {s ver el sz L0 L cp0 cp : Nat} {bo0 bo : Option Nat} {xs : List Value} {get : Nat → List PV} (hg : Grew0 w w' el sz bo0 cp0 L0 L xs bo cp) (hsz : 0 < sz) (hρ : E.ρ s = none)
    (hold : (E.hd s = none ∧ bo0 = none) ∨ ∃ g, E.hd s = some g ∧ g.own = true ∧ g.L < ver ∧ g.bo = bo0)
    (hl : ∀ i, i < L → (get i).length = sz) (hget : ∀ i, i < L → ∀ j, j < sz → RelP E.σ w ((get i).getD j .junk) (xs.getD (i * sz + j) undef)) (hnj : ∀ j, st.blocks s ≠ .jmp j) :
    ∃ E', E.le E' ∧ E'.hd s = some ⟨ver, bo, cp, sz, el, L, true⟩ ∧ SR E' base w0 (st.setB (some (s, .stk ver L el sz get))) a w' := by
  have hat0 : ∀ b, bo0 = some b → E.at s = some b := by
    intro b hb
    rcases hold with ⟨_, h2⟩ | ⟨g, h1, _, _, h3⟩
    · rw [h2] at hb; cases hb
    · simp [Env.at, hρ, h1, h3, hb]
  have hnσ : ∀ b o, E.σ b o → bo0 ≠ some b := by
    intro b o h hb
    rcases hold with ⟨_, h2⟩ | ⟨g, h1, h4, _, h3⟩
    · rw [h2] at hb; cases hb
    · have := ((hS.σok b o h).2.2 s g h1 (h3.trans hb)).1
      rw [h4] at this; cases this
  have hσ : ∀ b o, E.σ b o → w'.cell? ⟨b, o, none⟩ = w.cell? ⟨b, o, none⟩ := fun b o h => cell_of_heap (hg.oth b (hS.σok b o h).1 (.inl (hnσ b o h)))
  have hE : E.le ⟨E.ρ, fun s' => if s' = s then some ⟨ver, bo, cp, sz, el, L, true⟩ else E.hd s', E.σ⟩ := by
    refine ⟨fun _ _ h => h, fun _ _ h => h, fun s' g h => ?_⟩
    by_cases hs : s' = s
    · subst hs
      refine ⟨_, if_pos rfl, ?_⟩
      rcases hold with ⟨h1, _⟩ | ⟨g', h1, _, h2, _⟩
      · rw [h1] at h; cases h
      · rw [h1] at h
        cases h
        exact ⟨Nat.le_of_lt h2, fun hl => by simp only at hl; omega⟩
    · exact ⟨g, by simp [hs, h], Nat.le_refl _, fun _ => ⟨rfl, rfl, rfl⟩⟩
  have hne : ∀ s' b, s' ≠ s → E.at s' = some b → bo ≠ some b ∧ w'.heap[b]? = w.heap[b]? := by
    intro s' b hs hat
    have hlt := (hS.at_lt hat).1
    have h0 : bo0 ≠ some b := fun h => hs (hS.inj s' s b hat (hat0 b h))
    refine ⟨fun h => ?_, hg.oth b hlt (.inl h0)⟩
    rcases (hg.blk b h).1 with h1 | h1
    · exact h0 h1
    · omega
  have hbase : ∀ b, bo = some b → base ≤ b := by
    intro b hb
    rcases (hg.blk b hb).1 with h1 | h1
    · exact (hS.at_lt (hat0 b h1)).2
    · have := hS.bas; omega
  have hatE : ∀ s' b, Env.at ⟨E.ρ, fun s' => if s' = s then some ⟨ver, bo, cp, sz, el, L, true⟩ else E.hd s', E.σ⟩ s' = some b → (s' = s ∧ bo = some b) ∨ (s' ≠ s ∧ E.at s' = some b) := by
    intro s' b h
    by_cases hs : s' = s
    · left
      subst hs
      refine ⟨rfl, ?_⟩
      simpa [Env.at, hρ] using h
    · right
      exact ⟨hs, by simpa [Env.at, hs] using h⟩
  refine ⟨_, hE, if_pos rfl, ?_⟩
  constructor
  · refine hS.dfr.step (fun b o hb hn => (hg.oth b (Array.getElem?_eq_some_iff.1 hb).1 (.inl fun h0 => ?_)).trans hb) (upd_jmp hnj)
    obtain ⟨c, e, f, hc⟩ := (hS.at_cells (hat0 b h0)).1
    rw [hc] at hb
    exact hn c e f (Option.some.inj hb).symm
  · exact fun n => (hS.slots n).mono hE hσ
  · intro s'
    show BR _ _ base s' (upd st.blocks s (.stk ver L el sz get) s')
    by_cases hs : s' = s
    · subst hs
      rw [upd_same]
      refine ⟨hρ, _, if_pos rfl, rfl, rfl, rfl, hg.nil, ⟨hsz, hl⟩, fun b hb => ?_⟩
      obtain ⟨_, arr, g1, g2, g3, g4, g5⟩ := hg.blk b hb
      refine ⟨hbase b hb, hsz, arr, g1, g2, g3, g4, fun i hi j hj => ?_⟩
      have : i * sz + sz ≤ L * sz := by rw [← Nat.succ_mul]; exact Nat.mul_le_mul_right _ hi
      rw [g5 _ (by omega)]
      exact (hget i hi j hj).mono (fun _ _ h => h) hσ
    · rw [upd_ne _ _ hs]
      exact (hS.blk s').keep hE hσ rfl (by simp [hs]) fun b hb => (hne s' b hs hb).2
  · intro s1 s2 b h1 h2
    rcases hatE s1 b h1 with ⟨k1, k2⟩ | ⟨k1, k2⟩ <;> rcases hatE s2 b h2 with ⟨k3, k4⟩ | ⟨k3, k4⟩
    · exact k1.trans k3.symm
    · exact ((hne s2 b k3 k4).1 k2).elim
    · exact ((hne s1 b k1 k2).1 k4).elim
    · exact hS.inj s1 s2 b k2 k4
  · intro b o h
    obtain ⟨h1, h2, h3⟩ := hS.σok b o h
    have := hg.size
    refine ⟨by omega, h2, fun s' g hg' hb => ?_⟩
    by_cases hs : s' = s
    · subst hs
      simp only [if_pos] at hg'
      cases hg'
      simp only at hb
      rcases (hg.blk b hb).1 with k | k
      · exact (hnσ b o h k).elim
      · omega
    · simp only [if_neg hs] at hg'
      exact h3 s' g hg' hb
  · refine hS.bel.trans ⟨hg.os, hg.tape, hg.output, hg.size, fun k hk => hg.oth k (by have := hS.bas; omega) (.inl fun h => ?_)⟩
    have := (hS.at_lt (hat0 k h)).2
    omega
  · have := hS.bas; have := hg.size; omega
  · exact hS.σin
  · exact hS.σout
  · exact fun q p v h => (hS.fr q p v h).mono (Env.only_le hE q) hσ

theorem Rel.tslice_inv {s len : Nat} {get : Nat → List PV} {v : Value} (h : Rel E w (.slice (some s) len get) v) :
    ∃ a cap g, v = .slice a len cap ∧ RelP E.σ w (.slice none len get) v ∧ E.hd s = some g ∧ len ≤ g.L ∧ (len = g.L → a = g.bo.map (fun b => ⟨b, 0, none⟩) ∧ cap = g.cp ∧ g.ln = 0) := by
  cases h with
  | pure h => cases h
  | tslice _ _ _ a cap h g hh hL hx => exact ⟨a, cap, g, rfl, h, hh, hL, hx⟩

variable (hC : CtxOk P C) (hS : SR E base w0 st a w) {d ty : Nat} {o : Oper}
include hS

theorem o_assignNil {x : Operand} (ho : o.op = .assign x) (hx : nilConst x = true) : OpOk P base w0 st a w o (evalOp C (V.ev st.slots) st.blocks d ty o.op) := by
  have hv : a.eval x = .slice none 0 0 := by
    unfold nilConst at hx
    split at hx
    · rfl
    · cases hx
  have hrun : (execOp a.eval o).run P w = .ok (.value (.slice none 0 0)) w := by simp [execOp, ho, hv]
  simp only [ho, evalOp, hx, cond_true]
  split
  · rename_i el _ _ _ _ h1 h2
    have hn := hS.blk d
    rw [h2] at hn
    split
    · rename_i te _
      cases hte : Nat.ble 1 te.size with
      | false =>
        simp only [cond_false]
        intro next Q hnx
        simp only [Oper.wp, hrun, Oper.upon]
        exact hnx E w _ hS (.pure .nils)
      | true =>
      simp only [cond_true]
      have hpos := Nat.le_of_ble_eq_true hte
      have hg : Grew0 w w el te.size none 0 0 0 [] none 0 := ⟨fun _ => ⟨rfl, rfl⟩, (fun b h => nomatch h), fun _ _ _ => rfl, rfl, rfl, rfl, Nat.le_refl _⟩
      cases hlit : has C.lits d with
      | true =>
        simp only [cond_true]
        obtain ⟨E', k1, k2, k5⟩ := SR.stkd hS (s := d) (ver := 0) (get := fun _ => []) hg (by omega) hn.1 (.inl ⟨hn.2, rfl⟩) (fun i hi => by omega) (fun i hi => by omega) (fun j h => by rw [h2] at h; cases h)
        intro next Q hnx
        simp only [Oper.wp, hrun, Oper.upon]
        exact hnx E' w _ k5 (.stk d 0 0 none 0 _ k2 (Nat.le_refl _) fun _ => ⟨rfl, rfl, rfl⟩)
      | false =>
      simp only [cond_false]
      obtain ⟨E', k1, k2, _, k4, k5⟩ := SR.grew hS 0 0 hg (by omega) (fun _ _ _ => Nat.le_refl _) (Nat.le_refl _) (fun _ => rfl) hn.1 (.inl ⟨hn.2, rfl, rfl⟩) (fun b h => nomatch h) (fun j h => by rw [h2] at h; cases h)
      intro next Q hnx
      simp only [Oper.wp, hrun, Oper.upon]
      refine hnx E' w _ k5 (.tslice d 0 _ none 0 ?_ _ k2 (Nat.le_refl _) fun _ => ⟨rfl, rfl, rfl⟩)
      exact .slice 0 _ none 0 0 0 0 (fun _ _ => undef) (Nat.le_refl _) (by omega) (fun _ => rfl) (by intro i hi; omega) (by intro i hi; omega) (by intro i hi; omega)
    · intro next Q hnx
      simp only [Oper.wp, hrun, Oper.upon]
      exact hnx E w _ hS (.pure .nils)
  · intro next Q hnx
    simp only [Oper.wp, hrun, Oper.upon]
    exact hnx E w _ hS (.pure .nils)

omit hS in
theorem view_news {n sz : Nat} {get : Nat → List PV} {ax : Option Addr} {cx : Nat} (hpos : 0 < sz) (h : RelP E.σ w (.slice none n get) (.slice ax n cx)) (hg : ∀ i, i < n → (get i).length = sz ∧ (get i).all sc1 = true) :
    ∃ c : Nat → Nat → Value, (∀ i, i < n → ∀ j, j < sz → RelP E.σ w ((get i).getD j .junk) (c i j)) ∧ (ax = none → n = 0 ∧ cx = 0) ∧
      (∀ ad, ax = some ad → ∀ j u, ((List.range (n * sz)).map fun q => c (q / sz) (q % sz))[j]? = some u → w.cell? (ad.add j) = some u) ∧ ∀ u ∈ (List.range (n * sz)).map (fun q => c (q / sz) (q % sz)), u.oneCell' = true := by
  cases h with
  | slice _ _ _ _ b o' sz' c hc ha hn hl q1 q2 =>
    refine ⟨c, fun i hi j hj => q2 i hi j (by rw [← hl i hi, (hg i hi).1]; exact hj), fun hnone => ?_, fun ad had j u hu => ?_, fun u hu => ?_⟩
    · refine ⟨?_, hn hnone⟩
      rcases Nat.eq_zero_or_pos n with h0 | h0
      · exact h0
      · have := ha h0; rw [hnone] at this; cases this
    · simp only [List.getElem?_map, Option.map_eq_some_iff] at hu
      obtain ⟨q, hq, rfl⟩ := hu
      obtain ⟨hlt, rfl⟩ := List.getElem?_eq_some_iff.1 hq
      simp at hlt
      simp only [List.getElem_range]
      have hi : j / sz < n := by rw [Nat.div_lt_iff_lt_mul hpos]; exact hlt
      have hs : sz' = sz := by rw [← hl _ hi, (hg _ hi).1]
      subst hs
      have h0 : 0 < n := Nat.lt_of_le_of_lt (Nat.zero_le _) hi
      have := ha h0
      rw [had] at this
      cases this
      have := (q1 _ hi (j % sz') (Nat.mod_lt _ hpos)).2
      have e : o' + j / sz' * sz' + j % sz' = o' + j := by rw [Nat.add_assoc, Nat.mul_comm, Nat.div_add_mod]
      rw [e] at this
      rw [add_none]; exact this
    · simp only [List.mem_map, List.mem_range] at hu
      obtain ⟨q, hq, rfl⟩ := hu
      have hi : q / sz < n := by rw [Nat.div_lt_iff_lt_mul hpos]; exact hq
      have hs : sz' = sz := by rw [← hl _ hi, (hg _ hi).1]
      subst hs
      have hm := Nat.mod_lt q hpos
      exact sc1_one (E := E) (.pure (q2 _ hi _ hm)) (all_getD (hg _ hi).2 _ (by rw [(hg _ hi).1]; exact hm))

include hC
theorem o_buildSlice {t len : Nat} {ps : Array (Nat × Operand)} (ho : o.op = .buildSlice t len ps) (hp : (evalOp C (V.ev st.slots) st.blocks d ty o.op).pre.getD True) : OpOk P base w0 st a w o (evalOp C (V.ev st.slots) st.blocks d ty o.op) := by
  simp only [ho, evalOp] at hp ⊢
  split at hp
  · rename_i el _ _ _ _ h1
    have hd := und_slice (hC.types _ _ h1).desc
    cases hl : look C.types el with
    | none => rw [hl] at hp; exact hp.elim
    | some te =>
      have ht := hC.types _ _ hl
      simp only [hl] at hp ⊢
      cases hq : (Nat.ble (len * te.size) 16777216 && Nat.ble 1 te.size) with
      | false => rw [hq] at hp; exact hp.elim
      | true =>
        rw [hq] at hp
        simp only [cond_true] at hp ⊢
        simp only [Bool.and_eq_true] at hq
        have q1 := Nat.le_of_ble_eq_true hq.1
        have q2 := Nat.le_of_ble_eq_true hq.2
        cases hf : fillParts (fun i => some (i * te.size, te.size)) (V.ev st.slots) ps.toList (reps len te.zero) with
        | none => rw [hf] at hp; exact hp.elim
        | some l =>
          simp only [hf] at hp ⊢
          obtain ⟨z, hz, hzr⟩ := zero_row (E := E) (w := w) ht
          have hz0 := zeros_row ht hzr len
          obtain ⟨c', g1, g2⟩ := fill_sound hS _ ps.toList _ l _ hf hz0
          have hsz : c'.size = len * te.size := by
            rw [g2.1, fillParts_len _ _ _ _ _ hf, reps_len, ht.len]
          have hrun : (execOp a.eval o).run P w = .ok (.value (.slice (some ⟨w.heap.size, 0, none⟩) len len)) (w.alloc (.cells c' el)) := by
            have hps : (ps.map fun (i, x) => (i, a.eval x)).toList = ps.toList.map fun p => (p.1, a.eval p.2) := by simp
            simp only [execOp, ho, Instr.buildSlice, Sem.run_bind, run_und w hd, Result.andThen_ok, ht.run_size, hps]
            rw [if_neg (by omega)]
            have hr0 : Array.range 0 = #[] := rfl
            by_cases h0 : len * te.size = 0
            · simp only [h0, hr0, Array.map_empty] at g1
              rw [if_pos h0]
              simp only [Sem.run_bind, Sem.run_pure, Result.andThen_ok, h0, hr0, Array.map_empty, g1]
              simp [newRow]
            · rw [if_neg h0]
              simp only [Sem.run_bind, Sem.run_pure, Result.andThen_ok, hz, g1]
              simp [newRow]
          cases h0 : (Nat.beq len 0 || has C.lits d) with
          | true =>
            rw [h0] at hp
            simp only [cond_true] at hp ⊢
            cases hbd : st.blocks d with
            | none =>
              simp only [hbd] at hp ⊢
              cases hpl : (l.map toView).all plain1 with
              | false => rw [hpl] at hp; exact hp.elim
              | true =>
              simp only [cond_true]
              have hn := hS.blk d
              rw [hbd] at hn
              have hg : Grew0 w (w.alloc (.cells c' el)) el te.size none 0 0 len c'.toList (some w.heap.size) len :=
                ⟨(fun h => nomatch h), fun b hb => by
                  simp only [Option.some.injEq] at hb
                  subst hb
                  refine ⟨.inr (Nat.le_refl _), _, heap_alloc_new' w _, by omega, Nat.le_refl _, ?_, fun j hj => ?_⟩
                  · have : len * 1 ≤ len * te.size := Nat.mul_le_mul_left _ q2
                    unfold maxLen
                    omega
                  · simp [List.getD, Array.getD, show j < c'.size by omega], fun k hk _ => heap_alloc_lt w _ hk, rfl, rfl, rfl, by simp⟩
              cases hzl : (Nat.beq len 0 && has C.lits d) with
              | true =>
                simp only [cond_true]
                simp only [Bool.and_eq_true] at hzl
                obtain rfl := Nat.eq_of_beq_eq_true hzl.1
                obtain ⟨E', k1, k2, k5⟩ := SR.stkd hS (s := d) (ver := 0) (get := fun _ => []) hg (by omega) hn.1 (.inl ⟨hn.2, rfl⟩) (fun i hi => by omega) (fun i hi => by omega) (fun j h => by rw [hbd] at h; cases h)
                intro next Q hnx
                simp only [Oper.wp, hrun, Oper.upon]
                exact hnx E' _ _ k5 (.stk d 0 0 _ 0 _ k2 (Nat.le_refl _) fun _ => ⟨rfl, rfl, rfl⟩)
              | false =>
              simp only [cond_false]
              obtain ⟨E', k1, k2, k3, k4, k5⟩ := SR.grew hS 0 0 hg (by omega) (fun _ _ _ => Nat.zero_le _) (Nat.zero_le _) (fun _ => rfl) hn.1 (.inl ⟨hn.2, rfl, rfl⟩) (fun b h => nomatch h) (fun j h => by rw [hbd] at h; cases h)
              intro next Q hnx
              simp only [Oper.wp, hrun, Oper.upon]
              refine hnx E' _ _ k5 (.tslice d len _ _ len ?_ _ k2 (Nat.le_refl _) fun _ => ⟨rfl, rfl, rfl⟩)
              refine .slice _ _ _ _ w.heap.size 0 te.size (fun i j => c'.getD (i * te.size + j) undef) (Nat.le_refl _) (fun _ => rfl) (by intro h; cases h) ?_ ?_ ?_
              · intro i hi
                have hb : i * te.size + te.size ≤ len * te.size := by rw [← Nat.succ_mul]; exact Nat.mul_le_mul_right _ hi
                have := g2.1
                simp; omega
              · intro i hi j hj
                have hb : i * te.size + te.size ≤ len * te.size := by rw [← Nat.succ_mul]; exact Nat.mul_le_mul_right _ hi
                have := k3 w.heap.size rfl (i * te.size + j) (by omega)
                rw [Nat.zero_add]
                refine ⟨this.1, this.2.trans ?_⟩
                simp [List.getD, Array.getD, show i * te.size + j < c'.size by omega]
              · intro i hi j hj
                have hb : i * te.size + te.size ≤ len * te.size := by rw [← Nat.succ_mul]; exact Nat.mul_le_mul_right _ hi
                rw [getD_take_drop hj]
                have hlt : i * te.size + j < l.length := by rw [← g2.1]; omega
                have e1 : (l.map toView).getD (i * te.size + j) .junk = toView (l.getD (i * te.size + j) .junk) := by simp [List.getD, hlt]
                have h2 := all_getD hpl (i * te.size + j) (by simpa using hlt)
                rw [e1] at h2 ⊢
                exact (plain1_relP h2 (toView_rel (g2.2 _ hlt))).mono k1.σ k4
            | _ => rw [hbd] at hp; exact hp.elim
          | false =>
          rw [h0] at hp
          simp only [cond_false] at hp ⊢
          cases hpl : (l.map toView).all plain1 with
          | false => rw [hpl] at hp; exact hp.elim
          | true =>
          simp only [cond_true]
          obtain ⟨E', hE, hσ, hS', hw⟩ := SR.view_new hS c' el
          intro next Q hn
          simp only [Oper.wp, hrun, Oper.upon]
          refine hn E' _ _ hS' (.pure (.slice _ _ _ _ w.heap.size 0 te.size (fun i j => c'.getD (i * te.size + j) undef) (Nat.le_refl _) (fun _ => rfl) (by intro h; cases h) ?_ ?_ ?_))
          · intro i hi
            have hb : i * te.size + te.size ≤ len * te.size := by rw [← Nat.succ_mul]; exact Nat.mul_le_mul_right _ hi
            have := g2.1
            simp; omega
          · intro i hi j hj
            have hb : i * te.size + te.size ≤ len * te.size := by rw [← Nat.succ_mul]; exact Nat.mul_le_mul_right _ hi
            refine ⟨hσ _, ?_⟩
            simp only [World.cell?, heap_alloc_new', Nat.zero_add]
            simp [Array.getD, show i * te.size + j < c'.size by omega]
          · intro i hi j hj
            have hb : i * te.size + te.size ≤ len * te.size := by rw [← Nat.succ_mul]; exact Nat.mul_le_mul_right _ hi
            rw [getD_take_drop hj]
            have hlt : i * te.size + j < l.length := by rw [← g2.1]; omega
            have e1 : (l.map toView).getD (i * te.size + j) .junk = toView (l.getD (i * te.size + j) .junk) := by simp [List.getD, hlt]
            have h2 := all_getD hpl (i * te.size + j) (by simpa using hlt)
            rw [e1] at h2 ⊢
            exact (plain1_relP h2 (toView_rel (g2.2 _ hlt))).mono hE.σ hw
  · exact hp.elim

theorem o_append {args : Array Operand} {ts : Array TypeId} (ho : o.op = .call { callee := .builtin .append, args := args, argTypes := ts }) (hp : (evalOp C (V.ev st.slots) st.blocks d ty o.op).pre.getD True) :
    OpOk P base w0 st a w o (evalOp C (V.ev st.slots) st.blocks d ty o.op) := by
  simp only [ho, evalOp] at hp ⊢
  split at hp
  · rename_i b tg n get' t t' hargs hts
    obtain ⟨p, q, hpq, hpe, hqe, hp1, hq1⟩ := two_args hS hargs
    cases htt : Nat.beq t t' with
    | false => rw [htt] at hp; exact hp.elim
    | true =>
    obtain rfl := Nat.eq_of_beq_eq_true htt
    rw [htt] at hp
    simp only [cond_true] at hp ⊢
    obtain ⟨ax, cx, ex, hxr⟩ := hq1.slice_inv
    rw [ex] at hxr
    have hcall : ∀ {bv v' w'}, a.eval p = bv → (Builtin.append_ #[t, t] o.type #[bv, .slice ax n cx]).run P w = .ok v' w' → (execOp a.eval o).run P w = .ok (.value v') w' := by
      intro bv v' w' e h
      have e1 : args.map a.eval = #[bv, .slice ax n cx] := by
        apply Array.ext'
        simp [hpq, e, ex]
      have e2 : ts = #[t, t] := by apply Array.ext'; simp [hts]
      simp [execOp, ho, resolve, invoke, builtin, e1, e2, h]
    split at hp
    · rename_i el _ _ _ _ h1
      have hd := und_slice (hC.types _ _ h1).desc
      cases hl : look C.types el with
      | none => rw [hl] at hp; exact hp.elim
      | some te =>
      have ht := hC.types _ _ hl
      simp only [hl] at hp ⊢
      cases hsz : Nat.ble 1 te.size with
      | false => rw [hsz] at hp; exact hp.elim
      | true =>
      have hpos := Nat.le_of_ble_eq_true hsz
      rw [hsz] at hp
      simp only [cond_true] at hp ⊢
      cases b with
      | nils =>
        simp only at hp ⊢
        cases hbd : st.blocks d with
        | none =>
          simp only [hbd, Option.getD_some] at hp ⊢
          obtain ⟨p1, p2, p3⟩ := hp
          have hn := hS.blk d
          rw [hbd] at hn
          obtain ⟨c, c1, c2, c3, c4⟩ := view_news hpos hxr p3
          obtain ⟨w', bo, cp, r1, r2⟩ := append_run (P := P) (w := w) (ty := o.type) (bo0 := none) (L0 := 0) (cp0 := 0) (cx := cx) hd ht (fun _ => ⟨rfl, rfl⟩) #[] (fun b h => nomatch h) _ (by simp) c2 c3 c4 (by omega) (by simpa using p2)
          simp only [Nat.zero_add, Nat.zero_mul, List.take_zero, List.nil_append, Option.map_none] at r1 r2
          obtain ⟨E', k1, k2, k3, k4, k5⟩ := SR.grew hS 0 0 r2.toGrew0 hpos (fun _ _ _ => Nat.zero_le _) (Nat.zero_le _) (fun _ => rfl) hn.1 (.inl ⟨hn.2, rfl, rfl⟩) (fun b h => nomatch h) (fun j h => by rw [hbd] at h; cases h)
          intro next Q hnx
          simp only [Oper.wp, hcall hp1.nils_inv r1, Oper.upon]
          refine hnx E' w' _ k5 (.tslice d n get' _ cp ?_ _ k2 (Nat.le_refl _) fun _ => ⟨rfl, rfl, rfl⟩)
          cases hbo : bo with
          | none =>
            obtain ⟨z1, z2⟩ := r2.nil hbo
            subst z1; subst z2
            exact .slice 0 _ none 0 0 0 0 (fun _ _ => undef) (Nat.le_refl _) (by omega) (fun _ => rfl) (by intro i hi; omega) (by intro i hi; omega) (by intro i hi; omega)
          | some b =>
            obtain ⟨_, arr, _, _, hle, _, _⟩ := r2.blk b hbo
            refine .slice n get' _ cp b 0 te.size c hle (fun _ => rfl) (fun h => nomatch h) (fun i hi => (p3 i hi).1) (fun i hi j hj => ?_) (fun i hi j hj => (c1 i hi j hj).mono k1.σ k4)
            have hlt : i * te.size + j < n * te.size := by
              have : i * te.size + te.size ≤ n * te.size := by rw [← Nat.succ_mul]; exact Nat.mul_le_mul_right _ hi
              omega
            have := k3 b hbo (i * te.size + j) hlt
            have e : ((List.range (n * te.size)).map fun q => c (q / te.size) (q % te.size)).getD (i * te.size + j) undef = c i j := by
              have e1 : (i * te.size + j) / te.size = i := by rw [Nat.mul_comm, Nat.mul_add_div hpos, Nat.div_eq_of_lt hj]; simp
              have e2 : (i * te.size + j) % te.size = j := by rw [Nat.mul_comm, Nat.mul_add_mod, Nat.mod_eq_of_lt hj]
              simp [List.getD, hlt, e1, e2]
            rw [e] at this
            simpa using this
        | _ => rw [hbd] at hp; exact hp.elim
      | slice tag len get =>
        cases tag with
        | none => exact hp.elim
        | some s =>
        simp only at hp ⊢
        cases hbd : st.blocks s with
        | grow L el' sz' =>
          simp only [hbd] at hp ⊢
          cases hel : (Nat.beq el el' && Nat.beq sz' te.size) with
          | false => rw [hel] at hp; exact hp.elim
          | true =>
          rw [hel] at hp
          simp only [cond_true, Option.getD_some] at hp ⊢
          simp only [Bool.and_eq_true] at hel
          obtain rfl := Nat.eq_of_beq_eq_true hel.1
          obtain rfl := Nat.eq_of_beq_eq_true hel.2
          obtain ⟨rfl, p1, p2, p4, p3⟩ := hp
          have hb := hS.blk s
          rw [hbd] at hb
          obtain ⟨b1, g, b2, b3, b4, b5, b6, b7⟩ := hb
          obtain ⟨av, cv, g', ev', hvr, gh, gL, gx⟩ := hp1.tslice_inv
          rw [b2] at gh
          cases gh
          obtain ⟨rfl, rfl, gx0⟩ := gx b3.symm
          rw [ev'] at hvr
          rw [gx0, Nat.add_zero] at b6
          obtain ⟨c, c1, c2, c3, c4⟩ := view_news hpos hxr p3
          obtain ⟨arr0, ha0⟩ : ∃ arr0, ∀ b, g.bo = some b → w.heap[b]? = some (.cells arr0 el (0, 0)) ∧ arr0.size = g.cp * te.size ∧ L ≤ g.cp ∧ g.cp ≤ maxLen := by
            cases hgo : g.bo with
            | none => exact ⟨#[], fun b h => nomatch h⟩
            | some b =>
              obtain ⟨_, _, arr, z⟩ := b6 b hgo
              rw [b4] at z
              exact ⟨arr, fun b' hb' => by cases hb'; exact z⟩
          obtain ⟨w', bo, cp, r1, r2⟩ := append_run (P := P) (w := w) (ty := o.type) (bo0 := g.bo) (L0 := L) (cp0 := g.cp) (cx := cx) hd ht b5 arr0 ha0 _ (by simp) c2 c3 c4 p1 p2
          have hxs : ∀ b, g.bo = some b → ∀ o, o < L * te.size → w.cell? ⟨b, o, none⟩ = some ((arr0.toList.take (L * te.size) ++ (List.range (n * te.size)).map fun q => c (q / te.size) (q % te.size)).getD o undef) := by
            intro b hb o ho
            obtain ⟨z1, z2, z3, z4⟩ := ha0 b hb
            have : L * te.size ≤ g.cp * te.size := Nat.mul_le_mul_right _ z3
            rw [getD_app_l _ _ (by simp; omega)]
            simp [World.cell?, z1, List.getD, ho, show o < arr0.size by omega]
          obtain ⟨E', k1, k2, k3, k4, k5⟩ := SR.grew hS 0 0 r2.toGrew0 hpos (fun _ _ _ => by omega) (by omega) (fun _ => rfl) b1 (.inr ⟨g, b2, b3, rfl, rfl, fun _ => b4, b7.1, gx0, fun hl => ⟨(r2.same hl).1, (r2.same hl).2, rfl⟩⟩) (fun b h _ => hxs b h) (fun j h => by rw [hbd] at h; cases h)
          intro next Q hnx
          simp only [Oper.wp, hcall ev' r1, Oper.upon]
          refine hnx E' w' _ k5 (.tslice s (L + n) _ _ cp ?_ _ k2 (Nat.le_refl _) fun _ => ⟨rfl, rfl, rfl⟩)
          cases hbo : bo with
          | none =>
            obtain ⟨z1, z2⟩ := r2.nil hbo
            rw [z1, z2]
            exact .slice 0 _ none 0 0 0 0 (fun _ _ => undef) (Nat.le_refl _) (by omega) (fun _ => rfl) (by intro i hi; omega) (by intro i hi; omega) (by intro i hi; omega)
          | some b =>
            obtain ⟨_, arr, _, _, hle, _, _⟩ := r2.blk b hbo
            cases hvr with
            | slice _ _ _ _ vb vo vsz vc hvc hva hvn hvl vq1 vq2 =>
            refine .slice (L + n) _ _ cp b 0 te.size (fun i j => if i < L then vc i j else c (i - L) j) hle (fun _ => rfl) (fun h => nomatch h) (fun i hi => ?_) (fun i hi j hj => ?_) (fun i hi j hj => ?_)
            · by_cases hiL : i < L
              · simp only [blt_t hiL, cond_true]; exact p4 i hiL
              · simp only [blt_f hiL, cond_false]; exact (p3 (i - L) (by omega)).1
            · have hlt : i * te.size + j < (L + n) * te.size := by
                have : i * te.size + te.size ≤ (L + n) * te.size := by rw [← Nat.succ_mul]; exact Nat.mul_le_mul_right _ hi
                omega
              have := k3 b hbo (i * te.size + j) hlt
              refine ⟨by simpa using this.1, ?_⟩
              rw [Nat.zero_add, this.2]
              congr 1
              by_cases hiL : i < L
              · rw [if_pos hiL]
                have hlt2 : i * te.size + j < L * te.size := by
                  have : i * te.size + te.size ≤ L * te.size := by rw [← Nat.succ_mul]; exact Nat.mul_le_mul_right _ hiL
                  omega
                have hvsz : vsz = te.size := by rw [← hvl i hiL, p4 i hiL]
                subst hvsz
                have h1 := (vq1 i hiL j hj).2
                have hva' := hva (by omega)
                cases hgo : g.bo with
                | none => rw [hgo] at hva'; cases hva'
                | some b0 =>
                  rw [hgo] at hva'
                  simp only [Option.map_some, Option.some.injEq, Addr.mk.injEq] at hva'
                  obtain ⟨rfl, rfl, _⟩ := hva'
                  have h2 := hxs b0 hgo _ hlt2
                  rw [Nat.zero_add] at h1
                  rw [h1] at h2
                  exact (Option.some.inj h2).symm
              · rw [if_neg hiL]
                have hll : (arr0.toList.take (L * te.size)).length = L * te.size := by
                  cases hgo : g.bo with
                  | none => rw [(b5 hgo).1]; simp
                  | some b0 =>
                    obtain ⟨z1, z2, z3, z4⟩ := ha0 b0 hgo
                    have : L * te.size ≤ g.cp * te.size := Nat.mul_le_mul_right _ z3
                    simp; omega
                have hge : L * te.size ≤ i * te.size := Nat.mul_le_mul_right _ (by omega)
                rw [getD_app_r _ _ (by omega), hll]
                have e0 : i * te.size + j - L * te.size = (i - L) * te.size + j := by rw [Nat.sub_mul]; omega
                rw [e0]
                have hlt3 : (i - L) * te.size + j < n * te.size := by
                  have : (i - L) * te.size + te.size ≤ n * te.size := by rw [← Nat.succ_mul]; exact Nat.mul_le_mul_right _ (by omega)
                  omega
                have e1 : ((i - L) * te.size + j) / te.size = i - L := by rw [Nat.mul_comm, Nat.mul_add_div hpos, Nat.div_eq_of_lt hj]; simp
                have e2 : ((i - L) * te.size + j) % te.size = j := by rw [Nat.mul_comm, Nat.mul_add_mod, Nat.mod_eq_of_lt hj]
                simp [List.getD, hlt3, e1, e2]
            · by_cases hiL : i < L
              · rw [if_pos hiL]
                simp only [blt_t hiL, cond_true]
                have hvsz : vsz = te.size := by rw [← hvl i hiL, p4 i hiL]
                exact (vq2 i hiL j (by omega)).mono k1.σ k4
              · rw [if_neg hiL]
                simp only [blt_f hiL, cond_false]
                exact (c1 (i - L) (by omega) j hj).mono k1.σ k4
        | _ => rw [hbd] at hp; exact hp.elim
      | _ => exact hp.elim
    · exact hp.elim
  · exact hp.elim

omit hC hS in
theorem RowR.append {l l' : List PV} {c c' : Array Value} (h : RowR E w l c) (h' : RowR E w l' c') : RowR E w (l ++ l') (c ++ c') := by
  refine ⟨by simp [h.1, h'.1], fun i hi => ?_⟩
  have h1 := h.1
  have h2 := h'.1
  by_cases hlt : i < l.length
  · have e1 : (l ++ l').getD i .junk = l.getD i .junk := by simp [List.getD, List.getElem?_append_left hlt]
    have e2 : (c ++ c').getD i undef = c.getD i undef := by
      have : i < c.size := by omega
      simp [Array.getD, this, show i < c.size + c'.size by omega]
    rw [e1, e2]; exact h.2 i hlt
  · simp at hi
    have e1 : (l ++ l').getD i .junk = l'.getD (i - l.length) .junk := by simp [List.getD, List.getElem?_append_right (show l.length ≤ i by omega)]
    have e2 : (c ++ c').getD i undef = c'.getD (i - l.length) undef := by
      rw [← h1]
      simp [Array.getD, show i < c.size + c'.size by omega, show i - c.size < c'.size by omega, Array.getElem_append_right (show c.size ≤ i by omega)]
    rw [e1, e2]; exact h'.2 _ (by omega)

theorem o_call {f : Operand} {args : Array Operand} {ts : Array TypeId} (ho : o.op = .call { callee := .value f, args := args, argTypes := ts }) (hp : (evalOp C (V.ev st.slots) st.blocks d ty o.op).pre.getD True) :
    OpOk P base w0 st a w o (evalOp C (V.ev st.slots) st.blocks d ty o.op) := by
  have hf := hS.ev f
  simp only [ho, evalOp] at hp ⊢
  split at hp
  · rename_i g xs ys h
    rw [h] at hf
    obtain ⟨va, vb, e, ha, hb, h1, h2⟩ := hf.fn_inv
    cases hl : look C.specs g with
    | none => simp only [hl] at hp; exact hp.elim
    | some s =>
      simp only [hl] at hp ⊢
      cases hpl : ((xs ++ (args.toList.map (V.ev st.slots) ++ ys)).map export1).all plain2 with
      | false => rw [hpl] at hp; exact hp.elim
      | true =>
        rw [hpl] at hp
        simp only [cond_true] at hp ⊢
        obtain ⟨hsnd, fn, fc, hfn, hnm, hbd⟩ := hC.specs g s hl
        have hnm' : fn.name ≠ "runtime.NumGoroutine" := by simpa using hnm
        have hrow : RowR E w (xs ++ (args.toList.map (V.ev st.slots) ++ ys)) (va ++ (args.map a.eval ++ vb)) := by
          refine RowR.append ⟨ha, h1⟩ (RowR.append ⟨by simp, fun i hi => ?_⟩ ⟨hb, h2⟩)
          simp at hi
          have := hS.ev args[i]
          simpa [List.getD, Array.getD, hi] using this
        have hvals : ∀ i, i < ((xs ++ (args.toList.map (V.ev st.slots) ++ ys)).map export1).length → RelP E.σ w (((xs ++ (args.toList.map (V.ev st.slots) ++ ys)).map export1).getD i .junk) ((va ++ (args.map a.eval ++ vb)).getD i undef) := by
          intro i hi
          have hi' : i < (xs ++ (args.toList.map (V.ev st.slots) ++ ys)).length := by simpa using hi
          refine plain2_relP (all_getD hpl i hi) ?_
          have e3 : ((xs ++ (args.toList.map (V.ev st.slots) ++ ys)).map export1).getD i .junk = export1 ((xs ++ (args.toList.map (V.ev st.slots) ++ ys)).getD i .junk) := by
            simp only [List.getD, List.getElem?_map, List.getElem?_eq_getElem hi']
            simp
          rw [e3]
          exact toView_rel (hrow.2 i hi')
        have hc := hsnd _ E.σ w (va ++ (args.map a.eval ++ vb)) (by rw [hrow.1]; simp) hvals (fun b o h => (hS.σok b o h).1) hp
        intro next Q hn
        have hrun : (execOp a.eval o).run P w = .ok (.enter g (va ++ (args.map a.eval ++ vb))) w := by
          simp [execOp, ho, resolve, e, Deferred.ofValue, invoke, callFunc, hfn, hnm', hbd, Array.append_assoc]
        simp only [Oper.wp, hrun, Oper.upon]
        refine hc.mono ?_
        rintro e' w' ⟨v, σ', rfl, hbel, hσ1, hσ2, hv⟩
        have hcell : ∀ b o, E.σ b o → w'.cell? ⟨b, o, none⟩ = w.cell? ⟨b, o, none⟩ := fun b o h => cell_of_heap (hbel.block b (hS.σok b o h).1)
        have hE : E.le ⟨E.ρ, E.hd, σ'⟩ := ⟨fun _ _ h => h, hσ1, fun s g h => ⟨g, h, Nat.le_refl _, fun _ => ⟨rfl, rfl, rfl⟩⟩⟩
        refine hn ⟨E.ρ, E.hd, σ'⟩ w' v ?_ (.pure hv)
        constructor
        · exact hS.dfr.heap fun b hb => hbel.block b hb
        · exact fun n => (hS.slots n).mono hE hcell
        · exact fun s => (hS.blk s).keep hE hcell rfl rfl fun b hb => hbel.block b (hS.at_lt hb).1
        · exact hS.inj
        · intro b o' h
          by_cases hσ : E.σ b o'
          · obtain ⟨z1, z2, z3⟩ := hS.σok b o' hσ
            exact ⟨(hσ2 b o' h).1, z2, z3⟩
          · have hge := (hσ2 b o' h).2 hσ
            refine ⟨(hσ2 b o' h).1, fun s sz hx => ?_, fun s g hg hb => ?_⟩
            · have hx' : E.ρ s = some (b, sz) := hx
              have := (hS.at_lt (s := s) (b := b) (by simp [Env.at, hx'])).1
              omega
            · have hg' : E.hd s = some g := hg
              have := (hS.at_lt (hS.hd_at hg' hb)).1
              omega
        · exact hS.bel.trans (hbel.mono hS.bas)
        · have := hS.bas; have := hbel.size; omega
        · exact fun b o h => hσ1 b o (hS.σin b o h)
        · intro b o' h
          by_cases hσ : E.σ b o'
          · exact hS.σout b o' hσ
          · have := (hσ2 b o' h).2 hσ
            have := hS.bas
            exact .inr (by omega)
        · exact fun q p v h => (hS.fr q p v h).mono (Env.only_le hE q) hcell
  · exact hp.elim

theorem op_sound (hst : ∀ t x y, o.op = .store t x y → o.dst = none) (hp : (evalOp C (V.ev st.slots) st.blocks d ty o.op).pre.getD True) : OpOk P base w0 st a w o (evalOp C (V.ev st.slots) st.blocks d ty o.op) := by
  cases hop : o.op with
  | move x => rw [← hop]; exact (v_move hS hop).op hS
  | assign x =>
    rw [← hop]
    cases hx : nilConst x with
    | true => exact o_assignNil hS hop hx
    | false => exact (v_assign hS hop hx).op hS
  | pick c x y => rw [← hop]; exact (v_pick hS hop hp).op hS
  | nilCheck x => rw [← hop]; exact (v_nilCheck hS hop hp).op hS
  | unOp u t x => rw [← hop]; exact (v_unOp hS hop hp).op hS
  | makeFunc f x y => rw [← hop]; exact (v_makeFunc hS hop).op hS
  | extract x i => rw [← hop]; exact (v_extract hS hop hp).op hS
  | binOp op t x y u => rw [← hop]; exact (v_binOp hC hS hop hp).op hS
  | load t x => rw [← hop]; exact (v_load hC hS hop hp).op hS
  | convert u t x => rw [← hop]; exact (v_convert hC hS hop hp).op hS
  | fieldAddr t x i => rw [← hop]; exact (v_fieldAddr hC hS hop hp).op hS
  | field t x i => rw [← hop]; exact (v_field hC hS hop hp).op hS
  | index t x i => rw [← hop]; exact (v_index hC hS hop hp).op hS
  | indexAddr t x i => rw [← hop]; exact (v_indexAddr hC hS hop hp).op hS
  | slice t x lo hi mx => rw [← hop]; exact (v_slice hC hS hop hp).op hS
  | build t ps => rw [← hop]; exact (v_build hC hS hop hp).op hS
  | alloc t => rw [← hop]; exact o_alloc hC hS hop hp
  | box t x => rw [← hop]; exact o_box hS hop hp
  | buildSlice t n ps => rw [← hop]; exact o_buildSlice hC hS hop hp
  | makeSlice t x y => rw [← hop]; exact o_makeSlice hC hS hop hp
  | store t x y => rw [← hop]; exact o_store hC hS hop (hst t x y hop) hp
  | call c =>
    obtain ⟨cal, args, ts⟩ := c
    cases cal with
    | value f => rw [← hop]; exact o_call hC hS hop hp
    | builtin b =>
      cases b with
      | len => rw [← hop]; exact (v_len hS hop hC hp).op hS
      | max => rw [← hop]; exact (v_max hS hop hp).op hS
      | min => rw [← hop]; exact (v_min hS hop hp).op hS
      | append => rw [← hop]; exact o_append hC hS hop hp
      | _ => rw [hop] at hp; simp [evalOp, R.bad] at hp
    | invoke r m => rw [hop] at hp; simp [evalOp, R.bad] at hp
  | _ => rw [hop] at hp; simp [evalOp, R.bad] at hp

end
end Go.V
