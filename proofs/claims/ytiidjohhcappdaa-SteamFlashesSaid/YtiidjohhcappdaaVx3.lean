/- The evaluator, and that what it finds is so. -/
import Derived.Test.YtiidjohhcappdaaVx2
namespace Go.V

structure XCalls where
  s : Nat → List PV → Option PV
  e : Nat → Nat → List PV → List (Nat × Blk) → Option (PV × List (Nat × Blk))

def specX (X : XCalls) (f : Nat) : Spec := fun as => (some ((X.s f as).isSome = true), (X.s f as).getD .junk)
def effX (X : XCalls) (f off : Nat) : Eff := fun as bl K => ∃ bll v bl', bl = (fun s => (look bll s).getD .none) ∧ X.e f off as bll = some (v, bl') ∧ K v fun s => (look bl' s).getD .none
def gap : Nat := 1000
/-- What is fixed: the types, the functions, those that work on blocks of their callers. -/
structure XT where
  ts : List (Nat × TI)
  G : List (Nat × Func)
  L : List Nat
def XT.ctx (T : XT) (X : XCalls) (off : Nat) : Ctx := ⟨T.ts, (T.G.map Prod.fst).map fun f => (f, specX X f), T.L.map fun f => (f, off + gap, effX X f (off + gap)), off, false, [], [], [], none, false⟩

section
variable {ρ : Type}

def preOk (p : Option Prop) (b : Bool) : Bool :=
  match p with
  | none => true
  | some _ => b
def xplain (C : Ctx) (x : XS) (o : Oper) (k : XS → Option ρ) : Option ρ :=
  match evalOp C (ev x.st.slots) x.st.blocks (o.dst.getD 0 + C.off) o.type o.op with
  | ⟨p, v, u⟩ =>
    bif preOk p (xcond C (ev x.st.slots) x.st.blocks o.op) then
      fz3 v fun v => bif nj v then
        match u with
        | none => k (x.put o.dst v)
        | some (s, b) => fzN s fun s => fzK b fun b => k ((x.setB s b).put o.dst v)
        else none
    else none

def callOf (x : XS) (op : Op) : Option (Nat × List PV) :=
  match op with
  | .call { callee := .value f, args, .. } =>
    match ev x.st.slots f with
    | .fn (.func f) a b => some (f, a ++ (args.toList.map (ev x.st.slots) ++ b))
    | _ => none
  | _ => none

def xrun0 (C : Ctx) (X : XCalls) (x : XS) (o : Oper) (k : XS → Option ρ) : Option ρ :=
  match callOf x o.op with
  | some (f, as) => fzL fz3 (as.map export1) fun as => bif as.all plain2 then
      match X.s f as with
      | some v => k (x.put o.dst v)
      | none => none
      else none
  | none => xplain C x o k

def xrun1 (T : XT) (X : XCalls) (off : Nat) (x : XS) (o : Oper) (k : XS → Option ρ) : Option ρ :=
  match callOf x o.op with
  | some (f, as) => bif has T.L f then fzL fz3 as fun as =>
      match X.e f (off + gap) as x.bl with
      | some (v, bl) => k (XS.put ⟨x.sl.map fun y => (y.1, prune (fun s => Nat.blt s (off + gap)) y.2), bl⟩ o.dst v)
      | none => none
      else xrun0 (T.ctx X off) X x o k
  | none => xplain (T.ctx X off) x o k

def xstepO (T : XT) (X : XCalls) (off : Nat) (ops : List Oper) (o : Oper) (x : XS) (k : XS → Option ρ) : Option ρ :=
  match o.guard with
  | none => xrun1 T X off x o k
  | some (j, want) =>
    match (ops[j]?).bind Oper.dst with
    | none => none
    | some g =>
      match x.st.slots g with
      | .tt => bif want then xrun1 T X off x o k else k (x.put o.dst .und)
      | .ff => bif want then k (x.put o.dst .und) else xrun1 T X off x o k
      | .und => k (x.put o.dst .und)
      | .bool b => bif beqB b want then xrun1 T X off (x.put (some g) (bif want then .tt else .ff)) o k
          else k ((x.put (some g) (bif want then .ff else .tt)).put o.dst .und)
      | _ => none
def xops (T : XT) (X : XCalls) (off : Nat) (ops : List Oper) : List Oper → XS → (XS → Option ρ) → Option ρ
  | [], x, k => k x
  | o :: rest, x, k => xstepO T X off ops o x fun x => xops T X off ops rest x k

def xstepD (C : Ctx) (X : XCalls) (ops : List Oper) (i : Nat) (o : Oper) (x : XS) (tr : Trace) (k : XS → Trace → Option ρ) : Option ρ :=
  let go := fun x : XS =>
    match touch (ev x.st.slots) (o.dst.getD 0 + C.off) o.op with
    | none => xrun0 C X x o fun x' => k x' tr
    | some s => xrun0 C X x o fun x' => k x' (tr ++ [(i, some s, touches o.op)])
  match o.guard with
  | none => go x
  | some (j, want) =>
    match (ops[j]?).bind Oper.dst with
    | none => none
    | some g =>
      match x.st.slots g with
      | .tt => bif want then go x else k (x.put o.dst .und) tr
      | .ff => bif want then k (x.put o.dst .und) tr else go x
      | .und => k (x.put o.dst .und) tr
      | .bool b => bif beqB b want then go (x.put (some g) (.bool want)) else k ((x.put (some g) (.bool (!want))).put o.dst .und) tr
      | _ => none
def xD (C : Ctx) (X : XCalls) (ops : List Oper) (an : List Nat) : List (Nat × Oper) → XS → Trace → (XS → Option ρ) → Option ρ
  | [], x, tr, k => bif calm an tr then k x else none
  | y :: rest, x, tr, k => xstepD C X ops y.1 y.2 x tr fun x tr => xD C X ops an rest x tr k

def xDs (T : XT) (X : XCalls) (off : Nat) (ops : List Oper) (an : List Nat) : Nat → List (Nat × Oper) → XS → (XS → Option ρ) → Option ρ
  | 0, l, x, k => xD (T.ctx X off) X ops an l x [] k
  | n + 1, l, x, k =>
    match findCut an [] l with
    | none => xD (T.ctx X off) X ops an l x [] k
    | some (p, y, q) => xD (T.ctx X off) X ops an p x [] fun x => xops T X off ops [y.2] x fun x => xDs T X off ops an n q x k

inductive XO where
  | normal (x : XS)
  | exit (n : Nat) (x : XS)
  | ret (x : XS)
def XO.out : XO → Out
  | .normal x => .normal x.st
  | .exit n x => .exit n x.st
  | .ret x => .ret x.st

/-- The names of blocks that a loop's round makes. -/
def dsts (off : Nat) : List Oper → List Nat
  | [] => []
  | o :: r => match o.op, o.dst with
    | .alloc _, some d | .box _ _, some d | .makeSlice _ _ _, some d => (d + off) :: dsts off r
    | .assign x, some d => bif nilConst x then (d + off) :: dsts off r else dsts off r
    | _, _ => dsts off r
def made (off : Nat) : Code → List Nat
  | .region _ ops _ => dsts off ops.toList
  | .seq a b | .cond _ a b => made off a ++ made off b
  | .block _ a | .loop a => made off a
  | _ => []
def xq (off N : Nat) (D : List Nat) (s : Nat) : Bool := Nat.blt s off || (Nat.blt s (off + N) && !has D s)
def xclean (off N : Nat) (D : List Nat) (x : XS) : XS :=
  ⟨(x.sl.filter fun y => Nat.blt y.1 N).map fun y => (y.1, prune (xq off N D) y.2), (x.bl.filter fun y => xq off N D y.1).map fun y => (y.1, pruneB (xq off N D) y.2)⟩
def fzS (x : XS) (k : XS → Option ρ) : Option ρ := fzL (fun y k => fz3 y.2 fun v => k (y.1, v)) x.sl fun sl => fzL (fun y k => fzK y.2 fun v => k (y.1, v)) x.bl fun bl => k ⟨sl, bl⟩

def xiter (off N : Nat) (D : List Nat) (body : XS → (XO → Option ρ) → Option ρ) : Nat → XS → (XO → Option ρ) → Option ρ
  | 0, _, _ => none
  | n + 1, x, k => body x fun o => match o with
    | .normal x' => fzS (xclean off N D x') fun x' => xiter off N D body n x' k
    | o => k o

def xcode (T : XT) (X : XCalls) (off N F : Nat) : Code → XS → (XO → Option ρ) → Option ρ
  | .skip, x, k => k (.normal x)
  | .region _ ops draw, x, k =>
    bif draw then xDs T X off ops.toList (ancs ops.toList []) ops.toList.length (ops.toList.zipIdx.map fun (o, i) => (i, o)) x fun x => k (.normal x)
    else xops T X off ops.toList ops.toList x fun x => k (.normal x)
  | .seq a b, x, k => xcode T X off N F a x fun o => match o with | .normal x => xcode T X off N F b x k | o => k o
  | .cond c a b, x, k =>
    match ev x.st.slots c with
    | .tt => xcode T X off N F a x k
    | .ff => xcode T X off N F b x k
    | .bool c => bif c then xcode T X off N F a x k else xcode T X off N F b x k
    | _ => none
  | .block id a, x, k => xcode T X off N F a x fun o => match o with | .exit n x => bif Nat.beq n id then k (.normal x) else k (.exit n x) | o => k o
  | .loop a, x, k => fzL fzN (made off a) fun D => fzS (xclean off N D x) fun x => xiter off N D (fun x k => xcode T X off N F a x k) F x k
  | .exit n, x, k => k (.exit n x)
  | .ret, x, k => k (.ret x)
  | _, _, _ => none
end

def enum (args : List PV) : List (Nat × PV) := (List.range args.length).zip args

def xstep (T : XT) (F : Nat) (X : XCalls) : XCalls where
  s f args :=
    match look T.G f with
    | none => none
    | some fn => match fn.body with
      | none => none
      | some c => bif Nat.beq args.length (fn.params.size + fn.nfree) then
        xcode T X 0 fn.ntmps F c ⟨enum args, []⟩ fun o => match o with
          | .normal x | .ret x => bif fn.results.toList.all (fun r => plain2 (frz x.st.blocks (resOf (T.ctx X 0) x.st r))) then fz3 (results1 (T.ctx X 0) fn.results.toList x.st) fun v => some v else none
          | _ => none
        else none
  e f off args bl :=
    match look T.G f with
    | none => none
    | some fn => match fn.body with
      | none => none
      | some c => bif Nat.beq args.length (fn.params.size + fn.nfree) then
        xcode T X off fn.ntmps F c ⟨enum args, bl⟩ fun o => match o with
          | .normal x | .ret x => bif fn.results.toList.all (fun r => nj (resOf (T.ctx X off) x.st r)) then
              fz3 (prune (fun s => Nat.blt s off) (match fn.results.toList with | [] => .tup [] | [r] => frzE off x.st.blocks (resOf (T.ctx X off) x.st r) | _ => .junk)) fun v =>
              fzL (fun y k => fzK y.2 fun v => k (y.1, v)) ((x.bl.filter fun y => Nat.blt y.1 off).map fun y => (y.1, pruneB (fun s => Nat.blt s off) y.2)) fun bl => some (v, bl)
              else none
          | _ => none
        else none
def xnone : XCalls := ⟨fun _ _ => none, fun _ _ _ _ => none⟩
def xF (T : XT) (F : Nat) : Nat → XCalls
  | 0 => xnone
  | n + 1 => xstep T F (xF T F n)

end Go.V
