/- The state of a walk, and that each operation does to the machine what it does to the plain state. Part 1: operations that leave the world alone. -/
import Derived.Test.YtiidjohhcappdaaVb
import Derived.RangeFuncIn
import Derived.RangeFuncRecord
import Derived.RangeFuncLeaves
namespace Go.V
open Go.RowKit (Below)

structure TIok (P : Program) (t : Nat) (ti : TI) : Prop where
  info : (P.info? t).map (fun i => (i.size, i.bytes, i.zero.map fun z => z.cells.toList.map ofVal)) = some (ti.size, ti.bytes, some ti.zero)
  desc : (P.underlying t).map TyK.of = some ti.k
  len : ti.zero.length = ti.size
  one : ti.agg = false → ti.size = 1
  eq : ti.eq = true → ∀ (w : World) (xs ys : List PV) (a b : Array Value) (r : Bool), xs.length = ti.size → eqCells xs ys = some r → a.toList = xs.map (fun | .int k n => .int k n | _ => undef) →
    b.toList = ys.map (fun | .int k n => .int k n | _ => undef) → (Op.equal t (.agg a) (.agg b)).run P w = .ok r w ∧ P.eqGuardType P.depth t = false

/-- A call of the function: what it takes, what it gives, and that it leaves all that was there as it was. -/
def Sound (P : Program) (f : Nat) (s : Spec) : Prop :=
  ∀ (args : List PV) (σ : Nat → Nat → Prop) (w : World) (vals : Array Value), vals.size = args.length → (∀ i, i < args.length → RelP σ w (args.getD i .junk) (vals.getD i undef)) →
    (∀ b o, σ b o → b < w.heap.size) → (s args).1.getD True →
    Calls P f vals w fun e w' => ∃ v σ', e = .returned v ∧ Below w.heap.size w w' ∧ (∀ b o, σ b o → σ' b o) ∧ (∀ b o, σ' b o → b < w'.heap.size ∧ (¬ σ b o → w.heap.size ≤ b)) ∧ RelP σ' w' (s args).2 v

def Env.at (E : Env) (s : Nat) : Option Nat :=
  match E.ρ s with
  | some (b, _) => some b
  | none => match E.hd s with
    | some g => g.bo
    | none => none

def BR (E : Env) (w : World) (base s : Nat) : Blk → Prop
  | .none => E.ρ s = none ∧ E.hd s = none
  | .cells l => E.hd s = none ∧ ∃ b arr e, E.ρ s = some (b, 0) ∧ base ≤ b ∧ w.heap[b]? = some (.cells arr e (0, 0)) ∧ arr.size = l.length ∧ ∀ i, i < l.length → Rel E w (l.getD i .junk) (arr.getD i undef)
  | .arr len sz get => E.hd s = none ∧ ∃ b arr e, E.ρ s = some (b, sz) ∧ base ≤ b ∧ w.heap[b]? = some (.cells arr e (0, 0)) ∧ arr.size = len * sz ∧ ∀ i, i < len → (get i).length = sz ∧ ∀ j, j < sz → RelP E.σ w ((get i).getD j .junk) (arr.getD (i * sz + j) undef)
  | .jmp _ => E.ρ s = none ∧ E.hd s = none
  | .grow L el sz => E.ρ s = none ∧ ∃ g, E.hd s = some g ∧ g.L = L ∧ g.sz = sz ∧ (g.bo = none → L = 0 ∧ g.cp = 0) ∧ ∀ b, g.bo = some b → base ≤ b ∧ 0 < g.sz ∧ ∃ arr, w.heap[b]? = some (.cells arr el (0, 0)) ∧ arr.size = g.cp * g.sz ∧ L ≤ g.cp ∧ g.cp ≤ maxLen

def Env.only (E : Env) (q : Nat → Bool) : Env := ⟨fun s => if q s = true then E.ρ s else none, fun s => if q s = true then E.hd s else none, E.σ⟩

/-- An object of the books: no cells. -/
def NC (o : Obj) : Prop := ∀ c e f, o ≠ .cells c e f

/-- Where the call began: the world, and the cells that do not change. -/
structure Orig where
  w : World
  σ : Nat → Nat → Prop
  off : Nat := 0
  Φ : (Nat → Bool) → PV → Value → Prop := fun _ _ _ => False      -- what callers hold; each with the names that it may bear
  hΦ : ∀ q p v, Φ q p v → ∀ s, q s = true → s < off := by exact fun _ _ _ h => h.elim
  κ : Nat → Obj → Prop := fun _ _ => False      -- what callers keep of their own books
  hκ : ∀ b o, κ b o → o = .deferred (some []) := by exact fun _ _ h => h.elim
  rc : Nat → Option (Nat × Loop) := fun _ => none      -- loops over functions that are under way: the name, the record's place, the record
  hrc : ∀ s x, rc s = some x → s < off := by exact fun _ _ h => nomatch h
  hri : ∀ s s' l r r', rc s = some (l, r) → rc s' = some (l, r') → s = s' := by exact fun _ _ _ _ _ h => nomatch h

def JS.loopOf (j : JS) (r : Loop) : Loop :=
  match j with
  | .ready => { r with state := .ready, pending := none }
  | .busy => { r with state := .busy, pending := none }
  | .done none => { r with state := .done, pending := some .ret }
  | .done (some n) => { r with state := .done, pending := some (.exit n) }
/-- The mark that a loop over a function leaves among the deferred calls. -/
def markOf (D : Nat) : Deferred := { target := .collected D, args := #[] }
/-- The books: deferred calls, what callers keep, the records of loops over functions. -/
structure Book (base : Nat) (w0 : Orig) (bl : Nat → Blk) (ds : List Deferred) (w : World) : Prop where
  dfr : ∃ Ds : List Nat, ds = Ds.map markOf ∧ Ds.Nodup ∧ ∀ D ∈ Ds, base ≤ D ∧ w.heap[D]? = some (.deferred (some [])) ∧ ∀ o, ¬ w0.κ D o
  kp : ∀ b o, w0.κ b o → w.heap[b]? = some o
  jp : ∀ s l r, w0.rc s = some (l, r) → ∃ j, bl s = .jmp j ∧ w.heap[l]? = some (.loop (j.loopOf r))
theorem NC.deferred (x : Option (List Deferred)) : NC (.deferred x) := fun _ _ _ h => nomatch h
theorem NC.loop (r : Loop) : NC (.loop r) := fun _ _ _ h => nomatch h
theorem Book.step {base : Nat} {w0 : Orig} {bl bl' : Nat → Blk} {ds : List Deferred} {w w' : World} (h : Book base w0 bl ds w) (hw : ∀ (b : Nat) (o : Obj), w.heap[b]? = some o → NC o → w'.heap[b]? = some o) (hb : ∀ s j, bl s = .jmp j → bl' s = .jmp j) : Book base w0 bl' ds w' := by
  refine ⟨?_, fun b o hk => hw _ _ (h.kp b o hk) (by rw [w0.hκ b o hk]; exact .deferred _), fun s l r hr => ?_⟩
  · obtain ⟨Ds, h1, h2, h3⟩ := h.dfr
    exact ⟨Ds, h1, h2, fun D hD => ⟨(h3 D hD).1, hw _ _ (h3 D hD).2.1 (.deferred _), (h3 D hD).2.2⟩⟩
  · obtain ⟨j, h1, h2⟩ := h.jp s l r hr
    exact ⟨j, hb s j h1, hw _ _ h2 (.loop _)⟩
theorem Book.heap {base : Nat} {w0 : Orig} {bl : Nat → Blk} {ds : List Deferred} {w w' : World} (h : Book base w0 bl ds w) (hw : ∀ b : Nat, b < w.heap.size → w'.heap[b]? = w.heap[b]?) : Book base w0 bl ds w' :=
  h.step (fun b _ hb _ => (hw b (Array.getElem?_eq_some_iff.1 hb).1).trans hb) fun _ _ h => h
theorem Book.bare {base : Nat} {w0 : Orig} {bl : Nat → Blk} {ds : List Deferred} {w : World} (h : Book base w0 bl ds w) : Book base w0 bl [] w := ⟨⟨[], rfl, .nil, fun _ h => nomatch h⟩, h.kp, h.jp⟩

structure SR (E : Env) (base : Nat) (w0 : Orig) (st : St) (a : Act) (w : World) : Prop where
  dfr : Book base w0 st.blocks a.defers w
  slots : ∀ n, Rel E w (st.slots n) (a.tmps.getD n undef)
  blk : ∀ s, BR E w base s (st.blocks s)
  inj : ∀ s s' b, E.at s = some b → E.at s' = some b → s = s'
  σok : ∀ b o, E.σ b o → b < w.heap.size ∧ (∀ s sz, E.ρ s ≠ some (b, sz)) ∧ ∀ s g, E.hd s = some g → g.bo = some b → o < g.L * g.sz
  bel : Below base w0.w w
  bas : base ≤ w.heap.size
  σin : ∀ b o, w0.σ b o → E.σ b o
  σout : ∀ b o, E.σ b o → w0.σ b o ∨ base ≤ b
  fr : ∀ q p v, w0.Φ q p v → Rel (E.only q) w p v

def noAct : Act := ⟨#[], []⟩
/-- A later call's beginning: what was kept is kept. -/
structure Orig.le (w0 w1 : Orig) : Prop where
  w : w1.w = w0.w
  σ : w1.σ = w0.σ
  off : w0.off ≤ w1.off
  Φ : ∀ q p v, w0.Φ q p v → w1.Φ q p v
  κ : ∀ b o, w0.κ b o → w1.κ b o
  rc : ∀ s x, w0.rc s = some x → w1.rc s = some x
theorem Orig.le_refl (w0 : Orig) : w0.le w0 := ⟨rfl, rfl, Nat.le_refl _, fun _ _ _ h => h, fun _ _ h => h, fun _ _ h => h⟩
theorem Orig.le.trans {w0 w1 w2 : Orig} (h : w0.le w1) (h' : w1.le w2) : w0.le w2 :=
  ⟨h'.w.trans h.w, h'.σ.trans h.σ, Nat.le_trans h.off h'.off, fun q p v x => h'.Φ q p v (h.Φ q p v x), fun b o x => h'.κ b o (h.κ b o x), fun s x y => h'.rc s x (h.rc s x y)⟩
/-- What a round of a loop does to its caller's blocks. -/
def SoundY (P : Program) (base : Nat) (w0 : Orig) (y : Yd) : Prop :=
  ∀ (w1 : Orig), w0.le w1 → w1.off = y.o2 → ∀ (args : List PV) (bl : Nat → Blk) (K : PV → (Nat → Blk) → Prop), y.Y args bl K → bl y.s = .jmp .ready → ∀ (E : Env) (w : World) (vals : Array Value), SR E base w1 ⟨fun _ => .junk, bl⟩ noAct w →
    vals.size = args.length → (∀ i, i < args.length → Rel E w (args.getD i .junk) (vals.getD i undef)) →
    ∃ (fn : FuncId) (tmps : Array Value) (assign body : Code), (Instr.yield y.l vals).run P w = .ok (.round y.l fn tmps assign body) w ∧
      RoundIn Fence.wide 0 P y.l fn tmps assign body w fun e' w' => ∃ v p bl' E', e' = .returned v ∧ K p bl' ∧ SR E' base w1 ⟨fun _ => .junk, bl'⟩ noAct w' ∧ Rel E' w' p v
theorem SoundY.le {P : Program} {base : Nat} {w0 w1 : Orig} {y : Yd} (h : SoundY P base w0 y) (hle : w0.le w1) : SoundY P base w1 y := fun w2 h2 => h w2 (hle.trans h2)
/-- A function that is ranged over. -/
def SoundI (P : Program) (f s0 o1 o2 : Nat) (I : Iter) : Prop :=
  ∀ (args : List PV) (bl : Nat → Blk) (y : Yd) (K : PV → (Nat → Blk) → Prop), y.s = s0 → y.o2 = o2 → I args bl y K → ∀ (E : Env) (base : Nat) (w0 : Orig) (w : World) (vals : Array Value), w0.off = o1 → SR E base w0 ⟨fun _ => .junk, bl⟩ noAct w →
    SoundY P base w0 y → vals.size = args.length → (∀ i, i < args.length → Rel E w (args.getD i .junk) (vals.getD i undef)) →
    Calls P f vals w fun e' w' => ∃ v p bl' E', e' = .returned v ∧ K p bl' ∧ SR E' base w0 ⟨fun _ => .junk, bl'⟩ noAct w' ∧ Rel E' w' p v
/-- A call that works on its caller's blocks. -/
def SoundE (P : Program) (f off : Nat) (e : Eff) : Prop :=
  ∀ (args : List PV) (bl : Nat → Blk) (K : PV → (Nat → Blk) → Prop), e args bl K → ∀ (E : Env) (base : Nat) (w0 : Orig) (w : World) (vals : Array Value), w0.off = off → SR E base w0 ⟨fun _ => .junk, bl⟩ noAct w →
    vals.size = args.length → (∀ i, i < args.length → Rel E w (args.getD i .junk) (vals.getD i undef)) →
    Calls P f vals w fun e' w' => ∃ v p bl' E', e' = .returned v ∧ K p bl' ∧ SR E' base w0 ⟨fun _ => .junk, bl'⟩ noAct w' ∧ Rel E' w' p v

structure CtxOk (P : Program) (C : Ctx) : Prop where
  effs : ∀ f off e, look C.effs f = some (off, e) → SoundE P f off e ∧ ∃ fn c, P.funcs[f]? = some fn ∧ (fn.name == "runtime.NumGoroutine") = false ∧ fn.body = some c
  types : ∀ t ti, look C.types t = some ti → TIok P t ti
  iters : ∀ f s0 o1 o2 I, look C.iters f = some (s0, o1, o2, I) → SoundI P f s0 o1 o2 I ∧ ∃ fn c, P.funcs[f]? = some fn ∧ (fn.name == "runtime.NumGoroutine") = false ∧ fn.body = some c
  specs : ∀ f s, look C.specs f = some s → Sound P f s ∧ ∃ fn c, P.funcs[f]? = some fn ∧ (fn.name == "runtime.NumGoroutine") = false ∧ fn.body = some c

section
variable {P : Program} {C : Ctx} {E : Env} {base : Nat} {w0 : Orig} {w : World} {st : St} {a : Act}

theorem ofVal_rel (σ : Nat → Nat → Prop) (w : World) (v : Value) : RelP σ w (ofVal v) v := by
  unfold ofVal
  split <;> constructor

theorem Env.only_le {E E' : Env} (h : E.le E') (q : Nat → Bool) : (E.only q).le (E'.only q) := by
  refine ⟨fun s x hx => ?_, h.σ, fun s g hg => ?_⟩
  · simp only [Env.only] at hx ⊢
    split at hx
    · rename_i hq; rw [if_pos hq]; exact h.ρ s x hx
    · cases hx
  · simp only [Env.only] at hg ⊢
    split at hg
    · rename_i hq; rw [if_pos hq]; exact h.hd s g hg
    · cases hg

theorem SR.ev (h : SR E base w0 st a w) (x : Operand) : Rel E w (V.ev st.slots x) (a.eval x) := by
  cases x with
  | tmp t => exact h.slots t
  | const v =>
    show Rel E w (ofVal v) v
    unfold ofVal
    split <;> exact .pure (by constructor)
  | global g => exact .pure (.junk _)
  | func f => exact .pure (.fn _ _ _ _ _ rfl rfl (by intro i hi; simp at hi) (by intro i hi; simp at hi))

theorem und_of {P : Program} {t : Nat} {k : TyK} (h : (P.underlying t).map TyK.of = some k) : ∃ d, P.underlying t = some d ∧ TyK.of d = k := by
  cases hd : P.underlying t with
  | none => rw [hd] at h; cases h
  | some d => rw [hd] at h; exact ⟨d, rfl, Option.some.inj h⟩
theorem und_slice {P : Program} {t el : Nat} (h : (P.underlying t).map TyK.of = some (.slice el)) : P.underlying t = some (.slice el) := by
  obtain ⟨d, hd, hk⟩ := und_of h
  cases d <;> simp [TyK.of] at hk
  subst hk; exact hd
theorem und_array {P : Program} {t n el : Nat} (h : (P.underlying t).map TyK.of = some (.array n el)) : P.underlying t = some (.array n el) := by
  obtain ⟨d, hd, hk⟩ := und_of h
  cases d <;> simp [TyK.of] at hk
  obtain ⟨rfl, rfl⟩ := hk; exact hd
theorem und_struct {P : Program} {t : Nat} {fl : List (Nat × Nat)} (h : (P.underlying t).map TyK.of = some (.struct fl)) : ∃ fs, P.underlying t = some (.struct fs) ∧ fs.toList.map (fun f => (f.offset, f.type)) = fl := by
  obtain ⟨d, hd, hk⟩ := und_of h
  cases d <;> simp [TyK.of] at hk
  exact ⟨_, hd, hk⟩
theorem und_int {P : Program} {t : Nat} {k : IntKind} (h : (P.underlying t).map TyK.of = some (.scalar (some k))) : P.underlying t = some (.int k) := by
  obtain ⟨d, hd, hk⟩ := und_of h
  cases d <;> simp [TyK.of] at hk
  subst hk; exact hd
theorem run_und {P : Program} {t : Nat} {d : TypeDesc} (w : World) (h : P.underlying t = some d) : (underlying t).run P w = .ok d w := by
  simp [underlying, h]
theorem TIok.run_info {t : Nat} {ti : TI} (h : TIok P t ti) (w : World) : ∃ i z, (typeInfo t).run P w = .ok i w ∧ i.size = ti.size ∧ i.bytes = ti.bytes ∧ i.zero = some z ∧ z.cells.toList.map ofVal = ti.zero := by
  have := h.info
  cases hi : P.info? t with
  | none => rw [hi] at this; cases this
  | some i =>
    rw [hi] at this
    simp only [Option.map_some, Option.some.injEq, Prod.mk.injEq] at this
    obtain ⟨h1, h2, h3⟩ := this
    cases hz : i.zero with
    | none => rw [hz] at h3; cases h3
    | some z => rw [hz] at h3; exact ⟨i, z, by simp [typeInfo, hi], h1, h2, hz, Option.some.inj h3⟩
theorem TIok.run_size {t : Nat} {ti : TI} (h : TIok P t ti) (w : World) : (sizeOf t).run P w = .ok ti.size w := by
  obtain ⟨i, z, h1, h2, _⟩ := h.run_info w
  simp [sizeOf, h1, h2]
theorem TIok.run_agg {t : Nat} {ti : TI} (h : TIok P t ti) (w : World) : (isAgg t).run P w = .ok ti.agg w := by
  obtain ⟨d, hd, hk⟩ := und_of h.desc
  simp only [isAgg, Sem.run_bind, run_und w hd, Result.andThen_ok, TI.agg, ← hk]
  cases d <;> simp [TyK.of]

-- VALUE OPERATIONS
theorem arith_sound {op : BinOp} {k : IntKind} {x y : Int} {t : Nat} (hp : (arith op k x y).pre.getD True) :
    (arith op k x y).upd = none ∧ ∃ v, (binOp op t (.int k x) (.int k y)).run P w = .ok v w ∧ Rel E w (arith op k x y).val v := by
  cases op <;> simp only [arith, R.ok, R.bad, Option.getD_none, Option.getD_some] at hp <;>
    first
    | exact hp.elim
    | exact ⟨rfl, _, by simp [binOp, Op.intArith, Op.intCmp]; rfl, .pure (by constructor)⟩
    | exact ⟨rfl, _, by simp [binOp, Op.intDiv, hp]; rfl, .pure (by constructor)⟩

theorem kindEq_eq {k k' : IntKind} (h : kindEq k k' = true) : k = k' := by cases k <;> cases k' <;> simp [kindEq] at h <;> rfl

theorem eqGuard_none {op : BinOp} {t : Nat} {x y : Operand} {k k' : IntKind} {m n : Int} : (eqGuard op t x y (.int k m) (.int k' n)).run P w = .ok () w := by
  cases op <;> simp [eqGuard]

/-- Rows of whole numbers: what the machine's row holds. -/
theorem ints_of : ∀ {xs ys : List PV} {r : Bool}, eqCells xs ys = some r → (∀ p ∈ xs, ∃ k n, p = .int k n) ∧ (∀ p ∈ ys, ∃ k n, p = .int k n) ∧ xs.length = ys.length
  | [], [], _, _ => ⟨by simp, by simp, rfl⟩
  | x :: xs, [], _, h => by cases x <;> simp [eqCells] at h
  | [], y :: ys, _, h => by simp [eqCells] at h
  | x :: xs, y :: ys, r, h => by
    cases x <;> try (simp [eqCells] at h; done)
    cases y <;> try (simp [eqCells] at h; done)
    simp only [eqCells] at h
    rename_i k n k' n'
    cases hk : decide (k = k') with
    | false => rw [hk] at h; cases h
    | true =>
      rw [hk] at h
      cases hr : eqCells xs ys with
      | none => rw [hr] at h; cases h
      | some r' =>
        obtain ⟨h1, h2, h3⟩ := ints_of hr
        refine ⟨?_, ?_, by simp [h3]⟩
        · intro p hp
          rcases List.mem_cons.1 hp with rfl | hp
          · exact ⟨_, _, rfl⟩
          · exact h1 p hp
        · intro p hp
          rcases List.mem_cons.1 hp with rfl | hp
          · exact ⟨_, _, rfl⟩
          · exact h2 p hp
theorem row_ints {xs : List PV} {a : Array Value} (hs : a.size = xs.length) (h : ∀ i, i < xs.length → Rel E w (xs.getD i .junk) (a.getD i undef)) (hi : ∀ p ∈ xs, ∃ k n, p = .int k n) :
    a.toList = xs.map (fun | .int k n => .int k n | _ => undef) := by
  apply List.ext_getElem
  · simp [hs]
  · intro i h1 h2
    have hi1 : i < xs.length := by simpa using h2
    have := h i hi1
    obtain ⟨k, n, e⟩ := hi xs[i] (List.getElem_mem hi1)
    have e2 : xs.getD i .junk = xs[i] := by simp [List.getD, hi1]
    rw [e2, e] at this
    have := this.int_inv
    simp only [List.getElem_map, e, Array.getElem_toList]
    have h3 : i < a.size := by omega
    simpa [Array.getD, h3] using this

theorem binOp_sound (hC : CtxOk P C) {op : BinOp} {t u : Nat} {x y : Operand} {px py : PV} {vx vy : Value} (hx : Rel E w px vx) (hy : Rel E w py vy) {bl : Nat → Blk} {d ty : Nat} {e : Operand → PV} (ex : e x = px) (ey : e y = py)
    (hp : (evalOp C e bl d ty (.binOp op t x y u)).pre.getD True) :
    (evalOp C e bl d ty (.binOp op t x y u)).upd = none ∧
    ∃ v, (do eqGuard op t x y vx vy; binOp op t vx vy : Sem Value).run P w = .ok v w ∧ Rel E w (evalOp C e bl d ty (.binOp op t x y u)).val v := by
  simp only [evalOp, ex, ey] at hp ⊢
  split at hp
  · rename_i k m k' n
    cases hk : kindEq k k' with
    | false => rw [hk] at hp; exact hp.elim
    | true =>
      rw [hk] at hp
      obtain rfl := kindEq_eq hk
      obtain rfl := hx.int_inv
      obtain rfl := hy.int_inv
      simp only [cond_true]
      obtain ⟨h1, v, h2, h3⟩ := arith_sound (P := P) (w := w) (E := E) (t := t) hp
      exact ⟨h1, v, by simp [eqGuard_none, h2], h3⟩
  · rename_i xs ys
    obtain ⟨a, rfl, ha, h1⟩ := hx.agg_inv
    obtain ⟨b, rfl, hb, h2⟩ := hy.agg_inv
    cases hl : look C.types t with
    | none => rw [hl] at hp; exact hp.elim
    | some ti =>
      simp only [hl] at hp ⊢
      cases hq : (ti.eq && Nat.beq xs.length ti.size) with
      | false => rw [hq] at hp; exact hp.elim
      | true =>
        rw [hq] at hp
        simp only [Bool.and_eq_true] at hq
        cases hr : eqCells xs ys with
        | none => rw [hr] at hp; exact hp.elim
        | some r =>
          simp only [hr, cond_true] at hp ⊢
          obtain ⟨i1, i2, _⟩ := ints_of hr
          obtain ⟨hrun, hgd⟩ := (hC.types t ti hl).eq hq.1 w xs ys a b r (Nat.eq_of_beq_eq_true hq.2) hr (row_ints ha h1 i1) (row_ints hb h2 i2)
          have hg : ∀ op', (eqGuard op' t x y (.agg a) (.agg b)).run P w = .ok () w := by
            intro op'
            cases op' <;> simp [eqGuard, hgd]
          cases op <;> first | exact hp.elim | skip
          · exact ⟨rfl, .bool r, by simp [hg, binOp, hrun], .pure (.bool r)⟩
          · exact ⟨rfl, .bool !r, by simp [hg, binOp, hrun], .pure (.bool !r)⟩
  · exact hp.elim

-- CELLS OF A VALUE
theorem cells_rel {p : PV} {v : Value} (h : Rel E w p v) (hj : p ≠ .junk) (hu : p ≠ .und) (ht : ∀ l, p ≠ .tup l) : v.cells.size = (cellsOf p).length ∧ ∀ i, i < (cellsOf p).length → Rel E w ((cellsOf p).getD i .junk) (v.cells.getD i undef) := by
  cases p with
  | agg cs => obtain ⟨a, rfl, hs, hh⟩ := h.agg_inv; exact ⟨hs, hh⟩
  | junk => exact (hj rfl).elim
  | und => exact (hu rfl).elim
  | tup l => exact (ht l rfl).elim
  | _ =>
    have hv : v.cells = #[v] := by
      cases h with
      | pure h => cases h <;> rfl
      | _ => rfl
    rw [hv]
    refine ⟨rfl, fun i hi => ?_⟩
    have : i = 0 := by simp [cellsOf] at hi; omega
    subst this
    exact h
theorem sc1_one {p : PV} {v : Value} (h : Rel E w p v) (hs : sc1 p = true) : v.oneCell' = true := by
  cases h with
  | pure h => cases h <;> first | rfl | (simp [sc1] at hs)
  | agg => simp [sc1] at hs
  | tup => simp [sc1] at hs
  | _ => rfl

theorem getD_take_drop {l : List PV} {o n i : Nat} (hi : i < n) : ((l.drop o).take n).getD i .junk = l.getD (o + i) .junk := by
  simp [List.getD, hi, List.getElem?_drop]

theorem add_none (b o j : Nat) : (Addr.add ⟨b, o, none⟩ j) = ⟨b, o + j, none⟩ := by unfold Addr.add; split <;> simp_all

theorem getD_ofList (f : Nat → Value) (n i : Nat) (h : i < n) : (((List.range n).map f).toArray).getD i undef = f i := by
  simp [Array.getD, h]

/-- A load: what lies in the cells from an address on. -/
theorem load_sound {t : Nat} {ti : TI} (ht : TIok P t ti) {b o : Nat} {cs : List PV} {c : Nat → Value} (hl : cs.length = ti.size) (h1 : ∀ j, j < ti.size → w.cell? ⟨b, o + j, none⟩ = some (c j)) (h2 : ∀ j, j < ti.size → Rel E w (cs.getD j .junk) (c j)) :
    ∃ v, (Instr.loadAt t (.pointer (some ⟨b, o, none⟩))).run P w = .ok v w ∧ Rel E w (unc ti.agg cs) v := by
  simp only [Instr.loadAt, Instr.sureAddr, loadVar, pure_bind, Sem.run_bind, ht.run_agg, Result.andThen_ok]
  cases hag : ti.agg with
  | true =>
    have := run_loadCells (P := P) (w := w) ⟨b, o, none⟩ ti.size c (fun j hj => by rw [add_none]; exact h1 j hj)
    refine ⟨.agg ((List.range ti.size).map c).toArray, by simp [ht.run_size, this], ?_⟩
    refine .agg _ _ (by simp [hl]) fun i hi => ?_
    rw [hl] at hi
    rw [getD_ofList c _ _ hi]
    exact h2 i hi
  | false =>
    have hs := ht.one hag
    refine ⟨c 0, ?_, ?_⟩
    · have := h1 0 (by omega)
      simp at this
      simp [this]
    · have := h2 0 (by omega)
      match cs, hl with
      | x :: _, _ => simpa [unc, List.getD] using this
      | [], hl => simp at hl; omega

/-- What an operation that leaves the world alone owes. -/
def ValOk (P : Program) (E : Env) (w : World) (r : R) (s : Sem Next) : Prop := r.upd = none ∧ ∃ v, s.run P w = .ok (.value v) w ∧ Rel E w r.val v

variable (hC : CtxOk P C) (hS : SR E base w0 st a w) {d ty : Nat} {o : Oper}
include hS

theorem v_move {x : Operand} (ho : o.op = .move x) : ValOk P E w (evalOp C (V.ev st.slots) st.blocks d ty o.op) (execOp a.eval o) := by
  simp only [ho, evalOp]
  exact ⟨rfl, a.eval x, by simp [execOp, ho], hS.ev x⟩

theorem v_assign {x : Operand} (ho : o.op = .assign x) (hx : nilConst x = false) : ValOk P E w (evalOp C (V.ev st.slots) st.blocks d ty o.op) (execOp a.eval o) := by
  simp only [ho, evalOp, hx, cond_false]
  exact ⟨rfl, a.eval x, by simp [execOp, ho], hS.ev x⟩

theorem v_pick {c x y : Operand} (ho : o.op = .pick c x y) (hp : (evalOp C (V.ev st.slots) st.blocks d ty o.op).pre.getD True) :
    ValOk P E w (evalOp C (V.ev st.slots) st.blocks d ty o.op) (execOp a.eval o) := by
  have hc := hS.ev c
  have hx := hS.ev x
  have hy := hS.ev y
  simp only [ho, evalOp] at hp ⊢
  cases h : V.ev st.slots c with
  | tt => rw [h] at hc; have e := hc.tt_inv; exact ⟨rfl, a.eval x, by simp [execOp, ho, e, asBool], hx⟩
  | ff => rw [h] at hc; have e := hc.ff_inv; exact ⟨rfl, a.eval y, by simp [execOp, ho, e, asBool], hy⟩
  | bool b =>
    rw [h] at hc
    have e := hc.bool_inv
    simp only [h] at hp ⊢
    cases h1 : boolOf (V.ev st.slots x) with
    | none =>
      cases h2 : boolOf (V.ev st.slots y) with
      | none => rw [h1, h2] at hp; exact hp.elim
      | some q =>
        simp only [h1, h2, Option.getD_some] at hp ⊢
        subst hp
        have e2 := Rel.boolOf_inv h2 hy
        exact ⟨rfl, .bool q, by simp [execOp, ho, e, e2, asBool], .pure (.bool _)⟩
    | some p =>
      cases h2 : boolOf (V.ev st.slots y) with
      | none =>
        simp only [h1, h2, Option.getD_some] at hp ⊢
        subst hp
        have e1 := Rel.boolOf_inv h1 hx
        exact ⟨rfl, .bool p, by simp [execOp, ho, e, e1, asBool], .pure (.bool _)⟩
      | some q =>
        have e1 := Rel.boolOf_inv h1 hx
        have e2 := Rel.boolOf_inv h2 hy
        refine ⟨rfl, .bool (cond b p q), ?_, .pure (.bool _)⟩
        cases b <;> simp [execOp, ho, e, e1, e2, asBool]
  | _ => rw [h] at hp; exact hp.elim

theorem v_nilCheck {x : Operand} (ho : o.op = .nilCheck x) (hp : (evalOp C (V.ev st.slots) st.blocks d ty o.op).pre.getD True) :
    ValOk P E w (evalOp C (V.ev st.slots) st.blocks d ty o.op) (execOp a.eval o) := by
  have hx := hS.ev x
  simp only [ho, evalOp] at hp ⊢
  cases h : V.ev st.slots x with
  | ptr s off => rw [h] at hx; obtain ⟨b, sz, _, e⟩ := hx.ptr_inv; exact ⟨rfl, a.eval x, by simp [execOp, ho, e], hx⟩
  | eptr s i off => rw [h] at hx; obtain ⟨b, sz, _, e⟩ := hx.eptr_inv; exact ⟨rfl, a.eval x, by simp [execOp, ho, e], hx⟩
  | cptr cs => rw [h] at hx; obtain ⟨b, o', c, e, _⟩ := hx.cptr_inv; exact ⟨rfl, a.eval x, by simp [execOp, ho, e], hx⟩
  | fn f xs ys =>
    rw [h] at hx
    obtain ⟨p, q, e, _⟩ := hx.fn_inv
    cases f with
    | func f => exact ⟨rfl, a.eval x, by simp [execOp, ho, e], hx⟩
    | _ => rw [h] at hp; exact hp.elim
  | _ => rw [h] at hp; exact hp.elim

theorem v_unOp {u : UnOp} {t : Nat} {x : Operand} (ho : o.op = .unOp u t x) (hp : (evalOp C (V.ev st.slots) st.blocks d ty o.op).pre.getD True) :
    ValOk P E w (evalOp C (V.ev st.slots) st.blocks d ty o.op) (execOp a.eval o) := by
  have hx := hS.ev x
  simp only [ho] at hp ⊢
  cases u with
  | not =>
    simp only [evalOp] at hp ⊢
    cases h : V.ev st.slots x with
    | tt => rw [h] at hx; have e := hx.tt_inv; exact ⟨rfl, .bool false, by simp [execOp, ho, e, Op.unary], .pure .ff⟩
    | ff => rw [h] at hx; have e := hx.ff_inv; exact ⟨rfl, .bool true, by simp [execOp, ho, e, Op.unary], .pure .tt⟩
    | bool b => rw [h] at hx; have e := hx.bool_inv; exact ⟨rfl, .bool !b, by simp [execOp, ho, e, Op.unary], .pure (.bool _)⟩
    | _ => rw [h] at hp; exact hp.elim
  | neg =>
    simp only [evalOp] at hp ⊢
    cases h : V.ev st.slots x with
    | int k n => rw [h] at hx; have e := hx.int_inv; exact ⟨rfl, _, by simp [execOp, ho, e, Op.unary, Op.intArith]; rfl, .pure (by simpa [R.ok] using RelP.int k (k.wrap (-n)))⟩
    | _ => rw [h] at hp; exact hp.elim
  | _ => simp [evalOp, R.bad] at hp

theorem v_makeFunc {f : Fn} {xs ys : Array Operand} (ho : o.op = .makeFunc f xs ys) : ValOk P E w (evalOp C (V.ev st.slots) st.blocks d ty o.op) (execOp a.eval o) := by
  simp only [ho, evalOp]
  refine ⟨rfl, .func f (xs.map a.eval) (ys.map a.eval), by simp [execOp, ho, Instr.makeFunc], ?_⟩
  refine .fn _ _ _ _ _ (by simp) (by simp) ?_ ?_ <;>
  · intro i hi
    simp at hi
    simpa [List.getD, Array.getD, hi] using hS.ev _

theorem v_extract {x : Operand} {i : Nat} (ho : o.op = .extract x i) (hp : (evalOp C (V.ev st.slots) st.blocks d ty o.op).pre.getD True) :
    ValOk P E w (evalOp C (V.ev st.slots) st.blocks d ty o.op) (execOp a.eval o) := by
  have hx := hS.ev x
  simp only [ho, evalOp] at hp ⊢
  cases h : V.ev st.slots x with
  | tup vs =>
    rw [h] at hx
    obtain ⟨p, e, hs, hh⟩ := hx.tup_inv
    simp only [h] at hp ⊢
    cases hv : vs[i]? with
    | none => rw [hv] at hp; exact hp.elim
    | some v =>
      obtain ⟨hi, hvi⟩ := List.getElem?_eq_some_iff.1 hv
      have := hh i hi
      have e2 : vs.getD i .junk = v := by simp [List.getD, hv]
      have hi' : i < p.size := by omega
      rw [e2] at this
      simp only [Array.getD, hi', dif_pos] at this
      exact ⟨rfl, p[i], by simp [execOp, ho, e, Instr.extract, hi'], this⟩
  | _ => rw [h] at hp; exact hp.elim


include hC
theorem v_binOp {op : BinOp} {t u : Nat} {x y : Operand} (ho : o.op = .binOp op t x y u) (hp : (evalOp C (V.ev st.slots) st.blocks d ty o.op).pre.getD True) :
    ValOk P E w (evalOp C (V.ev st.slots) st.blocks d ty o.op) (execOp a.eval o) := by
  rw [ho] at hp ⊢
  obtain ⟨h1, v, h2, h3⟩ := binOp_sound (P := P) hC (hS.ev x) (hS.ev y) (bl := st.blocks) (d := d) (ty := ty) (e := V.ev st.slots) rfl rfl hp
  refine ⟨h1, v, ?_, h3⟩
  simp only [execOp, ho]
  simp only [Sem.run_bind] at h2 ⊢
  simp [h2]

theorem v_load {t : Nat} {x : Operand} (ho : o.op = .load t x) (hp : (evalOp C (V.ev st.slots) st.blocks d ty o.op).pre.getD True) :
    ValOk P E w (evalOp C (V.ev st.slots) st.blocks d ty o.op) (execOp a.eval o) := by
  have hx := hS.ev x
  simp only [ho, evalOp] at hp ⊢
  cases hl : look C.types t with
  | none => rw [hl] at hp; exact hp.elim
  | some ti =>
    have ht := hC.types t ti hl
    simp only [hl] at hp ⊢
    have fin : ∀ {b o' : Nat} {cs : List PV} {c : Nat → Value}, a.eval x = .pointer (some ⟨b, o', none⟩) → cs.length = ti.size → (∀ j, j < ti.size → w.cell? ⟨b, o' + j, none⟩ = some (c j)) → (∀ j, j < ti.size → Rel E w (cs.getD j .junk) (c j)) →
        ∃ v, (execOp a.eval o).run P w = .ok (.value v) w ∧ Rel E w (unc ti.agg cs) v := by
      intro b o' cs c e h0 h1 h2
      obtain ⟨v, hv, hr⟩ := load_sound ht h0 h1 h2
      exact ⟨v, by simp [execOp, ho, e, hv], hr⟩
    cases h : V.ev st.slots x with
    | ptr s off =>
      rw [h] at hx
      obtain ⟨b, sz, hρ, e⟩ := hx.ptr_inv
      simp only [h] at hp ⊢
      have hb := hS.blk s
      cases hbl : st.blocks s with
      | cells l =>
        simp only [hbl] at hp ⊢
        rw [hbl] at hb
        obtain ⟨_, b', arr, el, hρ', _, hh, hsz, hr⟩ := hb
        rw [hρ] at hρ'
        simp only [Option.some.injEq, Prod.mk.injEq] at hρ'
        obtain ⟨rfl, _⟩ := hρ'
        cases hle : Nat.ble (off + ti.size) l.length with
        | false => rw [hle] at hp; exact hp.elim
        | true =>
          simp only [cond_true]
          have hle' := Nat.le_of_ble_eq_true hle
          obtain ⟨v, h1, h2⟩ := fin (cs := (l.drop off).take ti.size) (c := fun j => arr.getD (off + j) undef) e (by simp; omega)
            (fun j hj => by simp [World.cell?, hh, show off + j < arr.size by omega]) (fun j hj => by rw [getD_take_drop hj]; exact hr _ (by omega))
          exact ⟨rfl, v, h1, h2⟩
      | _ => rw [hbl] at hp; exact hp.elim
    | cptr cs =>
      rw [h] at hx
      obtain ⟨b, o', c, e, h1, h2⟩ := hx.cptr_inv
      simp only [h] at hp ⊢
      cases hle : Nat.ble ti.size cs.length with
      | false => rw [hle] at hp; exact hp.elim
      | true =>
        simp only [cond_true]
        have hle' := Nat.le_of_ble_eq_true hle
        obtain ⟨v, h1, h2⟩ := fin (cs := cs.take ti.size) (c := c) e (by simp; omega) (fun j hj => (h1 j (by omega)).2)
          (fun j hj => by have := h2 j (by omega); simpa [List.getD, hj] using Rel.pure (E := E) this)
        exact ⟨rfl, v, h1, h2⟩
    | eptr s i off =>
      rw [h] at hx
      obtain ⟨b, sz, hρ, e⟩ := hx.eptr_inv
      simp only [h] at hp ⊢
      have hb := hS.blk s
      cases hbl : st.blocks s with
      | arr len sz' get =>
        simp only [hbl] at hp ⊢
        rw [hbl] at hb
        obtain ⟨_, b', arr, el, hρ', _, hh, hsz, hr⟩ := hb
        rw [hρ] at hρ'
        simp only [Option.some.injEq, Prod.mk.injEq] at hρ'
        obtain ⟨rfl, rfl⟩ := hρ'
        simp only [Option.getD_some] at hp
        obtain ⟨hi, hle⟩ := hp
        obtain ⟨hg, hr⟩ := hr i hi
        have hbound : i * sz + sz ≤ arr.size := by rw [hsz, ← Nat.succ_mul]; exact Nat.mul_le_mul_right _ hi
        obtain ⟨v, h1, h2⟩ := fin (cs := ((get i).drop off).take ti.size) (c := fun j => arr.getD (i * sz + off + j) undef) e (by simp; omega)
            (fun j hj => by simp [World.cell?, hh, show i * sz + off + j < arr.size by omega]) (fun j hj => by rw [getD_take_drop hj, Nat.add_assoc]; exact .pure (hr _ (by omega)))
        exact ⟨rfl, v, h1, h2⟩
      | _ => rw [hbl] at hp; exact hp.elim
    | _ => rw [h] at hp; exact hp.elim

theorem v_convert {u t : Nat} {x : Operand} (ho : o.op = .convert u t x) (hp : (evalOp C (V.ev st.slots) st.blocks d ty o.op).pre.getD True) :
    ValOk P E w (evalOp C (V.ev st.slots) st.blocks d ty o.op) (execOp a.eval o) := by
  have hx := hS.ev x
  simp only [ho, evalOp] at hp ⊢
  cases h1 : look C.types u with
  | none => rw [h1] at hp; exact hp.elim
  | some tu =>
    cases h2 : look C.types t with
    | none => rw [h1, h2] at hp; exact hp.elim
    | some ti =>
      obtain ⟨tk, sz, by', z, q⟩ := ti
      cases tk with
      | scalar ok =>
        cases ok with
        | none => rw [h1, h2] at hp; exact hp.elim
        | some k =>
          cases h3 : V.ev st.slots x with
          | int k' n =>
            rw [h3] at hx
            have e := hx.int_inv
            obtain ⟨du, hdu, _⟩ := und_of (hC.types _ _ h1).desc
            have hdt := und_int (hC.types _ _ h2).desc
            refine ⟨rfl, _, ?_, .pure (.int k (k.wrap n))⟩
            simp [execOp, ho, e, convert, run_und w hdu, run_und w hdt, Conv.intToInt]
          | _ => rw [h1, h2, h3] at hp; exact hp.elim
      | _ => rw [h1, h2] at hp; exact hp.elim

omit hC hS in
theorem addr_lit (b o' : Nat) (f : Field) {t' : Nat} {te : TI} (hf : f.type = t') (ht : TIok P t' te) (h1 : Nat.ble 1 te.size = true) :
    (fieldPlace ⟨b, o', none⟩ f).run P w = .ok ⟨b, o' + f.offset, none⟩ w := by
  have := Nat.le_of_ble_eq_true h1
  simp [fieldPlace, hf, ht.run_size, show te.size ≠ 0 by omega, add_none]

theorem v_fieldAddr {t i : Nat} {x : Operand} (ho : o.op = .fieldAddr t x i) (hp : (evalOp C (V.ev st.slots) st.blocks d ty o.op).pre.getD True) :
    ValOk P E w (evalOp C (V.ev st.slots) st.blocks d ty o.op) (execOp a.eval o) := by
  have hx := hS.ev x
  simp only [ho, evalOp] at hp ⊢
  split at hp
  · rename_i fl _ _ _ _ h1
    obtain ⟨fs, hfs, hfl⟩ := und_struct (hC.types _ _ h1).desc
    cases hi : fl[i]? with
    | none => rw [hi] at hp; exact hp.elim
    | some ot =>
      obtain ⟨o', t'⟩ := ot
      simp only [hi] at hp ⊢
      have hfi : ∃ f, fs[i]? = some f ∧ f.offset = o' ∧ f.type = t' := by
        rw [← hfl] at hi
        simp only [List.getElem?_map, Option.map_eq_some_iff] at hi
        obtain ⟨f, hf, hx⟩ := hi
        simp only [Prod.mk.injEq] at hx
        exact ⟨f, by simpa using hf, hx.1, hx.2⟩
      obtain ⟨f, hf, rfl, hft⟩ := hfi
      cases hl : look C.types t' with
      | none => rw [hl] at hp; exact hp.elim
      | some te =>
        simp only [hl] at hp ⊢
        cases h2 : Nat.ble 1 te.size with
        | false => rw [h2] at hp; exact hp.elim
        | true =>
          simp only [h2, cond_true] at hp ⊢
          have key : ∀ b o', a.eval x = .pointer (some ⟨b, o', none⟩) → (execOp a.eval o).run P w = .ok (.value (.pointer (some ⟨b, o' + f.offset, none⟩))) w := by
            intro b o' e
            simp [execOp, ho, e, Instr.fieldAt, run_und w hfs, hf, Instr.sureAddr, addr_lit b o' f hft (hC.types _ _ hl) h2]
          cases h : V.ev st.slots x with
          | ptr s off => rw [h] at hx; obtain ⟨b, sz, hρ, e⟩ := hx.ptr_inv; exact ⟨rfl, _, key _ _ e, .ptr s _ b sz hρ⟩
          | eptr s j off =>
            rw [h] at hx; obtain ⟨b, sz, hρ, e⟩ := hx.eptr_inv
            exact ⟨rfl, _, key _ _ e, by rw [Nat.add_assoc]; exact .eptr s j _ b sz hρ⟩
          | cptr cs =>
            rw [h] at hx; obtain ⟨b, o', c, e, g1, g2⟩ := hx.cptr_inv
            simp only [h] at hp ⊢
            cases hle : Nat.ble f.offset cs.length with
            | false => rw [hle] at hp; exact hp.elim
            | true =>
              have hle' := Nat.le_of_ble_eq_true hle
              simp only [cond_true]
              refine ⟨rfl, _, key _ _ e, .pure (.cptr _ b _ (fun j => c (f.offset + j)) ?_ ?_)⟩
              · intro j hj
                simp at hj
                have := g1 (f.offset + j) (by omega)
                rwa [← Nat.add_assoc] at this
              · intro j hj
                simp at hj
                have := g2 (f.offset + j) (by omega)
                simpa [List.getD, List.getElem?_drop] using this
          | _ => rw [h] at hp; exact hp.elim
  · exact hp.elim


theorem v_field {t i : Nat} {x : Operand} (ho : o.op = .field t x i) (hp : (evalOp C (V.ev st.slots) st.blocks d ty o.op).pre.getD True) :
    ValOk P E w (evalOp C (V.ev st.slots) st.blocks d ty o.op) (execOp a.eval o) := by
  have hx := hS.ev x
  simp only [ho, evalOp] at hp ⊢
  split at hp
  · rename_i fl _ _ _ _ h1
    obtain ⟨fs, hfs, hfl⟩ := und_struct (hC.types _ _ h1).desc
    cases hi : fl[i]? with
    | none => rw [hi] at hp; exact hp.elim
    | some ot =>
      obtain ⟨o', t'⟩ := ot
      simp only [hi] at hp ⊢
      have hfi : ∃ f, fs[i]? = some f ∧ f.offset = o' ∧ f.type = t' := by
        rw [← hfl] at hi
        simp only [List.getElem?_map, Option.map_eq_some_iff] at hi
        obtain ⟨f, hf, hx⟩ := hi
        simp only [Prod.mk.injEq] at hx
        exact ⟨f, by simpa using hf, hx.1, hx.2⟩
      obtain ⟨f, hf, rfl, rfl⟩ := hfi
      cases h : V.ev st.slots x with
      | agg cs =>
        rw [h] at hx
        obtain ⟨p, e, hs, hh⟩ := hx.agg_inv
        simp only [h] at hp ⊢
        cases hl : look C.types f.type with
        | none => rw [hl] at hp; exact hp.elim
        | some te =>
          simp only [hl] at hp ⊢
          have ht := hC.types _ _ hl
          cases hle : Nat.ble (f.offset + te.size) cs.length with
          | false => rw [hle] at hp; exact hp.elim
          | true =>
            have hle' := Nat.le_of_ble_eq_true hle
            simp only [cond_true]
            cases hag : te.agg with
            | true =>
              refine ⟨rfl, .agg (p.extract f.offset (f.offset + te.size)), ?_, ?_⟩
              · simp [execOp, ho, e, Instr.field, run_und w hfs, hf, asAgg, part, ht.run_agg, hag, ht.run_size]
              · refine .agg _ _ (by simp; omega) fun j hj => ?_
                simp at hj
                rw [getD_take_drop (by omega)]
                have := hh (f.offset + j) (by omega)
                have e2 : (p.extract f.offset (f.offset + te.size)).getD j undef = p.getD (f.offset + j) undef := by
                  simp [Array.getD, show f.offset + j < p.size by omega, show j < min (f.offset + te.size) p.size - f.offset by omega]
                rwa [e2]
            | false =>
              have h1s := ht.one hag
              refine ⟨rfl, p.getD f.offset undef, ?_, ?_⟩
              · simp [execOp, ho, e, Instr.field, run_und w hfs, hf, asAgg, part, ht.run_agg, hag, show f.offset < p.size by omega, Array.getD]
              · have := hh f.offset (by omega)
                have e2 : ((cs.drop f.offset).take te.size).headD .junk = cs.getD f.offset .junk := by
                  rw [h1s]
                  simp [List.getD, List.head?_take, List.head?_drop, List.headD_eq_head?_getD]
                simp only [unc, cond_false, e2]
                exact this
      | _ => rw [h] at hp; exact hp.elim
  · exact hp.elim

theorem v_index {t : Nat} {x i : Operand} (ho : o.op = .index t x i) (hp : (evalOp C (V.ev st.slots) st.blocks d ty o.op).pre.getD True) :
    ValOk P E w (evalOp C (V.ev st.slots) st.blocks d ty o.op) (execOp a.eval o) := by
  have hx := hS.ev x
  have hi := hS.ev i
  simp only [ho, evalOp] at hp ⊢
  split at hp
  · rename_i m el _ _ _ _ k n cs h1 h2 h3
    rw [h2] at hi
    rw [h3] at hx
    have e1 := hi.int_inv
    obtain ⟨p, e, hs, hh⟩ := hx.agg_inv
    have hd := und_array (hC.types _ _ h1).desc
    cases hl : look C.types el with
    | none => rw [hl] at hp; exact hp.elim
    | some te =>
      simp only [hl] at hp ⊢
      have ht := hC.types _ _ hl
      obtain ⟨g1, g2, g3⟩ := hp
      cases hag : te.agg with
      | true =>
        refine ⟨rfl, .agg (p.extract (n.toNat * te.size) (n.toNat * te.size + te.size)), ?_, ?_⟩
        · simp [execOp, ho, e, e1, Instr.index, asIntOf, run_und w hd, g1, g2, part, ht.run_agg, hag, ht.run_size]
        · refine .agg _ _ (by simp; omega) fun j hj => ?_
          simp at hj
          rw [getD_take_drop (by omega)]
          have := hh (n.toNat * te.size + j) (by omega)
          have e2 : (p.extract (n.toNat * te.size) (n.toNat * te.size + te.size)).getD j undef = p.getD (n.toNat * te.size + j) undef := by
            simp [Array.getD, show n.toNat * te.size + j < p.size by omega, show j < min (n.toNat * te.size + te.size) p.size - n.toNat * te.size by omega]
          rwa [e2]
      | false =>
        have h1s := ht.one hag
        refine ⟨rfl, p.getD (n.toNat * te.size) undef, ?_, ?_⟩
        · simp [execOp, ho, e, e1, Instr.index, asIntOf, run_und w hd, g1, g2, part, ht.run_agg, hag, ht.run_size, show n.toNat * te.size < p.size by omega, Array.getD]
        · have := hh (n.toNat * te.size) (by omega)
          have e2 : ((cs.drop (n.toNat * te.size)).take te.size).headD .junk = cs.getD (n.toNat * te.size) .junk := by
            rw [h1s]
            simp [List.getD, List.head?_take, List.head?_drop, List.headD_eq_head?_getD]
          simp only [unc, cond_false, e2]
          exact this
  · exact hp.elim

theorem v_indexAddr {t : Nat} {x i : Operand} (ho : o.op = .indexAddr t x i) (hp : (evalOp C (V.ev st.slots) st.blocks d ty o.op).pre.getD True) :
    ValOk P E w (evalOp C (V.ev st.slots) st.blocks d ty o.op) (execOp a.eval o) := by
  have hx := hS.ev x
  have hi := hS.ev i
  simp only [ho, evalOp] at hp ⊢
  split at hp
  · rename_i el _ _ _ _ k n h1 h2
    rw [h2] at hi
    have e1 := hi.int_inv
    have hd := und_slice (hC.types _ _ h1).desc
    split at hp
    · rename_i _ _ te tag len get h3 h4
      rw [h4] at hx
      have ht := hC.types _ _ h3
      obtain ⟨g1, g2, g3⟩ := hp
      obtain ⟨ad, cap, e, hr⟩ := hx.slice_inv
      rw [e] at hr
      cases hr with
      | slice _ _ _ _ b o' sz c hc ha hn hl q1 q2 =>
        have hn' : n.toNat < len := by omega
        obtain rfl := ha (by omega)
        have hsz := hl _ hn'
        rw [g3] at hsz
        subst hsz
        refine ⟨rfl, .pointer (some ⟨b, o' + n.toNat * te.size, none⟩), ?_, .pure (.cptr _ b _ (c n.toNat) ?_ ?_)⟩
        · simp [execOp, ho, e, e1, Instr.indexAt, asIntOf, run_und w hd, g1, g2, ht.run_size, add_none]
        · intro j hj
          exact q1 _ hn' j (by omega)
        · intro j hj
          exact q2 _ hn' j (by omega)
    · rename_i _ _ te s len h3 h4
      rw [h4] at hx
      have ht := hC.types _ _ h3
      obtain ⟨b, sz, cap, hρ, hcap, e⟩ := hx.own_inv
      have hb := hS.blk s
      cases hbl : st.blocks s with
      | arr len' sz' get =>
        simp only [hbl] at hp ⊢
        rw [hbl] at hb
        obtain ⟨_, b', arr, el', hρ', _, _⟩ := hb
        rw [hρ] at hρ'
        simp only [Option.some.injEq, Prod.mk.injEq] at hρ'
        obtain ⟨rfl, rfl⟩ := hρ'
        cases hq : Nat.beq sz te.size with
        | false => rw [hq] at hp; exact hp.elim
        | true =>
          rw [hq] at hp
          obtain rfl := Nat.eq_of_beq_eq_true hq
          simp only [cond_true]
          obtain ⟨g1, g2, g3⟩ := hp
          refine ⟨rfl, .pointer (some ⟨b, n.toNat * te.size + 0, none⟩), ?_, .eptr s _ 0 b te.size hρ⟩
          simp [execOp, ho, e, e1, Instr.indexAt, asIntOf, run_und w hd, g1, g2, ht.run_size, add_none]
      | _ => rw [hbl] at hp; exact hp.elim
    · exact hp.elim
  · rename_i m el _ _ _ _ k n h1 h2
    rw [h2] at hi
    have e1 := hi.int_inv
    have hd := und_array (hC.types _ _ h1).desc
    split at hp
    · rename_i _ _ te s off h3 h4
      rw [h4] at hx
      have ht := hC.types _ _ h3
      obtain ⟨g1, g2⟩ := hp
      obtain ⟨b, sz, hρ, e⟩ := hx.ptr_inv
      refine ⟨rfl, .pointer (some ⟨b, off + n.toNat * te.size, none⟩), ?_, .ptr s _ b sz hρ⟩
      simp [execOp, ho, e, e1, Instr.indexAt, Instr.sureAddr, asIntOf, run_und w hd, g1, g2, ht.run_size, add_none]
    · exact hp.elim
  · exact hp.elim


theorem v_slice {t : Nat} {x : Operand} {lo hi mx : Option Operand} (ho : o.op = .slice t x lo hi mx) (hp : (evalOp C (V.ev st.slots) st.blocks d ty o.op).pre.getD True) :
    ValOk P E w (evalOp C (V.ev st.slots) st.blocks d ty o.op) (execOp a.eval o) := by
  have hx := hS.ev x
  cases mx with
  | some m => simp only [ho, evalOp] at hp; exact hp.elim
  | none =>
  simp only [ho, evalOp] at hp ⊢
  split at hp
  · rename_i el _ _ _ _ h1
    have hd := und_slice (hC.types _ _ h1).desc
    split at hp
    · rename_i _ _ te tag len get h2 h
      have ht := hC.types _ _ h2
      rw [h] at hx
      obtain ⟨ad, cap, e, hr⟩ := hx.slice_inv
      rw [e] at hr
      cases hr with
      | slice _ _ _ _ b o' sz c hc ha hn hl q1 q2 =>
      have lo0 : ∀ (l : Nat) (hh : Nat), l ≤ hh → hh ≤ len → (l = 0 ∨ ∀ i, i < len → (get i).length = te.size) →
          RelP E.σ w (.slice none (hh - l) fun i => get (i + l)) (.slice (if cap = l then ad else ad.map (·.add (l * te.size))) (hh - l) (cap - l)) := by
        intro l hh h1 h2 h3
        refine .slice _ _ _ _ b (o' + l * sz) sz (fun i => c (i + l)) (by omega) ?_ ?_ (fun i hi => hl _ (by omega)) ?_ (fun i hi j hj => q2 _ (by omega) j hj)
        · intro hlt
          rw [if_neg (by omega), ha (by omega)]
          rcases h3 with rfl | h3
          · simp [add_none]
          · have := h3 0 (by omega)
            have := hl 0 (by omega)
            simp [add_none, show te.size = sz by omega]
        · intro hnn
          split at hnn
          · have := hn hnn; omega
          · cases ad with
            | none => have := hn rfl; omega
            | some _ => simp at hnn
        · intro i hi j hj
          have := q1 (i + l) (by omega) j hj
          rw [Nat.add_mul] at this
          have e2 : o' + l * sz + i * sz + j = o' + (i * sz + l * sz) + j := by omega
          rw [e2]; exact this
      have ix : ∀ (x : Operand) {k n}, V.ev st.slots x = .int k n → a.eval x = .int k n := fun x k n hxx => by have := hS.ev x; rw [hxx] at this; exact this.int_inv
      cases lo with
      | none =>
        cases hi with
        | none => exact hp.elim
        | some hi =>
          simp only [Option.map_none, Option.map_some] at hp ⊢
          cases hhi : V.ev st.slots hi with
          | int k n =>
            simp only [hhi, Option.getD_some] at hp ⊢
            have e1 := ix _ hhi
            obtain ⟨g1, g2⟩ := hp
            refine ⟨rfl, .slice ad n.toNat cap, ?_, .pure ?_⟩
            · simp [execOp, ho, e, e1, Instr.sliceAt, Instr.slice, Instr.sliceBounds, Instr.sliceBound, asIntOf, run_und w hd, g1, show n ≤ (cap : Int) by omega, ht.run_size]
              intro h0
              cases ad with
              | none => rfl
              | some x => simp [Addr.add]
            · have := lo0 0 n.toNat (by omega) (by omega) (.inl rfl)
              simp only [Nat.sub_zero, Nat.add_zero, Nat.zero_mul] at this
              have e3 : (if cap = 0 then ad else ad.map (·.add 0)) = ad := by
                split
                · rfl
                · cases ad <;> simp [Addr.add]
              rw [e3] at this
              exact this
          | _ => rw [hhi] at hp; exact hp.elim
      | some lo =>
        cases hlo : V.ev st.slots lo with
        | int k n =>
          have e1 := ix _ hlo
          cases hi with
          | none =>
            simp only [Option.map_none, Option.map_some, hlo, Option.getD_some] at hp ⊢
            obtain ⟨g1, g2, g3⟩ := hp
            refine ⟨rfl, _, ?_, .pure (lo0 n.toNat len (by omega) (by omega) (.inr g3))⟩
            simp [execOp, ho, e, e1, Instr.sliceAt, Instr.slice, Instr.sliceBounds, Instr.sliceBound, asIntOf, run_und w hd, g1, g2, ht.run_size]
          | some hi =>
            simp only [Option.map_some, hlo] at hp ⊢
            cases hhi : V.ev st.slots hi with
            | int k' n' =>
              simp only [hhi, Option.getD_some] at hp ⊢
              have e2 := ix _ hhi
              obtain ⟨g1, g2, g3, g4⟩ := hp
              refine ⟨rfl, _, ?_, .pure (lo0 n.toNat n'.toNat (by omega) (by omega) (.inr g4))⟩
              simp [execOp, ho, e, e1, e2, Instr.sliceAt, Instr.slice, Instr.sliceBounds, Instr.sliceBound, asIntOf, run_und w hd, g1, ht.run_size, show 0 ≤ n' by omega, show n' ≤ (cap : Int) by omega, show n ≤ max n' 0 by omega]
            | _ => rw [hhi] at hp; exact hp.elim
        | _ => cases hi <;> simp only [Option.map_none, Option.map_some, hlo] at hp <;> exact hp.elim
    · exact hp.elim
  · exact hp.elim

omit hC in
theorem v_len {args : Array Operand} {ts : Array TypeId} (ho : o.op = .call { callee := .builtin .len, args := args, argTypes := ts }) (hC : CtxOk P C) (hp : (evalOp C (V.ev st.slots) st.blocks d ty o.op).pre.getD True) :
    ValOk P E w (evalOp C (V.ev st.slots) st.blocks d ty o.op) (execOp a.eval o) := by
  simp only [ho, evalOp] at hp ⊢
  cases h0 : args[0]? with
  | none => rw [h0] at hp; exact hp.elim
  | some x =>
    cases h1 : ts[0]? with
    | none => rw [h0, h1] at hp; simp only [Option.map_some, Option.bind_none] at hp; split at hp <;> first | exact hp.elim | (rename_i hh; cases hh)
    | some t =>
      have hx := hS.ev x
      simp only [h0, h1, Option.map_some, Option.bind_some] at hp ⊢
      have ha : (args.map a.eval)[0]? = some (a.eval x) := by simp [h0]
      split at hp
      · rename_i _ _ tag len get el _ _ _ _ hx' ht
        simp only [Option.some.injEq] at hx'
        rw [hx'] at hx
        obtain ⟨ad, cap, e, _⟩ := hx.slice_inv
        have hd := und_slice (hC.types _ _ ht).desc
        exact ⟨rfl, _, by simp [execOp, ho, resolve, invoke, builtin, Builtin.len_, h1, ha, e, run_und w hd, goInt], .pure (.int _ _)⟩
      · rename_i _ _ el _ _ _ _ hx' ht
        simp only [Option.some.injEq] at hx'
        rw [hx'] at hx
        have e := hx.nils_inv
        have hd := und_slice (hC.types _ _ ht).desc
        exact ⟨rfl, _, by simp [execOp, ho, resolve, invoke, builtin, Builtin.len_, h1, ha, e, run_und w hd, goInt], .pure (.int _ _)⟩
      · rename_i _ _ s len el _ _ _ _ hx' ht
        simp only [Option.some.injEq] at hx'
        rw [hx'] at hx
        obtain ⟨b, sz, cap, _, _, e⟩ := hx.own_inv
        have hd := und_slice (hC.types _ _ ht).desc
        exact ⟨rfl, _, by simp [execOp, ho, resolve, invoke, builtin, Builtin.len_, h1, ha, e, run_und w hd, goInt], .pure (.int _ _)⟩
      · exact hp.elim

end
end Go.V
