/- The calculus of plain values: regions, code, ranges over functions, functions. -/
import Derived.Test.YtnjhbmcambofgaaW1
import Derived.TacticsIn
import Derived.OrdersIn
import Derived.RangeFuncCalls
import Derived.Orders

/- Part 5: regions, whether their order is the text's or open. -/
namespace Go.V
open Go.RowKit (Below)

def okOper (N : Nat) (o : Oper) : Bool :=
  (match o.dst with | some d => Nat.blt d N | none => true) && match o.op, o.dst with | .store _ _ _, some _ => false | _, _ => true

section
variable {E : Env} {w : World}
theorem Rel.ok1 {q : Nat → Bool} {p : PV} {v : Value} (hp : ok1 q p = true) (h : Rel E w p v) : Rel (E.only q) w p v := by
  cases h with
  | pure h => exact .pure h
  | agg => cases hp
  | tup => cases hp
  | fn => cases hp
  | ptr s off b sz h => exact .ptr s off b sz (by have hp' : q s = true := hp; simp only [Env.only]; rw [if_pos hp']; exact h)
  | eptr s i off b sz h => exact .eptr s i off b sz (by have hp' : q s = true := hp; simp only [Env.only]; rw [if_pos hp']; exact h)
  | own s len b sz cap h hc => exact .own s len b sz cap (by have hp' : q s = true := hp; simp only [Env.only]; rw [if_pos hp']; exact h) hc
  | tslice s len get a cap h g hh hL hx => exact .tslice s len get a cap h g (by have hp' : q s = true := hp; simp only [Env.only]; rw [if_pos hp']; exact hh) hL hx
  | tsl s k len sz get a cap h g hh hL hx => exact .tsl s k len sz get a cap h g (by have hp' : q s = true := hp; simp only [Env.only]; rw [if_pos hp']; exact hh) hL hx
  | stk s ver len a cap g hh hL hx => exact .stk s ver len a cap g (by have hp' : q s = true := hp; simp only [Env.only]; rw [if_pos hp']; exact hh) hL hx
  | cslice s off len sz b sz0 cap h hc => exact .cslice s off len sz b sz0 cap (by have hp' : q s = true := hp; simp only [Env.only]; rw [if_pos hp']; exact h) hc

theorem Rel.ok1a {q : Nat → Bool} {p : PV} {v : Value} (hp : ok1a q p = true) (h : Rel E w p v) : Rel (E.only q) w p v := by
  cases p with
  | agg cs =>
    obtain ⟨b, rfl, hs, hh⟩ := h.agg_inv
    exact .agg cs b hs fun i hi => (hh i hi).ok1 (all_getD hp i hi)
  | _ => exact h.ok1 hp
theorem Rel.prune {q : Nat → Bool} {p : PV} {v : Value} (h : Rel E w p v) : Rel (E.only q) w (prune q p) v := by
  have one : ∀ (hp : V.prune q p = bif V.ok1 q p then p else .junk), Rel (E.only q) w (V.prune q p) v := by
    intro hp
    rw [hp]
    cases hk : V.ok1 q p with
    | true => exact h.ok1 hk
    | false => exact .pure (.junk _)
  cases p with
  | agg cs =>
    obtain ⟨b, rfl, hs, hh⟩ := h.agg_inv
    simp only [V.prune]
    cases hk : cs.all (V.ok1 q) with
    | true => exact .agg cs b hs fun i hi => (hh i hi).ok1 (all_getD hk i hi)
    | false => exact .pure (.junk _)
  | fn f xs ys =>
    obtain ⟨b, c, rfl, hs, hs', hh, hh'⟩ := h.fn_inv
    simp only [V.prune]
    cases hk : (xs.all (V.ok1a q) && ys.all (V.ok1a q)) with
    | true =>
      simp only [Bool.and_eq_true] at hk
      exact .fn f xs ys b c hs hs' (fun i hi => (hh i hi).ok1a (all_getD hk.1 i hi)) fun i hi => (hh' i hi).ok1a (all_getD hk.2 i hi)
    | false => exact .pure (.junk _)
  | tup vs =>
    cases vs with
    | nil =>
      obtain ⟨b, rfl, hs, _⟩ := h.tup_inv
      exact .pure (.tup [] b hs fun i hi => by simp at hi)
    | cons => exact .pure (.junk _)
  | slice tag len get =>
    cases tag with
    | none => exact one rfl
    | some s =>
      simp only [V.prune]
      cases hk : q s with
      | true => exact h.ok1 hk
      | false =>
        obtain ⟨a, cap, rfl, h'⟩ := h.slice_inv
        exact .pure h'
  | tsl s k len sz get =>
    simp only [V.prune]
    cases hk : q s with
    | true => exact h.ok1 hk
    | false => obtain ⟨a, cap, g, rfl, h', _⟩ := h.tsl_inv; exact .pure h'
  | _ => exact one rfl

theorem Env.only_self (E : Env) (q : Nat → Bool) : (E.only q).le E := by
  refine ⟨fun s x hx => ?_, fun _ _ h => h, fun s g hg => ?_⟩
  · simp only [Env.only] at hx
    split at hx
    · exact hx
    · cases hx
  · simp only [Env.only] at hg
    split at hg
    · exact ⟨g, hg, Nat.le_refl _, fun _ => ⟨rfl, rfl, rfl⟩⟩
    · cases hg
end

section
variable {P : Program} {C : Ctx} {E : Env} {base : Nat} {w0 : Orig} {w : World} {st : St} {a : Act} {N : Nat} {r : Option Nat}

theorem okOper_dst {o : Oper} (h : okOper N o = true) : ∀ d, o.dst = some d → d < N := by
  intro d hd
  simp only [okOper, hd, Bool.and_eq_true] at h
  exact Nat.le_of_ble_eq_true h.1
theorem okOper_store {o : Oper} (h : okOper N o = true) : ∀ t x y, o.op = .store t x y → o.dst = none := by
  intro t x y ho
  cases hd : o.dst with
  | none => rfl
  | some d => simp [okOper, ho, hd] at h

theorem SR.put (hS : SR E base w0 st a w) {dst : Option Tmp} (hd : ∀ d, dst = some d → d < a.tmps.size) {p : PV} {v : Value} (hv : Rel E w p v) : SR E base w0 (st.put dst p) (a.put dst v) w := by
  cases dst with
  | none => exact hS
  | some d =>
    have hlt := hd d rfl
    refine ⟨hS.dfr, fun n => ?_, hS.blk, hS.inj, hS.σok, hS.bel, hS.bas, hS.σin, hS.σout, hS.fr⟩
    show Rel E w (upd st.slots d p n) ((a.tmps.setIfInBounds d v).getD n undef)
    by_cases hn : n = d
    · subst hn
      rw [upd_same]
      simpa [Array.getD, hlt] using hv
    · rw [upd_ne _ _ hn]
      have := hS.slots n
      by_cases hs : n < a.tmps.size
      · have hdn : d ≠ n := fun e => hn e.symm
        simpa [Array.getD, hs, Array.getElem_setIfInBounds, hdn] using this
      · simpa [Array.getD, hs] using this
theorem SR.set (hS : SR E base w0 st a w) {g : Nat} {p : PV} (hp : Rel E w p (a.tmps.getD g undef)) : SR E base w0 (st.set g p) a w := by
  refine ⟨hS.dfr, fun n => ?_, hS.blk, hS.inj, hS.σok, hS.bel, hS.bas, hS.σin, hS.σout, hS.fr⟩
  show Rel E w (upd st.slots g p n) _
  by_cases hn : n = g
  · subst hn; rw [upd_same]; exact hp
  · rw [upd_ne _ _ hn]; exact hS.slots n
theorem put_size (a : Act) (dst : Option Tmp) (v : Value) : (a.put dst v).tmps.size = a.tmps.size := by cases dst <;> simp [Act.put]

abbrev Fc (r : Option Nat) : Fence := { Fence.wide with round := r }
theorem calls_fc {r : Option Nat} {f : FuncId} {args : Array Value} {R : Ending → World → Prop} (h : Calls P f args w R) : CallsIn (Fc r) 0 P f args w R := (callsIn_wide (n := 0)).2 h
theorem in_of_wp {r : Option Nat} {o : Oper} (hd : ∀ c, o.op ≠ .defer c) {next : Act → World → Prop} {Q : Exit → Act → World → Prop} (h : o.wp P a w next fun _ _ _ => False) : o.wpIn (Fc r) 0 P a w next Q := by
  refine ⟨fun _ _ => trivial, ?_⟩
  rw [Oper.semAt_eq _ _ _ hd]
  unfold Oper.wp at h
  generalize (execOp a.eval o).run P w = res at h
  cases res with
  | ok x w' =>
    cases x with
    | value v => exact h
    | skip => exact h
    | defer d => exact h
    | enter f args =>
      refine ⟨(fun h => by cases h), CallsIn.mono (calls_fc h) fun e w'' he => ?_⟩
      cases e with
      | returned v => exact he
      | panicked c => exact he.elim
      | outgrown => obtain ⟨_, _, hf⟩ := he; exact hf.elim
    | row s args =>
      refine ⟨(fun h => by cases h), fun c cs _ => ?_⟩
      obtain ⟨v, w', h1, h2⟩ := h c cs
      exact ⟨v, w', h1, stepsIn_wide.2 h2⟩
    | _ => exact h.elim
  | halt x w' =>
    cases x with
    | panic v => exact h.elim
    | _ => exact h.elim

theorem markOf_inj {b D : Nat} (h : markOf b = markOf D) : b = D := by
  have h1 : Target.collected b = Target.collected D := congrArg Deferred.target h
  cases h1
  rfl
def callO (w0 : Orig) (off : Nat) (hle : w0.off ≤ off) (sl : Nat → PV) (a : Act) (ex : Option (Nat × Nat × Loop)) (hex : ∀ x, ex = some x → x.1 < off ∧ ∀ s r, w0.rc s ≠ some (x.2.1, r)) : Orig where
  w := w0.w
  σ := w0.σ
  off := off
  Φ := fun q p v => w0.Φ q p v ∨ (q = (fun s => Nat.blt s off) ∧ ∃ n, p = prune q (sl n) ∧ v = a.tmps.getD n undef)
  hΦ := by
    rintro q p v (h | ⟨rfl, _⟩) s hs
    · have := w0.hΦ q p v h s hs; omega
    · exact Nat.le_of_ble_eq_true hs
  κ := fun b o => w0.κ b o ∨ (markOf b ∈ a.defers ∧ o = .deferred (some []))
  hκ := by
    rintro b o (h | ⟨_, rfl⟩)
    · exact w0.hκ b o h
    · rfl
  rc := fun s => match ex with
    | some x => if s = x.1 then some x.2 else w0.rc s
    | none => w0.rc s
  hrc := by
    intro s x h
    cases ex with
    | none => have := w0.hrc s x h; omega
    | some y =>
      by_cases hs : s = y.1
      · subst hs; exact (hex y rfl).1
      · have h' : w0.rc s = some x := by simpa [hs] using h
        have := w0.hrc s x h'; omega
  hri := by
    intro s s' l r r' h h'
    cases ex with
    | none => exact w0.hri s s' l r r' h h'
    | some y =>
      by_cases hs : s = y.1 <;> by_cases hs' : s' = y.1
      · rw [hs, hs']
      · simp only [if_pos hs, if_neg hs'] at h h'
        have e := Option.some.inj h
        exact ((hex y rfl).2 s' r' (by rw [h', e])).elim
      · simp only [if_neg hs, if_pos hs'] at h h'
        have e := Option.some.inj h'
        exact ((hex y rfl).2 s r (by rw [h, e])).elim
      · simp only [if_neg hs, if_neg hs'] at h h'
        exact w0.hri s s' l r r' h h'
theorem callO_le {w0 : Orig} {off : Nat} {hle : w0.off ≤ off} {sl : Nat → PV} {a : Act} {ex : Option (Nat × Nat × Loop)} {hex : ∀ x, ex = some x → x.1 < off ∧ ∀ s r, w0.rc s ≠ some (x.2.1, r)} (h : ∀ x, ex = some x → w0.off ≤ x.1) : w0.le (callO w0 off hle sl a ex hex) := by
  refine ⟨rfl, rfl, hle, fun _ _ _ h => .inl h, fun _ _ h => .inl h, fun s x hx => ?_⟩
  cases ex with
  | none => exact hx
  | some y =>
    have hs : s ≠ y.1 := by rintro rfl; have := w0.hrc _ x hx; have := h y rfl; omega
    show (if s = y.1 then some y.2 else w0.rc s) = some x
    rw [if_neg hs]; exact hx
theorem SR.callO (hS : SR E base w0 st a w) {off : Nat} {hle : w0.off ≤ off} {ex : Option (Nat × Nat × Loop)} {hex : ∀ x, ex = some x → x.1 < off ∧ ∀ s r, w0.rc s ≠ some (x.2.1, r)} {bl : Nat → Blk} (hbl : ∀ s, BR E w base s (bl s)) (hj : ∀ s j, st.blocks s = .jmp j → bl s = .jmp j)
    (hx : ∀ x, ex = some x → ∃ j, bl x.1 = .jmp j ∧ w.heap[x.2.1]? = some (.loop (j.loopOf x.2.2))) : SR E base (V.callO w0 off hle st.slots a ex hex) ⟨fun _ => .junk, bl⟩ noAct w := by
  refine ⟨⟨⟨[], rfl, .nil, fun _ h => nomatch h⟩, ?_, ?_⟩, fun n => .pure (.junk _), hbl, hS.inj, hS.σok, hS.bel, hS.bas, hS.σin, hS.σout, ?_⟩
  · rintro b o (h | ⟨h, rfl⟩)
    · exact hS.dfr.kp b o h
    · obtain ⟨Ds, h1, h2, h3⟩ := hS.dfr.dfr
      rw [h1] at h
      obtain ⟨D, hD, he⟩ := List.mem_map.1 h
      obtain rfl := markOf_inj he
      exact (h3 _ hD).2.1
  · intro s l r h
    have plain : w0.rc s = some (l, r) → ∃ j, bl s = .jmp j ∧ w.heap[l]? = some (.loop (j.loopOf r)) := fun h => by
      obtain ⟨j, h1, h2⟩ := hS.dfr.jp s l r h
      exact ⟨j, hj s j h1, h2⟩
    cases ex with
    | none => exact plain h
    | some y =>
      by_cases hs : s = y.1
      · subst hs
        have e : y.2 = (l, r) := by
          have h' : (if y.1 = y.1 then some y.2 else w0.rc y.1) = some (l, r) := h
          rw [if_pos rfl] at h'
          exact Option.some.inj h'
        have := hx y rfl
        rw [e] at this
        exact this
      · have h' : (if s = y.1 then some y.2 else w0.rc s) = some (l, r) := h
        rw [if_neg hs] at h'
        exact plain h'
  · rintro q p v (h | ⟨rfl, n, rfl, rfl⟩)
    · exact hS.fr q p v h
    · exact (hS.slots n).prune
theorem SR.backO {E' : Env} {w' : World} {bl' : Nat → Blk} {off : Nat} {hle : w0.off ≤ off} {a1 : Act} {Ds : List Nat} (hD : a1.defers = Ds.map markOf) (hDn : Ds.Nodup) (hDb : ∀ D ∈ Ds, base ≤ D ∧ ∀ o, ¬ w0.κ D o) {ex : Option (Nat × Nat × Loop)} {hex : ∀ x, ex = some x → x.1 < off ∧ ∀ s r, w0.rc s ≠ some (x.2.1, r)} (hxl : ∀ x, ex = some x → w0.off ≤ x.1)
    (hS' : SR E' base (V.callO w0 off hle st.slots a1 ex hex) ⟨fun _ => .junk, bl'⟩ noAct w') : SR E' base w0 ⟨fun n => prune (fun s => Nat.blt s off) (st.slots n), bl'⟩ a1 w' := by
  have hl : w0.le (V.callO w0 off hle st.slots a1 ex hex) := callO_le hxl
  refine ⟨⟨⟨Ds, hD, hDn, fun D h => ⟨(hDb D h).1, hS'.dfr.kp D _ (.inr ⟨by rw [hD]; exact List.mem_map_of_mem h, rfl⟩), (hDb D h).2⟩⟩, fun b o h => hS'.dfr.kp b o (hl.κ b o h), fun s l r h => hS'.dfr.jp s l r (hl.rc s _ h)⟩,
    fun n => ?_, hS'.blk, hS'.inj, hS'.σok, hS'.bel, hS'.bas, hS'.σin, hS'.σout, fun q p v h => hS'.fr q p v (.inl h)⟩
  have := hS'.fr _ _ _ (.inr ⟨rfl, n, rfl, rfl⟩)
  exact this.mono (Env.only_self _ _) fun _ _ _ => rfl

def Frozen (E : Env) (st : St) (q : Nat → Bool) (b o : Nat) : Prop := E.σ b o ∨ ∃ s, q s = false ∧ ((∃ len sz get, st.blocks s = .arr len sz get ∧ E.ρ s = some (b, sz) ∧ o < len * sz) ∨ (∃ l sz, st.blocks s = .cells l ∧ E.ρ s = some (b, sz) ∧ o < l.length) ∨
  (∃ len get i v, st.blocks s = .arrx len get i v ∧ E.ρ s = some (b, 1) ∧ o < len) ∨ ∃ ver len el sz get g, st.blocks s = .stk ver len el sz get ∧ E.hd s = some g ∧ g.bo = some b ∧ o < len * sz)

theorem own_frozen (hS : SR E base w0 st a w) {s len : Nat} {v : Value} (h : Rel E w (.own s len) v) {len' sz : Nat} {get : Nat → List PV} (hB : st.blocks s = .arr len' sz get) (hl : len ≤ len') {q : Nat → Bool} (hq : q s = false) :
    RelP (Frozen E st q) w (.slice none len get) v := by
  obtain ⟨b, sz', cap, hρ, hc, rfl⟩ := h.own_inv
  have hb := hS.blk s
  rw [hB] at hb
  obtain ⟨_, b', arr, e, hρ', hbase, hh, hsz, hr⟩ := hb
  rw [hρ] at hρ'
  simp only [Option.some.injEq, Prod.mk.injEq] at hρ'
  obtain ⟨rfl, rfl⟩ := hρ'
  have hlt : ∀ i, i < len → ∀ j, j < sz' → i * sz' + j < len' * sz' := by
    intro i hi j hj
    have : (i + 1) * sz' ≤ len' * sz' := Nat.mul_le_mul_right _ (by omega)
    rw [Nat.succ_mul] at this
    omega
  refine .slice len get (some ⟨b, 0, none⟩) cap b 0 sz' (fun i j => arr.getD (i * sz' + j) undef) hc (fun _ => rfl) (fun h => by cases h) (fun i hi => (hr i (by omega)).1) (fun i hi j hj => ?_) (fun i hi j hj => ((hr i (by omega)).2 j hj).mono (fun _ _ h => .inl h) fun _ _ _ => rfl)
  have hlt := hlt i hi j hj
  refine ⟨.inr ⟨s, hq, .inl ⟨len', sz', get, hB, hρ, by omega⟩⟩, ?_⟩
  simp [World.cell?, hh, show i * sz' + j < arr.size by omega]

theorem ptr_frozen (hS : SR E base w0 st a w) {s off : Nat} {v : Value} (h : Rel E w (.ptr s off) v) {l : List PV} (hB : st.blocks s = .cells l) (hp : (l.map toView).all plain1 = true) {q : Nat → Bool} (hq : q s = false) :
    RelP (Frozen E st q) w (.cptr ((l.map toView).drop off)) v := by
  obtain ⟨b, sz', hρ, rfl⟩ := h.ptr_inv
  have hb := hS.blk s
  rw [hB] at hb
  obtain ⟨_, b', arr, e, hρ', hbase, hh, hsz, hr⟩ := hb
  rw [hρ] at hρ'
  simp only [Option.some.injEq, Prod.mk.injEq] at hρ'
  obtain ⟨rfl, _⟩ := hρ'
  have hgd : ∀ j, ((l.map toView).drop off).getD j .junk = (l.map toView).getD (off + j) .junk := fun j => by simp [List.getD, List.getElem?_drop]
  refine .cptr _ b off (fun j => arr.getD (off + j) undef) (fun j hj => ?_) fun j hj => ?_
  · simp at hj
    refine ⟨.inr ⟨s, hq, .inr (.inl ⟨l, sz', hB, hρ, by omega⟩)⟩, ?_⟩
    simp [World.cell?, hh, show off + j < arr.size by omega]
  · simp at hj
    have hlt : off + j < l.length := by omega
    have h1 := hr (off + j) hlt
    have e1 : (l.map toView).getD (off + j) .junk = toView (l.getD (off + j) .junk) := by simp [List.getD, hlt]
    rw [hgd, e1]
    have h2 := all_getD hp (off + j) (by simpa using hlt)
    rw [e1] at h2
    exact (plain1_relP h2 (toView_rel h1)).mono (fun _ _ h => .inl h) fun _ _ _ => rfl

theorem frz1_rel (hS : SR E base w0 st a w) {p : PV} {v : Value} (h : Rel E w p v) (hp : plain1a (frz1 st.blocks p) = true) : RelP (Frozen E st fun _ => false) w (frz1 st.blocks p) v := by
  have plain : frz1 st.blocks p = toView p → RelP (Frozen E st fun _ => false) w (frz1 st.blocks p) v := fun e => by
    rw [e] at hp ⊢
    exact (plain1a_relP hp (toView_rel h)).mono (fun _ _ h => .inl h) fun _ _ _ => rfl
  cases p with
  | own s len =>
    simp only [frz1] at hp ⊢
    cases hB : st.blocks s with
    | arr len' sz get =>
      simp only [hB] at hp ⊢
      cases hle : Nat.ble len len' with
      | true => exact own_frozen hS h hB (Nat.le_of_ble_eq_true hle) rfl
      | false => rw [hle] at hp; cases hp
    | _ => simp only [hB] at hp; cases hp
  | ptr s off =>
    simp only [frz1] at hp ⊢
    cases hB : st.blocks s with
    | cells l =>
      simp only [hB] at hp ⊢
      cases hle : (l.map toView).all plain1 with
      | true => exact ptr_frozen hS h hB hle rfl
      | false => rw [hle] at hp; cases hp
    | _ => simp only [hB] at hp; cases hp
  | _ => exact plain rfl

theorem frz_rel (hS : SR E base w0 st a w) {p : PV} {v : Value} (h : Rel E w p v) (hp : plain2 (frz st.blocks p) = true) (hP : (frzP st.blocks p).getD True) : RelP (Frozen E st fun _ => false) w (frz st.blocks p) v := by
  have plain : frz st.blocks p = toView p → RelP (Frozen E st fun _ => false) w (frz st.blocks p) v := fun e => by
    rw [e] at hp ⊢
    exact (plain2_relP hp (toView_rel h)).mono (fun _ _ h => .inl h) fun _ _ _ => rfl
  cases p with
  | own s len =>
    simp only [frz, frzP] at hp hP ⊢
    cases hB : st.blocks s with
    | arr len' sz get =>
      simp only [hB, Option.getD_some] at hp hP ⊢
      exact own_frozen hS h hB hP rfl
    | arrx len' get i u =>
      simp only [hB, Option.getD_some] at hp hP ⊢
      cases hv : plain1 (toView u) with
      | false => rw [hv] at hp; cases hp
      | true =>
        simp only [cond_true]
        obtain ⟨b, sz', cap, hρ, hc, rfl⟩ := h.own_inv
        have hb := hS.blk s
        rw [hB] at hb
        obtain ⟨_, b', arr, e, hρ', hbase, hh, hsz, hil, hr, hu⟩ := hb
        rw [hρ] at hρ'
        simp only [Option.some.injEq, Prod.mk.injEq] at hρ'
        obtain ⟨rfl, rfl⟩ := hρ'
        have hel : ∀ k, k < len → (bif Nat.beq k i then [toView u] else get k).length = 1 ∧ RelP E.σ w ((bif Nat.beq k i then [toView u] else get k).getD 0 .junk) (arr.getD k undef) := by
          intro k hk
          by_cases hki : k = i
          · subst hki
            have e5 : Nat.beq k k = true := by simp
            simp only [e5, cond_true]
            exact ⟨rfl, plain1_relP hv (toView_rel hu)⟩
          · have e5 : Nat.beq k i = false := by rw [Bool.eq_false_iff]; intro e; exact hki (Nat.eq_of_beq_eq_true e)
            simp only [e5, cond_false]
            exact hr k (by omega) hki
        refine .slice len _ (some ⟨b, 0, none⟩) cap b 0 1 (fun i j => arr.getD i undef) hc (fun _ => rfl) (fun h => by cases h) (fun k hk => (hel k hk).1) (fun k hk j hj => ?_) (fun k hk j hj => ?_)
        · have : j = 0 := by omega
          subst this
          refine ⟨.inr ⟨s, rfl, .inr (.inr (.inl ⟨len', get, i, u, hB, hρ, by omega⟩))⟩, ?_⟩
          simp [World.cell?, hh, show k < arr.size by omega]
        · have : j = 0 := by omega
          subst this
          exact (hel k hk).2.mono (fun _ _ h => .inl h) fun _ _ _ => rfl
    | _ => simp only [hB] at hp; cases hp
  | stk s ver len =>
    simp only [frz, frzP] at hp hP ⊢
    cases hB : st.blocks s with
    | stk ver' len' el sz get =>
      simp only [hB, Option.getD_some] at hp hP ⊢
      obtain ⟨rfl, rfl⟩ := hP
      have hb := hS.blk s
      rw [hB] at hb
      obtain ⟨hρ, g, hg, g1, g2, g3, g4, g5, g6⟩ := hb
      obtain ⟨ad, cap, g', rfl, hg', hL, hx⟩ := h.stk_inv
      rw [hg] at hg'
      cases hg'
      obtain ⟨rfl, rfl, h3⟩ := hx g2.symm
      cases hbo : g.bo with
      | none =>
        obtain ⟨rfl, hcp⟩ := g4 hbo
        rw [hcp]
        exact .slice 0 _ none 0 0 0 0 (fun _ _ => undef) (Nat.le_refl _) (by omega) (fun _ => rfl) (by intro i hi; omega) (by intro i hi; omega) (by intro i hi; omega)
      | some b =>
        obtain ⟨q1, q2, arr, q3, q4, q5, q6, q7⟩ := g6 b hbo
        refine .slice len get _ _ b 0 sz (fun i j => arr.getD (i * sz + j) undef) q5 (fun _ => rfl) (fun h => by cases h) g5.2 (fun i hi j hj => ?_) (fun i hi j hj => (q7 i hi j hj).mono (fun _ _ h => .inl h) fun _ _ _ => rfl)
        have h1 : i * sz + sz ≤ len * sz := by rw [← Nat.succ_mul]; exact Nat.mul_le_mul_right _ hi
        have h2 : len * sz ≤ g.cp * sz := Nat.mul_le_mul_right _ q5
        refine ⟨.inr ⟨s, rfl, .inr (.inr (.inr ⟨ver, len, el, sz, get, g, hB, hg, hbo, by omega⟩))⟩, ?_⟩
        simp [World.cell?, q3, show i * sz + j < arr.size by omega]
    | _ => simp only [hB] at hp; cases hp
  | cslice s off len sz =>
    simp only [frz, frzP] at hp hP ⊢
    cases hB : st.blocks s with
    | cells l =>
      simp only [hB, Option.getD_some] at hp hP ⊢
      cases hv : (l.map toView).all plain1 with
      | false => rw [hv] at hp; cases hp
      | true =>
        simp only [cond_true]
        obtain ⟨b, sz0, cap, hρ, hc, rfl⟩ := h.cslice_inv
        have hb := hS.blk s
        rw [hB] at hb
        obtain ⟨_, b', arr, e, hρ', hbase, hh, hsz, hr⟩ := hb
        rw [hρ] at hρ'
        simp only [Option.some.injEq, Prod.mk.injEq] at hρ'
        obtain ⟨rfl, rfl⟩ := hρ'
        have hi1 : ∀ i, i < len → off + i * sz + sz ≤ l.length := by
          intro i hi
          have : i * sz + sz ≤ len * sz := by rw [← Nat.succ_mul]; exact Nat.mul_le_mul_right _ hi
          omega
        refine .slice len _ (some ⟨b, off, none⟩) cap b off sz (fun i j => arr.getD (off + i * sz + j) undef) hc (fun _ => rfl) (fun h => by cases h) (fun i hi => ?_) (fun i hi j hj => ?_) (fun i hi j hj => ?_)
        · have := hi1 i hi
          simp; omega
        · have := hi1 i hi
          refine ⟨.inr ⟨s, rfl, .inr (.inl ⟨l, 0, hB, hρ, by omega⟩)⟩, ?_⟩
          simp [World.cell?, hh, show off + i * sz + j < arr.size by omega]
        · have := hi1 i hi
          rw [getD_take_drop hj]
          have h2 := all_getD hv (off + i * sz + j) (by simp; omega)
          have e1 : (l.map toView).getD (off + i * sz + j) .junk = toView (l.getD (off + i * sz + j) .junk) := by simp [List.getD, show off + i * sz + j < l.length by omega]
          rw [e1] at h2 ⊢
          exact (plain1_relP h2 (toView_rel (hr _ (by omega)))).mono (fun _ _ h => .inl h) fun _ _ _ => rfl
    | _ => simp only [hB] at hp; cases hp
  | ptr s off =>
    simp only [frz] at hp ⊢
    cases hB : st.blocks s with
    | cells l =>
      simp only [hB] at hp ⊢
      cases hle : (l.map toView).all plain1 with
      | true => exact ptr_frozen hS h hB hle rfl
      | false => rw [hle] at hp; cases hp
    | _ => simp only [hB] at hp; cases hp
  | agg cs =>
    obtain ⟨va, rfl, hs, hh⟩ := h.agg_inv
    simp only [frz, plain2] at hp ⊢
    refine .agg _ va (by simp [hs]) fun i hi => ?_
    have hi' : i < cs.length := by simpa using hi
    have e1 : (cs.map toView).getD i .junk = toView (cs.getD i .junk) := by simp [List.getD, hi']
    have h2 := all_getD hp i hi
    rw [e1] at h2 ⊢
    exact (plain1_relP h2 (toView_rel (hh i hi'))).mono (fun _ _ h => .inl h) fun _ _ _ => rfl
  | fn f xs ys =>
    obtain ⟨va, vb, rfl, ha, hb, h1, h2⟩ := h.fn_inv
    simp only [frz, plain2, Bool.and_eq_true] at hp ⊢
    have hl : ∀ (l : List PV) i, i < l.length → (l.map (frz1 st.blocks)).getD i .junk = frz1 st.blocks (l.getD i .junk) := fun l i hi => by simp [List.getD, hi]
    refine .fn f _ _ va vb (by simp [ha]) (by simp [hb]) (fun i hi => ?_) fun i hi => ?_
    · have hi' : i < xs.length := by simpa using hi
      rw [hl xs i hi']
      exact frz1_rel hS (h1 i hi') (by rw [← hl xs i hi']; exact all_getD hp.1 i hi)
    · have hi' : i < ys.length := by simpa using hi
      rw [hl ys i hi']
      exact frz1_rel hS (h2 i hi') (by rw [← hl ys i hi']; exact all_getD hp.2 i hi)
  | _ => exact plain rfl

theorem andP_1 {p q : Option Prop} (h : (andP p q).getD True) : p.getD True ∧ q.getD True := by
  cases p <;> cases q <;> simp [andP] at h ⊢ <;> exact h
theorem frzPL_all {bl : Nat → Blk} : ∀ {l : List PV}, (frzPL bl l).getD True → ∀ i, i < l.length → (frzP bl (l.getD i .junk)).getD True
  | [], _, i, hi => by simp at hi
  | v :: vs, h, 0, _ => (andP_1 h).1
  | v :: vs, h, i + 1, hi => frzPL_all (andP_1 h).2 i (by simpa using hi)
theorem withP_get {p : Option Prop} {q : Prop} (h : withP p q) : p.getD True ∧ q := by
  cases p with
  | none => exact ⟨trivial, h⟩
  | some p => exact h

theorem Frozen.where' (hS : SR E base w0 st a w) {q : Nat → Bool} {b o : Nat} (h : Frozen E st q b o) : E.σ b o ∨ (base ≤ b ∧ b < w.heap.size ∧ ∀ s, E.at s = some b → q s = false) := by
  rcases h with h | ⟨s, hq, h⟩
  · exact .inl h
  · refine .inr ?_
    have hat : E.at s = some b := by
      rcases h with ⟨_, sz, _, _, hρ, _⟩ | ⟨_, sz, _, hρ, _⟩ | ⟨_, _, _, _, _, hρ, _⟩ | ⟨_, _, _, _, _, g, _, hg, hb, _⟩
      · simp [Env.at, hρ]
      · simp [Env.at, hρ]
      · simp [Env.at, hρ]
      · exact hS.hd_at hg hb
    obtain ⟨hlt, hbase⟩ := hS.at_lt hat
    exact ⟨hbase, hlt, fun s' h' => by rw [hS.inj s' s b h' hat]; exact hq⟩

theorem noref1_rel {σ σ' : Nat → Nat → Prop} {w w' : World} {p : PV} {v : Value} (hp : noref1 p = true) (h : RelP σ w p v) : RelP σ' w' p v := by
  cases h <;> simp [noref1] at hp <;> constructor
theorem noref2_rel {σ σ' : Nat → Nat → Prop} {w w' : World} {p : PV} {v : Value} (hp : noref2 p = true) (h : RelP σ w p v) : RelP σ' w' p v := by
  cases p with
  | agg cs =>
    cases h with
    | agg _ a hs h => exact .agg cs a hs fun i hi => noref1_rel (all_getD hp i hi) (h i hi)
  | _ => exact noref1_rel hp h
theorem noref_rel {σ σ' : Nat → Nat → Prop} {w w' : World} {p : PV} {v : Value} (hp : noref p = true) (h : RelP σ w p v) : RelP σ' w' p v := by
  cases p with
  | tup cs =>
    cases h with
    | tup _ a hs h => exact .tup cs a hs fun i hi => noref2_rel (all_getD hp i hi) (h i hi)
  | _ => exact noref2_rel hp h
theorem getD_toList (arr : Array Value) (j : Nat) : arr.toList.getD j undef = arr.getD j undef := by
  by_cases h : j < arr.size <;> simp [List.getD, Array.getD, h]

theorem SR.below (hS : SR E base w0 st a w) {w' : World} (hbel : Below w.heap.size w w') : SR E base w0 st a w' := by
  have hcell : ∀ b o, E.σ b o → w'.cell? ⟨b, o, none⟩ = w.cell? ⟨b, o, none⟩ := fun b o h => cell_of_heap (hbel.block b (hS.σok b o h).1)
  refine ⟨hS.dfr.heap fun b hb => hbel.block b hb, fun n => (hS.slots n).mono (Env.le_refl E) hcell, fun s => (hS.blk s).keep (Env.le_refl E) hcell rfl rfl fun b hb => hbel.block b (hS.at_lt hb).1, hS.inj, fun b o h => ?_, hS.bel.trans (hbel.mono hS.bas), ?_, hS.σin, hS.σout, fun q p v h => (hS.fr q p v h).mono (E' := E.only q) (Env.le_refl _) hcell⟩
  · obtain ⟨z1, z2, z3⟩ := hS.σok b o h
    have := hbel.size
    exact ⟨by omega, z2, z3⟩
  · have := hS.bas; have := hbel.size; omega

theorem frz_args (hS : SR E base w0 st a w) {l : List PV} {vals : Array Value} (hrow : RowR E w l vals) (hp : (l.map (frz st.blocks)).all plain2 = true) (hP : (frzPL st.blocks l).getD True) :
    ∀ i, i < (l.map (frz st.blocks)).length → RelP (Frozen E st fun _ => false) w ((l.map (frz st.blocks)).getD i .junk) (vals.getD i undef) := by
  intro i hi
  have hi' : i < l.length := by simpa using hi
  have e3 : (l.map (frz st.blocks)).getD i .junk = frz st.blocks (l.getD i .junk) := by simp [List.getD, hi']
  have h1 := all_getD hp i hi
  rw [e3] at h1 ⊢
  exact frz_rel hS (hrow.2 i hi') h1 (frzPL_all hP i hi')

theorem frozen_lt (hS : SR E base w0 st a w) : ∀ b o, Frozen E st (fun _ => false) b o → b < w.heap.size := fun b o h => by
  rcases h.where' hS with h | ⟨_, h, _⟩
  · exact (hS.σok b o h).1
  · exact h

theorem evalX0_sound (hC : CtxOk P C) (hS : SR E base w0 st a w) {o : Oper} {r : R} (hx : evalX0 C st o = some r) (hp : r.pre.getD True) : OpOk P base w0 st a w o r := by
  unfold evalX0 at hx
  split at hx
  · rename_i f args ts ho
    split at hx
    · rename_i g xs ys h
      have hf := hS.ev f
      rw [h] at hf
      obtain ⟨va, vb, e, ha, hb, h1, h2⟩ := hf.fn_inv
      have hrow : RowR E w (xs ++ (args.toList.map (V.ev st.slots) ++ ys)) (va ++ (args.map a.eval ++ vb)) := by
        refine RowR.append ⟨ha, h1⟩ (RowR.append ⟨by simp, fun i hi => ?_⟩ ⟨hb, h2⟩)
        simp at hi
        have := hS.ev args[i]
        simpa [List.getD, Array.getD, hi] using this
      split at hx
      · rename_i el sz s hfr
        obtain ⟨hsnd, fn, fc, hfn, hnm, hbd⟩ := hC.fresh g el sz s hfr
        have hnm' : fn.name ≠ "runtime.NumGoroutine" := by simpa using hnm
        simp only [Option.some.injEq] at hx
        subst hx
        generalize hd : o.dst.getD 0 + C.off = d at *
        cases hpl : (((xs ++ (args.toList.map (V.ev st.slots) ++ ys)).map (frz st.blocks)).all plain2 && Nat.ble 1 sz) with
        | false => rw [hpl] at hp; exact hp.elim
        | true =>
        rw [hpl] at hp
        simp only [cond_true] at hp ⊢
        simp only [Bool.and_eq_true] at hpl
        obtain ⟨hpl, hsz⟩ := hpl
        have hpos := Nat.le_of_ble_eq_true hsz
        split at hp
        · rename_i len get hres hbdN
          simp only [Option.getD_some] at hp
          obtain ⟨hp1, hp2⟩ := hp
          obtain ⟨hp0, hp1⟩ := andP_1 hp1
          have hc := hsnd _ (Frozen E st fun _ => false) w (va ++ (args.map a.eval ++ vb)) (by rw [hrow.1]; simp) (frz_args hS hrow hpl hp0) (frozen_lt hS) hp1 len get hres
          intro next Q hn
          have hrun : (execOp a.eval o).run P w = .ok (.enter g (va ++ (args.map a.eval ++ vb))) w := by
            simp [execOp, ho, resolve, e, Deferred.ofValue, invoke, callFunc, hfn, hnm', hbd, Array.append_assoc]
          simp only [Oper.wp, hrun, Oper.upon]
          refine hc.mono ?_
          rintro e' w' ⟨bo, cp, rfl, hbel, hnil, hblk⟩
          have hdn := hS.blk d
          rw [hbdN] at hdn
          obtain ⟨arr, hA⟩ : ∃ arr : Array Value, ∀ b, bo = some b → w.heap.size ≤ b ∧ w'.heap[b]? = some (.cells arr el (0, 0)) ∧ arr.size = cp * sz ∧ len ≤ cp ∧ cp ≤ maxLen ∧ ∀ i, i < len → ∀ j, j < sz → RelP (fun _ _ => False) w' ((get i).getD j .junk) (arr.getD (i * sz + j) undef) := by
            cases bo with
            | none => exact ⟨#[], fun b h => nomatch h⟩
            | some b =>
              obtain ⟨q1, arr, q2⟩ := hblk b rfl
              exact ⟨arr, fun b' hb' => by cases hb'; exact ⟨q1, q2⟩⟩
          have hg : Grew0 w w' el sz none 0 0 len arr.toList bo cp := ⟨hnil, fun b hb => by
            obtain ⟨q1, q2, q3, q4, q5, _⟩ := hA b hb
            exact ⟨.inr q1, arr, q2, q3, q4, q5, fun j hj => (getD_toList arr j).symm⟩, fun k hk _ => hbel.block k hk, hbel.os, hbel.tape, hbel.output, hbel.size⟩
          cases hlit : has C.lits d with
          | true =>
            simp only [hlit, cond_true] at hn
            obtain ⟨E', k1, k2, k5⟩ := SR.stkd hS (s := d) (ver := 0) (get := get) hg (by omega) hdn.1 (.inl ⟨hdn.2, rfl⟩) (fun i hi => (hp2 i hi).1) (fun i hi j hj => by
              cases hbo : bo with
              | none => have := (hnil hbo).1; omega
              | some b =>
                obtain ⟨q1, q2, q3, q4, q5, q6⟩ := hA b hbo
                have := noref1_rel (σ' := E.σ) (w' := w) (all_getD (hp2 i hi).2 j (by rw [(hp2 i hi).1]; exact hj)) (q6 i hi j hj)
                rw [getD_toList]
                exact this) (fun j h => by rw [hbdN] at h; cases h)
            exact hn E' w' _ k5 (.stk d 0 len _ cp _ k2 (Nat.le_refl _) fun _ => ⟨rfl, rfl, rfl⟩)
          | false =>
          simp only [hlit, cond_false] at hn
          obtain ⟨E', k1, k2, k3, k4, k5⟩ := SR.grew hS 0 0 hg (by omega) (fun _ _ _ => Nat.zero_le _) (Nat.zero_le _) (fun _ => rfl) hdn.1 (.inl ⟨hdn.2, rfl, rfl⟩) (fun b h => nomatch h) (fun j h => by rw [hbdN] at h; cases h)
          refine hn E' w' _ k5 (.tslice d len get _ cp ?_ _ k2 (Nat.le_refl _) fun _ => ⟨rfl, rfl, rfl⟩)
          cases hbo : bo with
          | none =>
            obtain ⟨z1, z2⟩ := hnil hbo
            subst z1; subst z2
            exact .slice 0 _ none 0 0 0 0 (fun _ _ => undef) (Nat.le_refl _) (by omega) (fun _ => rfl) (by intro i hi; omega) (by intro i hi; omega) (by intro i hi; omega)
          | some b =>
            obtain ⟨q1, q2, q3, q4, q5, q6⟩ := hA b hbo
            refine .slice len get _ cp b 0 sz (fun i j => arr.getD (i * sz + j) undef) q4 (fun _ => rfl) (fun h => nomatch h) (fun i hi => (hp2 i hi).1) (fun i hi j hj => ?_) (fun i hi j hj => noref1_rel (all_getD (hp2 i hi).2 j (by rw [(hp2 i hi).1]; exact hj)) (q6 i hi j hj))
            have hlt : i * sz + j < len * sz := by
              have : i * sz + sz ≤ len * sz := by rw [← Nat.succ_mul]; exact Nat.mul_le_mul_right _ hi
              omega
            have := k3 b hbo (i * sz + j) hlt
            rw [Nat.zero_add]
            refine ⟨this.1, this.2.trans ?_⟩
            have h2 : len * sz ≤ cp * sz := Nat.mul_le_mul_right _ q4
            simp [List.getD, Array.getD, show i * sz + j < arr.size by omega]
        · exact hp.elim
      · split at hx
        · rename_i s hs
          obtain ⟨hsnd, fn, fc, hfn, hnm, hbd⟩ := hC.specs g s hs
          have hnm' : fn.name ≠ "runtime.NumGoroutine" := by simpa using hnm
          cases he : ((xs ++ (args.toList.map (V.ev st.slots) ++ ys)).map export1).all plain2 with
          | true => rw [he] at hx; cases hx
          | false =>
          rw [he] at hx
          simp only [cond_false, Option.some.injEq] at hx
          subst hx
          cases hpl : (((xs ++ (args.toList.map (V.ev st.slots) ++ ys)).map (frz st.blocks)).all plain2 && noref (s ((xs ++ (args.toList.map (V.ev st.slots) ++ ys)).map (frz st.blocks))).2) with
          | false => rw [hpl] at hp; exact hp.elim
          | true =>
          rw [hpl] at hp
          simp only [cond_true] at hp ⊢
          simp only [Bool.and_eq_true] at hpl
          obtain ⟨hp0, hp1⟩ := andP_1 hp
          have hc := hsnd _ (Frozen E st fun _ => false) w (va ++ (args.map a.eval ++ vb)) (by rw [hrow.1]; simp) (frz_args hS hrow hpl.1 hp0) (frozen_lt hS) hp1
          intro next Q hn
          have hrun : (execOp a.eval o).run P w = .ok (.enter g (va ++ (args.map a.eval ++ vb))) w := by
            simp [execOp, ho, resolve, e, Deferred.ofValue, invoke, callFunc, hfn, hnm', hbd, Array.append_assoc]
          simp only [Oper.wp, hrun, Oper.upon]
          refine hc.mono ?_
          rintro e' w' ⟨v, σ', rfl, hbel, _, _, hv⟩
          exact hn E w' v (hS.below hbel) (.pure (noref_rel hpl.2 hv))
        · cases hx
    · cases hx
  · rename_i args ts ho
    split at hx
    · rename_i s ver len tg n get' t t' hargs hts
      simp only [Option.some.injEq] at hx
      subst hx
      obtain ⟨p, q, hpq, hpe, hqe, hp1, hq1⟩ := two_args hS hargs
      cases htt : Nat.beq t t' with
      | false => rw [htt] at hp; exact hp.elim
      | true =>
      obtain rfl := Nat.eq_of_beq_eq_true htt
      rw [htt] at hp
      simp only [cond_true] at hp ⊢
      obtain ⟨ax, cx, ex, hxr⟩ := hq1.slice_inv
      rw [ex] at hxr
      have hcall : ∀ {bv v' w'}, a.eval p = bv → (Builtin.append_ #[t, t] o.type #[bv, .slice ax n cx]).run P w = .ok v' w' → (execOp a.eval o).run P w = .ok (.value v') w' := by
        intro bv v' w' e h
        have e1 : args.map a.eval = #[bv, .slice ax n cx] := by
          apply Array.ext'
          simp [hpq, e, ex]
        have e2 : ts = #[t, t] := by apply Array.ext'; simp [hts]
        simp [execOp, ho, resolve, invoke, builtin, e1, e2, h]
      split at hp
      · rename_i el _ _ _ _ h1
        have hd := und_slice (hC.types _ _ h1).desc
        cases hl : look C.types el with
        | none => rw [hl] at hp; exact hp.elim
        | some te =>
        have ht := hC.types _ _ hl
        simp only [hl] at hp ⊢
        cases hsz : Nat.ble 1 te.size with
        | false => rw [hsz] at hp; exact hp.elim
        | true =>
        have hpos := Nat.le_of_ble_eq_true hsz
        rw [hsz] at hp
        simp only [cond_true] at hp ⊢
        cases hbd : st.blocks s with
        | stk ver' len' el' sz' get =>
          simp only [hbd] at hp ⊢
          cases hel : (Nat.beq el el' && Nat.beq sz' te.size) with
          | false => rw [hel] at hp; exact hp.elim
          | true =>
          rw [hel] at hp
          simp only [cond_true, Option.getD_some] at hp ⊢
          simp only [Bool.and_eq_true] at hel
          obtain rfl := Nat.eq_of_beq_eq_true hel.1
          obtain rfl := Nat.eq_of_beq_eq_true hel.2
          obtain ⟨rfl, rfl, p1, p2, p3⟩ := hp
          have hb := hS.blk s
          rw [hbd] at hb
          obtain ⟨b1, g, b2, b3, b4, b4', b5, b5', b6⟩ := hb
          obtain ⟨av, cv, g', ev', gh, gL, gx⟩ := hp1.stk_inv
          rw [b2] at gh
          cases gh
          obtain ⟨rfl, rfl, gx3⟩ := gx b4.symm
          obtain ⟨c, c1, c2, c3, c4⟩ := view_news hpos hxr p3
          obtain ⟨arr0, ha0⟩ : ∃ arr0, ∀ b, g.bo = some b → w.heap[b]? = some (.cells arr0 el (0, 0)) ∧ arr0.size = g.cp * te.size ∧ len ≤ g.cp ∧ g.cp ≤ maxLen ∧ ∀ i, i < len → ∀ j, j < te.size → RelP E.σ w ((get i).getD j .junk) (arr0.getD (i * te.size + j) undef) := by
            cases hgo : g.bo with
            | none => exact ⟨#[], fun b h => nomatch h⟩
            | some b =>
              obtain ⟨_, _, arr, z⟩ := b6 b hgo
              exact ⟨arr, fun b' hb' => by cases hb'; exact z⟩
          obtain ⟨w', bo, cp, r1, r2⟩ := append_run (P := P) (w := w) (ty := o.type) (bo0 := g.bo) (L0 := len) (cp0 := g.cp) (cx := cx) hd ht b5 arr0 (fun b hb => ⟨(ha0 b hb).1, (ha0 b hb).2.1, (ha0 b hb).2.2.1, (ha0 b hb).2.2.2.1⟩) _ (by simp) c2 c3 c4 p1 p2
          have hllen : len * te.size = (arr0.toList.take (len * te.size)).length := by
            cases hgo : g.bo with
            | none => rw [(b5 hgo).1]; simp
            | some b0 =>
              obtain ⟨z1, z2, z3, z4⟩ := ha0 b0 hgo
              have : len * te.size ≤ g.cp * te.size := Nat.mul_le_mul_right _ z3
              simp; omega
          obtain ⟨E', k1, k2, k3⟩ := SR.stkd hS (ver := ver + 1) (get := fun i => bif Nat.blt i len then get i else get' (i - len)) r2.toGrew0 hpos b1 (.inr ⟨g, b2, b3, by omega, rfl⟩) (fun i hi => by
              by_cases hiL : i < len
              · simp only [blt_t hiL, cond_true]; exact b5'.2 i hiL
              · simp only [blt_f hiL, cond_false]; exact (p3 (i - len) (by omega)).1) (fun i hi j hj => by
              by_cases hiL : i < len
              · simp only [blt_t hiL, cond_true]
                have hlt2 : i * te.size + j < len * te.size := by
                  have : i * te.size + te.size ≤ len * te.size := by rw [← Nat.succ_mul]; exact Nat.mul_le_mul_right _ hiL
                  omega
                rw [getD_app_l _ _ (by omega)]
                cases hgo : g.bo with
                | none => have := (b5 hgo).1; omega
                | some b0 =>
                  obtain ⟨z1, z2, z3, z4, z5⟩ := ha0 b0 hgo
                  have h3 : len * te.size ≤ g.cp * te.size := Nat.mul_le_mul_right _ z3
                  have := z5 i hiL j hj
                  simpa [List.getD, Array.getD, hlt2, show i * te.size + j < arr0.size by omega] using this
              · simp only [blt_f hiL, cond_false]
                have hge : len * te.size ≤ i * te.size := Nat.mul_le_mul_right _ (by omega)
                rw [getD_app_r _ _ (by omega), ← hllen]
                have e0 : i * te.size + j - len * te.size = (i - len) * te.size + j := by rw [Nat.sub_mul]; omega
                rw [e0]
                have hlt3 : (i - len) * te.size + j < n * te.size := by
                  have : (i - len) * te.size + te.size ≤ n * te.size := by rw [← Nat.succ_mul]; exact Nat.mul_le_mul_right _ (by omega)
                  omega
                have e1 : ((i - len) * te.size + j) / te.size = i - len := by rw [Nat.mul_comm, Nat.mul_add_div hpos, Nat.div_eq_of_lt hj]; simp
                have e2 : ((i - len) * te.size + j) % te.size = j := by rw [Nat.mul_comm, Nat.mul_add_mod, Nat.mod_eq_of_lt hj]
                have := c1 (i - len) (by omega) j hj
                simpa [List.getD, hlt3, e1, e2] using this) (fun j h => by rw [hbd] at h; cases h)
          intro next Q hnx
          simp only [Oper.wp, hcall ev' r1, Oper.upon]
          exact hnx E' w' _ k3 (.stk s (ver + 1) (len + n) _ cp _ k2 (Nat.le_refl _) fun _ => ⟨rfl, rfl, rfl⟩)
        | _ => rw [hbd] at hp; exact hp.elim
      · exact hp.elim
    · cases hx
  · rename_i t x h ho
    have hx0 := hS.ev x
    have ix : ∀ (x : Operand) {k n}, V.ev st.slots x = .int k n → a.eval x = .int k n := fun x k n hxx => by have := hS.ev x; rw [hxx] at this; exact this.int_inv
    split at hx
    · rename_i s ver len hxe
      simp only [Option.some.injEq] at hx
      subst hx
      rw [hxe] at hx0
      obtain ⟨av, cv, g', ev', gh, gL, gx⟩ := hx0.stk_inv
      split at hp
      · rename_i el _ _ _ _ h1
        have hd := und_slice (hC.types _ _ h1).desc
        split at hp
        · rename_i te k n ver' len' el' sz get h2 h3 h4
          have ht := hC.types _ _ h2
          have e1 := ix _ h3
          simp only [Option.getD_some] at hp
          obtain ⟨rfl, rfl, p1, p2⟩ := hp
          have hb := hS.blk s
          rw [h4] at hb
          obtain ⟨b1, g, b2, b3, b4, b4', b5, b5', b6⟩ := hb
          rw [b2] at gh
          cases gh
          obtain ⟨rfl, rfl, gx3⟩ := gx b4.symm
          have hn : n.toNat ≤ len := by omega
          have hlc : len ≤ g'.cp := by
            cases hgo : g'.bo with
            | none => have := (b5 hgo).1; omega
            | some b => exact (b6 b hgo).2.2.choose_spec.2.2.1
          obtain ⟨arr0, ha0⟩ : ∃ arr0, ∀ b, g'.bo = some b → base ≤ b ∧ 0 < sz ∧ w.heap[b]? = some (.cells arr0 el' (0, 0)) ∧ arr0.size = g'.cp * sz ∧ len ≤ g'.cp ∧ g'.cp ≤ maxLen ∧ ∀ i, i < len → ∀ j, j < sz → RelP E.σ w ((get i).getD j .junk) (arr0.getD (i * sz + j) undef) := by
            cases hgo : g'.bo with
            | none => exact ⟨#[], fun b h => nomatch h⟩
            | some b =>
              obtain ⟨z1, z2, arr, z⟩ := b6 b hgo
              exact ⟨arr, fun b' hb' => by cases hb'; exact ⟨z1, z2, z⟩⟩
          intro next Q hnx
          have hrun : (execOp a.eval o).run P w = .ok (.value (.slice (g'.bo.map fun b => ⟨b, 0, none⟩) n.toNat g'.cp)) w := by
            simp [execOp, ho, ev', e1, Instr.sliceAt, Instr.slice, Instr.sliceBounds, Instr.sliceBound, asIntOf, run_und w hd, p1, show n ≤ (g'.cp : Int) by omega, ht.run_size]
            intro h0
            cases g'.bo with
            | none => rfl
            | some x => simp [Addr.add]
          simp only [Oper.wp, hrun, Oper.upon]
          clear hrun e1 h3
          generalize hm : n.toNat = m at *
          cases hgo : g'.bo with
          | none =>
            obtain ⟨z1, z2⟩ := b5 hgo
            have hn0 : m = 0 := by omega
            subst hn0
            obtain ⟨E', k1, k2, k3⟩ := SR.stkd hS (s := s) (ver := ver + 1) (el := el') (sz := sz) (L0 := 0) (L := 0) (cp0 := 0) (cp := 0) (bo0 := none) (bo := none) (xs := []) (get := get) ⟨fun _ => ⟨rfl, rfl⟩, (fun b h => nomatch h), fun _ _ _ => rfl, rfl, rfl, rfl, Nat.le_refl _⟩ b5'.1 b1 (.inr ⟨g', b2, b3, by omega, hgo⟩) (fun i hi => by omega) (fun i hi => by omega) (fun j h => by rw [h4] at h; cases h)
            rw [z2]
            exact hnx E' w _ k3 (.stk s (ver + 1) 0 _ 0 _ k2 (Nat.le_refl _) fun _ => ⟨rfl, rfl, rfl⟩)
          | some b =>
            obtain ⟨z1, z2, z3, z4, z5, z6, z7⟩ := ha0 b hgo
            have h3 : m * sz ≤ g'.cp * sz := Nat.mul_le_mul_right _ (by omega)
            obtain ⟨E', k1, k2, k3⟩ := SR.stkd hS (s := s) (ver := ver + 1) (el := el') (sz := sz) (L0 := len) (L := m) (cp0 := g'.cp) (cp := g'.cp) (bo0 := some b) (bo := some b) (xs := arr0.toList) (get := get) ⟨(fun h => nomatch h), fun b' hb' => by
                cases hb'
                refine ⟨.inl rfl, arr0, z3, z4, by omega, z6, fun j hj => ?_⟩
                simp [List.getD, Array.getD, show j < arr0.size by omega], fun _ _ _ => rfl, rfl, rfl, rfl, Nat.le_refl _⟩ z2 b1 (.inr ⟨g', b2, b3, by omega, hgo⟩) (fun i hi => b5'.2 i (by omega)) (fun i hi j hj => by
                have := z7 i (by omega) j hj
                have h5 : i * sz + sz ≤ m * sz := by rw [← Nat.succ_mul]; exact Nat.mul_le_mul_right _ hi
                simpa [List.getD, Array.getD, show i * sz + j < arr0.size by omega] using this) (fun j h => by rw [h4] at h; cases h)
            exact hnx E' w _ k3 (.stk s (ver + 1) m _ g'.cp _ k2 (Nat.le_refl _) fun _ => ⟨rfl, rfl, rfl⟩)
        · exact hp.elim
      · exact hp.elim
    · rename_i s off hxe
      simp only [Option.some.injEq] at hx
      subst hx
      rw [hxe] at hx0
      obtain ⟨b, sz0, hρ, ev'⟩ := hx0.ptr_inv
      split at hp
      · rename_i m el _ _ _ _ h1
        have hd := und_array (hC.types _ _ h1).desc
        split at hp
        · rename_i te k n h2 h3
          have ht := hC.types _ _ h2
          have e1 := ix _ h3
          simp only [Option.getD_some] at hp
          obtain ⟨p1, p2⟩ := hp
          intro next Q hnx
          have hrun : (execOp a.eval o).run P w = .ok (.value (.slice (some ⟨b, off, none⟩) n.toNat m)) w := by
            simp [execOp, ho, ev', e1, Instr.sliceAt, Instr.sureAddr, Instr.sliceBounds, Instr.sliceBound, asIntOf, run_und w hd, p1, p2, ht.run_size]
            intro h0
            simp [Addr.add]
          simp only [Oper.wp, hrun, Oper.upon]
          exact hnx E w _ hS (.cslice s off n.toNat te.size b sz0 m hρ (by omega))
        · exact hp.elim
      · exact hp.elim
    · cases hx
  · cases hx

theorem appendQ_room {t ty e n cx len cap q b : Nat} {te : TI} {ax : Addr} (hd : P.underlying t = some (.slice e)) (ht : TIok P e te) {arr0 : Array Value} (hb : w.heap[b]? = some (.cells arr0 e (0, 0)))
    (hsz : arr0.size = (q + cap) * te.size) (hcm : q + cap ≤ maxLen) (news : List Value) (hl : news.length = n * te.size) (hnews : ∀ j u, news[j]? = some u → w.cell? (ax.add j) = some u) (h1 : ∀ u ∈ news, u.oneCell' = true) (hroom : len + n ≤ cap) :
    ∃ w', (Builtin.append_ #[t, t] ty #[.slice (some ⟨b, q * te.size, none⟩) len cap, .slice (some ax) n cx]).run P w = .ok (.slice (some ⟨b, q * te.size, none⟩) (len + n) cap) w' ∧
      Grew0 w w' e te.size (some b) (q + cap) (q + len) (q + len + n) (arr0.toList.take ((q + len) * te.size) ++ news) (some b) (q + cap) := by
  obtain ⟨i, z, hi0, hi1, hi2, hi3, hi4⟩ := ht.run_info w
  have hi : P.info? e = some i := by
    simp only [typeInfo] at hi0
    cases hx : P.info? e with
    | none => simp [hx] at hi0
    | some i' => simp [hx] at hi0; rw [hi0]
  have hfit : (q + len) * i.size + news.length ≤ arr0.size := by rw [hl, hsz, hi1, ← Nat.add_mul]; exact Nat.mul_le_mul_right _ (by omega)
  have hf := run_firstCells_some (P := P) w i.size n ax n cx news (by rw [hl, hi1]) hnews
  have hst := run_storeCells_at P b ((q + len) * i.size) e news 0 arr0 w hb (by simpa using hfit) h1
  simp only [Nat.add_zero] at hst
  refine ⟨w.setRow b (arr0.toList.take ((q + len) * i.size) ++ news ++ arr0.toList.drop ((q + len) * i.size + news.length)).toArray, ?_, ⟨(fun h => nomatch h), fun b' hb' => ?_, fun k hk ho => ?_, rfl, rfl, rfl, by simp [World.setRow]⟩⟩
  rotate_left
  · simp only [Option.some.injEq] at hb'
    subst hb'
    refine ⟨.inl rfl, _, setRow_heap w b arr0 _ e _ hb, ?_, by omega, hcm, fun j hj => ?_⟩
    · rw [hi1] at hfit ⊢
      simp only [List.size_toArray, List.length_append, List.length_take, List.length_drop, Array.length_toList]
      omega
    · rw [toArray_getD, hi1, getD_app_l]
      rw [hi1] at hfit
      rw [Nat.add_mul] at hj
      simp
      omega
  · have hkb : k ≠ b := by
      rintro rfl
      rcases ho with ho | ho <;> exact ho rfl
    exact setRow_other w b k _ hkb
  · rw [hi1] at hst hf
    have e0 : q * te.size + len * te.size = (q + len) * te.size := (Nat.add_mul _ _ _).symm
    simp [Builtin.append_, run_underlying hd, sizeOf, typeInfo, hi, Builtin.lenOf, hroom, Addr.add_lit, hi1, e0, hf, hst]
theorem appendQ_grow {t ty e n cx len cap : Nat} {te : TI} {ad ax : Addr} (hd : P.underlying t = some (.slice e)) (ht : TIok P e te)
    (olds news : List Value) (hlo : olds.length = len * te.size) (holds : ∀ j u, olds[j]? = some u → w.cell? (ad.add j) = some u) (hl : news.length = n * te.size) (hnews : ∀ j u, news[j]? = some u → w.cell? (ax.add j) = some u)
    (hgr : cap < len + n) (hlt : len + n < 2147483648) (hby : (len + n) * te.bytes ≤ 140737488355328) :
    ∃ w' cp, (Builtin.append_ #[t, t] ty #[.slice (some ad) len cap, .slice (some ax) n cx]).run P w = .ok (.slice (some ⟨w.heap.size, 0, none⟩) (len + n) cp) w' ∧
      ∀ bo0 cp0 L0, Grew0 w w' e te.size bo0 cp0 L0 (len + n) (olds ++ news) (some w.heap.size) cp := by
  obtain ⟨i, z, hi0, hi1, hi2, hi3, hi4⟩ := ht.run_info w
  have hi : P.info? e = some i := by
    simp only [typeInfo] at hi0
    cases hx : P.info? e with
    | none => simp [hx] at hi0
    | some i' => simp [hx] at hi0; rw [hi0]
  have hzs : z.cells.size = te.size := by
    have := congrArg List.length hi4
    simpa [ht.len] using this
  have hr := run_append_grow (P := P) w t ty e i z hd hi hi3 ad len cap olds (by rw [hi1]; exact hlo) holds ax n cx news (by rw [hi1]; exact hl) hnews hgr (by omega) (growslice_fits (by omega) (by rw [hi2]; exact hby))
  refine ⟨_, _, hr, fun bo0 cp0 L0 => ?_⟩
  have hge := grownCap_ge w (len + n) cap e
  have hcm : grownCap w (len + n) cap e ≤ maxLen := grownCap_le_maxLen w (len + n) cap e (by unfold maxLen; omega)
  refine ⟨(fun h => nomatch h), fun b hb => ?_, fun k hk _ => heap_alloc_lt w.drew _ hk, rfl, rfl, rfl, by simp⟩
  simp only [Option.some.injEq] at hb
  subst hb
  refine ⟨.inr (Nat.le_refl _), _, heap_alloc_new' w.drew _, ?_, hge, hcm, fun j hj => ?_⟩
  · simp only [Array.size_append, List.size_toArray, size_zeroCells, hzs, hlo, hl, ← Nat.add_mul]
    congr 1
    omega
  · rw [Nat.add_mul] at hj
    have e0 : olds.toArray ++ news.toArray ++ Builtin.zeroCells z.cells (grownCap w (len + n) cap e - (len + n)) = (olds ++ news ++ (Builtin.zeroCells z.cells (grownCap w (len + n) cap e - (len + n))).toList).toArray := by simp
    rw [e0, toArray_getD, getD_app_l _ _ (by simp; omega)]
theorem divmod_sz {i j sz : Nat} (hpos : 0 < sz) (hj : j < sz) : (i * sz + j) / sz = i ∧ (i * sz + j) % sz = j :=
  ⟨by rw [Nat.mul_comm, Nat.mul_add_div hpos, Nat.div_eq_of_lt hj]; simp, by rw [Nat.mul_comm, Nat.mul_add_mod, Nat.mod_eq_of_lt hj]⟩
theorem range_getD {c : Nat → Nat → Value} {n sz i j : Nat} (hpos : 0 < sz) (hi : i < n) (hj : j < sz) : ((List.range (n * sz)).map fun q => c (q / sz) (q % sz)).getD (i * sz + j) undef = c i j := by
  have h1 : i * sz + sz ≤ n * sz := by rw [← Nat.succ_mul]; exact Nat.mul_le_mul_right _ hi
  have h2 : i * sz + j < n * sz := by omega
  simp [List.getD, h2, (divmod_sz (i := i) hpos hj).1, (divmod_sz (i := i) hpos hj).2]
theorem tslOf_sound {lit : Bool} {n s k len sz : Nat} {get : Nat → List PV} {p : PV} {v : Value} (h : tslOf lit n p = some (s, k, len, sz, get)) (h0 : 0 < len) (hr : Rel E w p v) : Rel E w (.tsl s k len sz get) v := by
  unfold tslOf at h
  split at h
  · simp only [Option.some.injEq, Prod.mk.injEq] at h
    obtain ⟨rfl, rfl, rfl, rfl, rfl⟩ := h
    exact hr
  · cases lit with
    | false => cases h
    | true =>
      simp only [cond_true, Option.some.injEq, Prod.mk.injEq] at h
      obtain ⟨rfl, rfl, rfl, rfl, rfl⟩ := h
      obtain ⟨a, cap, g, rfl, hvr, gh, gL, gx⟩ := hr.tslice_inv
      refine .tsl _ 0 _ _ _ a cap hvr g gh (by omega) fun hl => ?_
      obtain ⟨h1, h2, h3⟩ := gx (by omega)
      refine ⟨by omega, by omega, ?_⟩
      cases hvr with
      | slice _ _ _ _ b o' sz' c hc ha hn hl q1 q2 =>
      have ha' := ha h0
      rw [ha'] at h1
      cases hgo : g.bo with
      | none => rw [hgo] at h1; cases h1
      | some b' =>
        rw [hgo] at h1
        simp only [Option.map_some, Option.some.injEq] at h1
        exact ⟨b', _, rfl, ha', fun _ => by rw [h1, h3]; simp⟩
  · cases h
theorem evalQ_sound (hC : CtxOk P C) (hS : SR E base w0 st a w) {o : Oper} {r : R} (hx : evalQ C st o = some r) (hp : r.pre.getD True) : OpOk P base w0 st a w o r := by
  have ix : ∀ (x : Operand) {k n}, V.ev st.slots x = .int k n → a.eval x = .int k n := fun x k n hxx => by have := hS.ev x; rw [hxx] at this; exact this.int_inv
  unfold evalQ at hx
  split at hx
  · rename_i t x i ho
    split at hx
    · rename_i s k len sz get hxe
      simp only [Option.some.injEq] at hx
      subst hx
      have hx0 := hS.ev x
      rw [hxe] at hx0
      obtain ⟨ad, cap, g, e, hr, _⟩ := hx0.tsl_inv
      split at hp
      · rename_i el _ _ _ _ k' n h1 h2
        have e1 := ix _ h2
        have hd := und_slice (hC.types _ _ h1).desc
        split at hp
        · rename_i te h3
          have ht := hC.types _ _ h3
          obtain ⟨g1, g2, g3⟩ := hp
          cases hr with
          | slice _ _ _ _ b o' sz c hc ha hn hl q1 q2 =>
            have hn' : n.toNat < len := by omega
            obtain rfl := ha (by omega)
            have hsz := hl _ hn'
            rw [g3] at hsz
            subst hsz
            refine ValOk.op hS ⟨rfl, .pointer (some ⟨b, o' + n.toNat * te.size, none⟩), ?_, .pure (.cptr _ b _ (c n.toNat) ?_ ?_)⟩
            · simp [execOp, ho, e, e1, Instr.indexAt, asIntOf, run_und w hd, g1, g2, ht.run_size, add_none]
            · intro j hj
              exact q1 _ hn' j (by omega)
            · intro j hj
              exact q2 _ hn' j (by omega)
        · exact hp.elim
      · exact hp.elim
    · cases hx
  · rename_i t x l ho
    split at hx
    · rename_i el _ _ _ _ h1
      have hd := und_slice (hC.types _ _ h1).desc
      split at hx
      · rename_i te h2
        have ht := hC.types _ _ h2
        split at hx
        · rename_i s k len sz get hts
          simp only [Option.some.injEq] at hx
          subst hx
          split at hp
          · rename_i k' n hle
            have e1 := ix _ hle
            cases hsz : Nat.beq sz te.size with
            | false => rw [hsz] at hp; exact hp.elim
            | true =>
            obtain rfl := Nat.eq_of_beq_eq_true hsz
            rw [hsz] at hp
            simp only [cond_true, Option.getD_some] at hp ⊢
            obtain ⟨g1, g2, g0, g3⟩ := hp
            obtain ⟨ad, cap, g, e, hr, gh, gL, gx⟩ := (tslOf_sound hts g0 (hS.ev x)).tsl_inv
            have hcap : len ≤ cap := by cases hr with | slice _ _ _ _ b o' sz c hc ha hn hl q1 q2 => exact hc
            have hrun : (execOp a.eval o).run P w = .ok (.value (.slice (if cap = n.toNat then ad else ad.map (·.add (n.toNat * te.size))) (len - n.toNat) (cap - n.toNat))) w := by
              simp [execOp, ho, e, e1, Instr.sliceAt, Instr.slice, Instr.sliceBounds, Instr.sliceBound, asIntOf, run_und w hd, g1, g2, ht.run_size]
            refine ValOk.op hS ⟨rfl, _, hrun, .tsl s (k + n.toNat) (len - n.toNat) te.size _ _ _ ?_ g gh (by omega) fun hl => ?_⟩
            · cases hr with
              | slice _ _ _ _ b o' sz c hc ha hn hl q1 q2 =>
              have hs : te.size = sz := by rw [← g3 0 g0]; exact hl 0 g0
              subst hs
              refine .slice _ _ _ _ b (o' + n.toNat * te.size) te.size (fun i => c (i + n.toNat)) (by omega) ?_ ?_ (fun i hi => hl _ (by omega)) ?_ (fun i hi j hj => q2 _ (by omega) j hj)
              · intro hlt
                rw [if_neg (by omega), ha (by omega)]
                simp [add_none]
              · intro hnn
                rw [ha g0] at hnn
                split at hnn <;> simp at hnn
              · intro i hi j hj
                have := q1 (i + n.toNat) (by omega) j hj
                rw [Nat.add_mul] at this
                have e2 : o' + n.toNat * te.size + i * te.size + j = o' + (i * te.size + n.toNat * te.size) + j := by omega
                rw [e2]; exact this
            · obtain ⟨q1, q2, b, ad', q3, q4, q5⟩ := gx (by omega)
              refine ⟨by omega, by omega, b, if cap = n.toNat then ad' else ad'.add (n.toNat * te.size), q3, ?_, fun hc => ?_⟩
              · rw [q4]; split <;> rfl
              · rw [if_neg (by omega), q5 (by omega), add_none]
                have : k + n.toNat - g.ln = (k - g.ln) + n.toNat := by omega
                rw [this, Nat.add_mul]
          · exact hp.elim
        · cases hx
      · cases hx
    · cases hx
  · rename_i args ts ho
    split at hx
    · rename_i s k len sz get tg n get' t t' hargs hts
      simp only [Option.some.injEq] at hx
      subst hx
      obtain ⟨p, q, hpq, hpe, hqe, hp1, hq1⟩ := two_args hS hargs
      cases htt : Nat.beq t t' with
      | false => rw [htt] at hp; exact hp.elim
      | true =>
      obtain rfl := Nat.eq_of_beq_eq_true htt
      rw [htt] at hp
      simp only [cond_true] at hp ⊢
      obtain ⟨ax, cx, ex, hxr⟩ := hq1.slice_inv
      rw [ex] at hxr
      have hcall : ∀ {bv v' w'}, a.eval p = bv → (Builtin.append_ #[t, t] o.type #[bv, .slice ax n cx]).run P w = .ok v' w' → (execOp a.eval o).run P w = .ok (.value v') w' := by
        intro bv v' w' e h
        have e1 : args.map a.eval = #[bv, .slice ax n cx] := by
          apply Array.ext'
          simp [hpq, e, ex]
        have e2 : ts = #[t, t] := by apply Array.ext'; simp [hts]
        simp [execOp, ho, resolve, invoke, builtin, e1, e2, h]
      split at hp
      · rename_i el _ _ _ _ h1
        have hd := und_slice (hC.types _ _ h1).desc
        cases hl : look C.types el with
        | none => rw [hl] at hp; exact hp.elim
        | some te =>
        have ht := hC.types _ _ hl
        simp only [hl] at hp ⊢
        cases hsz : Nat.ble 1 te.size with
        | false => rw [hsz] at hp; exact hp.elim
        | true =>
        have hpos := Nat.le_of_ble_eq_true hsz
        rw [hsz] at hp
        simp only [cond_true] at hp ⊢
        cases hbd : st.blocks s with
        | grow L el' sz' =>
          simp only [hbd] at hp ⊢
          cases hel : (Nat.beq el el' && (Nat.beq sz' te.size && Nat.beq sz te.size)) with
          | false => rw [hel] at hp; exact hp.elim
          | true =>
          rw [hel] at hp
          simp only [cond_true, Option.getD_some] at hp ⊢
          simp only [Bool.and_eq_true] at hel
          obtain rfl := Nat.eq_of_beq_eq_true hel.1
          obtain rfl := Nat.eq_of_beq_eq_true hel.2.1
          obtain rfl := Nat.eq_of_beq_eq_true hel.2.2
          obtain ⟨p0, pn, p1, p2, p4, p3⟩ := hp
          have hb := hS.blk s
          rw [hbd] at hb
          obtain ⟨b1, g, b2, b3, b4, b5, b6, b7⟩ := hb
          obtain ⟨av, cv, g', ev', hvr, gh, gL, gx⟩ := hp1.tsl_inv
          rw [b2] at gh
          cases gh
          obtain ⟨q1, q2, b, ad, q3, q4, q5⟩ := gx (by omega)
          subst q4
          obtain ⟨z1, z2, arr, z3, z4, z5, z6⟩ := b6 b q3
          rw [b4] at z4 z2
          obtain ⟨c, c1, c2, c3, c4⟩ := view_news hpos hxr p3
          cases ax with
          | none => have := (c2 rfl).1; omega
          | some ax =>
          have hnews := c3 ax rfl
          cases hvr with
          | slice _ _ _ _ vb vo vsz vc hvc hva hvn hvl vq1 vq2 =>
          have hvs : ∀ i, i < len → vsz = te.size := fun i hi => by rw [← hvl i hi, p4 i hi]
          generalize hqq : k - g.ln = q0 at *
          by_cases hroom : len + n ≤ cv
          · obtain rfl := q5 (by omega)
            obtain ⟨w', r1, r2⟩ := appendQ_room (P := P) (w := w) (ty := o.type) (cx := cx) (len := len) (cap := cv) (q := q0) hd ht z3 (by rw [z4, ← q2, Nat.add_comm]) (by omega) _ (by simp) hnews c4 hroom
            have hle2 : (q0 + len) * te.size ≤ arr.size := by rw [z4]; exact Nat.mul_le_mul_right _ (by omega)
            have hxs : ∀ b', g.bo = some b' → some b = some b' → ∀ o, o < (q0 + len) * te.size → w.cell? ⟨b', o, none⟩ = some ((arr.toList.take ((q0 + len) * te.size) ++ (List.range (n * te.size)).map fun q => c (q / te.size) (q % te.size)).getD o undef) := by
              intro b' _ hb' o ho
              cases hb'
              rw [getD_app_l _ _ (by simp; omega)]
              simp [World.cell?, z3, List.getD, ho, show o < arr.size by omega]
            rw [← q3] at r2
            obtain ⟨E', k1, k2, k3, k4, k5⟩ := SR.grew hS g.ln g.ln (el := el) (by rw [q3] at r2 ⊢; exact r2) hpos (fun _ _ _ => by omega) (by omega) (fun h => by rw [q3] at h; cases h) b1 (.inr ⟨g, b2, by omega, rfl, by omega, fun _ => b4, b7.1, rfl, fun hl => ⟨rfl, by omega, rfl⟩⟩) (by rw [q3] at hxs ⊢; exact hxs) (fun j h => by rw [hbd] at h; cases h)
            have eL : q0 + len + n + g.ln = L + n := by omega
            rw [eL] at k2 k5
            intro next Q hnx
            simp only [Oper.wp, hcall ev' r1, Oper.upon]
            refine hnx E' w' _ k5 (.tsl s k (len + n) te.size _ _ cv ?_ _ k2 (by simp only; omega) fun _ => ⟨q1, by simp only; omega, b, _, q3, rfl, fun _ => by simp only; rw [hqq]⟩)
            refine .slice (len + n) _ _ cv b (q0 * te.size) te.size (fun i j => if i < len then vc i j else c (i - len) j) hroom (fun _ => rfl) (fun h => nomatch h) (fun i hi => ?_) (fun i hi j hj => ?_) (fun i hi j hj => ?_)
            · by_cases hiL : i < len
              · simp only [blt_t hiL, cond_true]; exact p4 i hiL
              · simp only [blt_f hiL, cond_false]; exact (p3 (i - len) (by omega)).1
            · by_cases hiL : i < len
              · simp only [if_pos hiL]
                have hv := hva (by omega)
                simp only [Option.some.injEq, Addr.mk.injEq] at hv
                obtain ⟨rfl, rfl, _⟩ := hv
                have := hvs i hiL
                subst this
                obtain ⟨y1, y2⟩ := vq1 i hiL j hj
                exact ⟨k1.σ _ _ y1, (k4 _ _ y1).trans y2⟩
              · simp only [if_neg hiL]
                have hlt : (q0 + i) * te.size + te.size ≤ (q0 + len + n) * te.size := by rw [← Nat.succ_mul]; exact Nat.mul_le_mul_right _ (by omega)
                have e0 : q0 * te.size + i * te.size + j = (q0 + i) * te.size + j := by rw [Nat.add_mul]
                rw [e0]
                obtain ⟨y1, y2⟩ := k3 b q3 ((q0 + i) * te.size + j) (by omega)
                refine ⟨y1, y2.trans ?_⟩
                have hll : (arr.toList.take ((q0 + len) * te.size)).length = (q0 + len) * te.size := by simp; omega
                have hge : (q0 + len) * te.size ≤ (q0 + i) * te.size := Nat.mul_le_mul_right _ (by omega)
                rw [getD_app_r _ _ (by omega), hll]
                have e1 : (q0 + i) * te.size + j - (q0 + len) * te.size = (i - len) * te.size + j := by
                  have : (q0 + i) * te.size = (q0 + len) * te.size + (i - len) * te.size := by rw [← Nat.add_mul]; congr 1; omega
                  omega
                rw [e1, range_getD hpos (by omega) hj]
            · by_cases hiL : i < len
              · simp only [blt_t hiL, cond_true, if_pos hiL]
                have := hvs i hiL
                subst this
                exact (vq2 i hiL j hj).mono k1.σ k4
              · simp only [blt_f hiL, cond_false, if_neg hiL]
                exact (c1 (i - len) (by omega) j hj).mono k1.σ k4
          · have hold0 : ((List.range (len * te.size)).map fun q => vc (q / te.size) (q % te.size)).length = len * te.size := by simp
            obtain ⟨w', cp, r1, r2⟩ := appendQ_grow (P := P) (w := w) (ty := o.type) (cx := cx) (len := len) (cap := cv) (ad := ad) hd ht ((List.range (len * te.size)).map fun q => vc (q / te.size) (q % te.size)) _ hold0 (fun j u hu => by
              simp only [List.getElem?_map, Option.map_eq_some_iff] at hu
              obtain ⟨q, hq, rfl⟩ := hu
              obtain ⟨hlt, rfl⟩ := List.getElem?_eq_some_iff.1 hq
              simp at hlt
              simp only [List.getElem_range]
              have hi : j / te.size < len := by rw [Nat.div_lt_iff_lt_mul hpos]; exact hlt
              have hv := hva (Nat.lt_of_le_of_lt (Nat.zero_le _) hi)
              simp only [Option.some.injEq] at hv
              subst hv
              have := hvs _ hi
              subst this
              have := (vq1 _ hi (j % te.size) (Nat.mod_lt _ hpos)).2
              have e : vo + j / te.size * te.size + j % te.size = vo + j := by rw [Nat.add_assoc, Nat.mul_comm, Nat.div_add_mod]
              rw [e] at this
              rw [add_none]; exact this) (by simp) hnews (by omega) p1 p2
            have hbs := (Array.getElem?_eq_some_iff.1 z3).1
            obtain ⟨E', k1, k2, k3, k4, k5⟩ := SR.grew hS g.ln k (el := el) (r2 g.bo g.cp (q0 + len)) hpos (fun b' h1 h2 => by rw [q3] at h1; cases h1; cases h2; omega) (by omega) (fun h => by cases h) b1 (.inr ⟨g, b2, by omega, rfl, rfl, fun _ => b4, b7.1, rfl, fun hl => by omega⟩) (fun b' h1 h2 => by rw [q3] at h1; cases h1; cases h2; omega) (fun j h => by rw [hbd] at h; cases h)
            have eL : len + n + k = L + n := by omega
            rw [eL] at k2 k5
            intro next Q hnx
            simp only [Oper.wp, hcall ev' r1, Oper.upon]
            refine hnx E' w' _ k5 (.tsl s k (len + n) te.size _ _ cp ?_ _ k2 (by simp only; omega) fun _ => ⟨by simp only; omega, by simp only; omega, _, _, rfl, rfl, fun _ => by simp only [Nat.sub_self, Nat.zero_mul]⟩)
            obtain ⟨_, _, _, _, hle, _, _⟩ := (r2 none 0 0).blk _ rfl
            refine .slice (len + n) _ _ cp w.heap.size 0 te.size (fun i j => if i < len then vc i j else c (i - len) j) hle (fun _ => rfl) (fun h => nomatch h) (fun i hi => ?_) (fun i hi j hj => ?_) (fun i hi j hj => ?_)
            · by_cases hiL : i < len
              · simp only [blt_t hiL, cond_true]; exact p4 i hiL
              · simp only [blt_f hiL, cond_false]; exact (p3 (i - len) (by omega)).1
            · have hlt : i * te.size + te.size ≤ (len + n) * te.size := by rw [← Nat.succ_mul]; exact Nat.mul_le_mul_right _ hi
              obtain ⟨y1, y2⟩ := k3 _ rfl (i * te.size + j) (by omega)
              rw [Nat.zero_add]
              refine ⟨y1, y2.trans ?_⟩
              congr 1
              by_cases hiL : i < len
              · simp only [if_pos hiL]
                have hlt2 : i * te.size + te.size ≤ len * te.size := by rw [← Nat.succ_mul]; exact Nat.mul_le_mul_right _ hiL
                rw [getD_app_l _ _ (by rw [hold0]; omega), range_getD hpos hiL hj]
              · simp only [if_neg hiL]
                have hge : len * te.size ≤ i * te.size := Nat.mul_le_mul_right _ (by omega)
                rw [getD_app_r _ _ (by rw [hold0]; omega), hold0]
                have e1 : i * te.size + j - len * te.size = (i - len) * te.size + j := by rw [Nat.sub_mul]; omega
                rw [e1, range_getD hpos (by omega) hj]
            · by_cases hiL : i < len
              · simp only [blt_t hiL, cond_true, if_pos hiL]
                have := hvs i hiL
                subst this
                exact (vq2 i hiL j hj).mono k1.σ k4
              · simp only [blt_f hiL, cond_false, if_neg hiL]
                exact (c1 (i - len) (by omega) j hj).mono k1.σ k4
        | _ => rw [hbd] at hp; exact hp.elim
      · exact hp.elim
    · cases hx
  · cases hx

theorem evalX_sound (hC : CtxOk P C) (hS : SR E base w0 st a w) {o : Oper} {r : R} (hx : evalX C st o = some r) (hp : r.pre.getD True) : OpOk P base w0 st a w o r := by
  unfold evalX at hx
  cases hq : evalQ C st o with
  | some r' => rw [hq] at hx; cases hx; exact evalQ_sound hC hS hq hp
  | none => rw [hq] at hx; exact evalX0_sound hC hS hx hp


theorem nilC_sound (hC : CtxOk P C) (hS : SR E base w0 st a w) {o : Oper} {len : Nat} (hx : nilC C st o = some len) : ∃ b : Bool, (0 < len → b = false) ∧ OpOk P base w0 st a w o (.ok (.bool b)) := by
  unfold nilC at hx
  split at hx
  · rename_i t x y u ho
    cases hy : nilConst y with
    | false => rw [hy] at hx; cases hx
    | true =>
    rw [hy] at hx
    simp only [cond_true] at hx
    split at hx
    · rename_i el _ _ _ _ tg n get h1 h2
      cases hx
      have hd := und_slice (hC.types _ _ h1).desc
      have hx0 := hS.ev x
      rw [h2] at hx0
      obtain ⟨ad, cap, e, hr⟩ := hx0.slice_inv
      have hyv : a.eval y = .slice none 0 0 := by
        unfold nilConst at hy
        split at hy
        · rfl
        · cases hy
      refine ⟨ad.isNone, fun h => ?_, fun next Q hn => ?_⟩
      · rw [e] at hr
        cases hr with
        | slice _ _ _ _ b o' sz c hc ha hnn hl q1 q2 => rw [ha h]; rfl
      · have hrun : (execOp a.eval o).run P w = .ok (.value (.bool ad.isNone)) w := by
          have : (binOp .eql t (.slice ad len cap) (.slice none 0 0)).run P w = .ok (.bool ad.isNone) w := by
            have h5 : ∀ d, (Op.equalIn (d + 1) t (.slice ad len cap) (.slice none 0 0)).run P w = .ok ad.isNone w := by
              intro d
              cases ad <;> simp [Op.equalIn, run_underlying hd]
            have h5 : (Op.equalIn 10000 t (.slice ad len cap) (.slice none 0 0)).run P w = .ok ad.isNone w := h5 9999
            simp [binOp, Op.equal, Op.maxDepth, h5]
          simp [execOp, ho, e, hyv, eqGuard, this]
        simp only [Oper.wp, hrun, Oper.upon]
        exact hn E w _ hS (.pure (.bool _))
    · cases hx
  · cases hx

theorem runR_sound (_hS : SR E base w0 st a w) (hN : a.tmps.size = N) {o : Oper} (hok : okOper N o = true) {r' : R} (hr : r'.pre.getD True → (∀ c, o.op ≠ .defer c) ∧ OpOk P base w0 st a w o r') {k : St → Prop} (h : runR st o r' k) {next : Act → World → Prop} {Q : Exit → Act → World → Prop}
    (hn : ∀ E' st' a' w', k st' → SR E' base w0 st' a' w' → a'.tmps.size = N → next a' w') : o.wpIn (Fc r) 0 P a w next Q := by
  have hd : ∀ d, o.dst = some d → d < a.tmps.size := by rw [hN]; exact okOper_dst hok
  rw [runR_eq] at h
  unfold run1r at h
  have key : r'.pre.getD True → k ((st.setB r'.upd).put o.dst r'.val) → o.wpIn (Fc r) 0 P a w next Q := by
    intro hp hk
    refine in_of_wp (hr hp).1 ((hr hp).2 next _ fun E' w' v hS' hv => ?_)
    exact hn E' _ _ w' hk (hS'.put hd hv) (by rw [put_size, hN])
  split at h
  · rename_i hp
    exact key (by rw [hp]; trivial) h
  · rename_i p hp
    exact key (by rw [hp]; exact h.1) h.2
theorem run0_sound (hC : CtxOk P C) (hS : SR E base w0 st a w) (hN : a.tmps.size = N) {o : Oper} (hok : okOper N o = true) {k : St → Prop} (h : run0 C st o k) {next : Act → World → Prop} {Q : Exit → Act → World → Prop}
    (hn : ∀ E' st' a' w', k st' → SR E' base w0 st' a' w' → a'.tmps.size = N → next a' w') : o.wpIn (Fc r) 0 P a w next Q :=
  runR_sound (r' := evalOp C (V.ev st.slots) st.blocks (o.dst.getD 0 + C.off) o.type o.op) hS hN hok (fun hp => ⟨fun c hc => by rw [hc] at hp; simp [evalOp, R.bad] at hp, op_sound hC hS (okOper_store hok) hp⟩) (by rw [runR_eq]; rw [run0_eq] at h; exact h) hn

theorem frcL2_iff {l : List PV} {k : List PV → Prop} : frcL frc2 l k = k l := frcL_eq frc2_eq l k

theorem run1_sound (hC : CtxOk P C) (hoff : w0.off = C.off) (hY : ∀ y, C.yld = some y → SoundY P base w0 y) (hS : SR E base w0 st a w) (hN : a.tmps.size = N) {o : Oper} (hok : okOper N o = true) {k : St → Prop} (h : run1 C st o k) {next : Act → World → Prop} {Q : Exit → Act → World → Prop}
    (hn : ∀ E' st' a' w', k st' → SR E' base w0 st' a' w' → a'.tmps.size = N → next a' w') : o.wpIn (Fc r) 0 P a w next Q := by
  obtain ⟨Ds, hDs, hDn, hDb⟩ := hS.dfr.dfr
  unfold run1 at h
  cases hyo : yldOf C st o with
  | some x =>
    obtain ⟨l, y, as⟩ := x
    rw [hyo] at h
    simp only [frcL2_iff, frc3_eq] at h
    obtain ⟨hrd, rfl, hle, h⟩ := h
    have hrd : st.blocks y.s = .jmp .ready := by
      split at hrd
      · assumption
      · exact hrd.elim
    have hle' := Nat.le_of_ble_eq_true hle
    unfold yldOf at hyo
    split at hyo
    · rename_i y' hy'
      split at hyo
      · rename_i f args ts ho
        split at hyo
        · rename_i l' hf
          simp only [Option.some.injEq, Prod.mk.injEq] at hyo
          obtain ⟨rfl, rfl, rfl⟩ := hyo
          have hfr := hS.ev f
          rw [hf] at hfr
          have hv := hfr.yld_inv
          have hS0 := hS.callO (off := y'.o2) (hle := by omega) (ex := none) (hex := by intro _ h; cases h) hS.blk (fun _ _ h => h) (by intro _ h; cases h)
          obtain ⟨fn, tmps, assign, body, hrun, hround⟩ := hY y' hy' _ (callO_le (by intro _ h; cases h)) rfl _ _ _ h hrd E w (args.map a.eval) hS0 (by simp) fun i hi => by
            simp at hi
            have := hS.ev args[i]
            simpa [List.getD, Array.getD, hi] using this
          refine ⟨fun _ _ => trivial, ?_⟩
          rw [Oper.semAt_eq _ _ _ fun c hc => by rw [ho] at hc; cases hc]
          have hx : (execOp a.eval o).run P w = .ok (.round y'.l fn tmps assign body) w := by
            simp [execOp, ho, resolve, hv, Deferred.ofValue, invoke, hrun]
          rw [hx]
          refine ⟨(fun h => by cases h), RoundIn.mono (show RoundIn (Fc r) (0 - 1) P y'.l fn tmps assign body w _ from hround) ?_⟩
          rintro e'' w' ⟨v, p, bl', E', rfl, hk, hS', hv'⟩
          exact hn E' _ _ w' hk ((SR.backO hDs hDn (fun D hD => ⟨(hDb D hD).1, (hDb D hD).2.2⟩) (by intro _ h; cases h) hS').put (by rw [hN]; exact okOper_dst hok) hv') (by rw [put_size, hN])
        · cases hyo
      · cases hyo
    · cases hyo
  | none =>
  rw [hyo] at h
  simp only at h
  cases hef : effOf C st o with
  | none =>
    rw [hef] at h
    simp only at h
    cases hex : evalX C st o with
    | some r' =>
      rw [hex] at h
      simp only at h
      refine runR_sound hS hN hok (fun hp => ⟨fun c hc => ?_, evalX_sound hC hS hex hp⟩) h hn
      simp only [evalX, evalQ, evalX0, hc] at hex
      cases hex
    | none =>
      rw [hex] at h
      simp only at h
      cases hnc : nilC C st o with
      | some len =>
        rw [hnc] at h
        simp only at h
        obtain ⟨b, h1, h2⟩ := nilC_sound hC hS hnc
        refine in_of_wp (fun c hc => ?_) (h2 next _ fun E' w' v hS' hv => hn E' _ _ w' (h b h1) (hS'.put (by rw [hN]; exact okOper_dst hok) hv) (by rw [put_size, hN]))
        unfold nilC at hnc
        rw [hc] at hnc
        cases hnc
      | none => rw [hnc] at h; exact run0_sound hC hS hN hok h hn
  | some x =>
    obtain ⟨⟨off, e⟩, as⟩ := x
    rw [hef] at h
    simp only [frcL2_iff, frc3_eq] at h
    obtain ⟨hle, h⟩ := h
    have hle' := Nat.le_of_ble_eq_true hle
    unfold effOf at hef
    split at hef
    · rename_i f args ts ho
      split at hef
      · rename_i g xs ys hf
        split at hef
        · rename_i e' he
          simp only [Option.some.injEq, Prod.mk.injEq] at hef
          obtain ⟨rfl, rfl⟩ := hef
          obtain ⟨hsnd, fn, fc, hfn, hnm, hbd⟩ := hC.effs g off e he
          have hnm' : fn.name ≠ "runtime.NumGoroutine" := by simpa using hnm
          have hfr := hS.ev f
          rw [hf] at hfr
          obtain ⟨va, vb, ev', ha, hb, h1, h2⟩ := hfr.fn_inv
          have hrow : RowR E w (xs ++ (args.toList.map (V.ev st.slots) ++ ys)) (va ++ (args.map a.eval ++ vb)) := by
            refine RowR.append ⟨ha, h1⟩ (RowR.append ⟨by simp, fun i hi => ?_⟩ ⟨hb, h2⟩)
            simp at hi
            have := hS.ev args[i]
            simpa [List.getD, Array.getD, hi] using this
          have hS0 := hS.callO (off := off) (hle := by omega) (ex := none) (hex := by intro _ h; cases h) hS.blk (fun _ _ h => h) (by intro _ h; cases h)
          have hc := hsnd _ _ _ h E base _ w (va ++ (args.map a.eval ++ vb)) rfl hS0 hrow.1 hrow.2
          have hrun : (execOp a.eval o).run P w = .ok (.enter g (va ++ (args.map a.eval ++ vb))) w := by
            simp [execOp, ho, resolve, ev', Deferred.ofValue, invoke, callFunc, hfn, hnm', hbd, Array.append_assoc]
          refine in_of_wp (fun c hc => by rw [ho] at hc; cases hc) ?_
          simp only [Oper.wp, hrun, Oper.upon]
          refine hc.mono ?_
          rintro e'' w' ⟨v, p, bl', E', rfl, hk, hS', hv⟩
          exact hn E' _ _ w' hk ((SR.backO hDs hDn (fun D hD => ⟨(hDb D hD).1, (hDb D hD).2.2⟩) (by intro _ h; cases h) hS').put (by rw [hN]; exact okOper_dst hok) hv) (by rw [put_size, hN])
        · cases hef
      · cases hef
    · cases hef

theorem getD_some {t : Array Value} {g : Nat} {v : Value} (h : t.getD g undef = v) (hv : v ≠ undef) : t[g]? = some v := by
  by_cases hg : g < t.size
  · simp [Array.getD, hg] at h
    simp [hg, h]
  · simp [Array.getD, hg] at h
    exact (hv h.symm).elim
theorem yielded_bool {ops : Array Oper} {t : Array Value} {j g : Nat} {b : Bool} (hg : (ops[j]?).bind Oper.dst = some g) (h : t.getD g undef = .bool b) : yielded ops t j = some b := by
  have := getD_some h (by simp [undef])
  simp [yielded, hg, this]
theorem yielded_und {ops : Array Oper} {t : Array Value} {j g : Nat} (hg : (ops[j]?).bind Oper.dst = some g) (h : t.getD g undef = undef) : yielded ops t j = none := by
  simp only [yielded, hg, Option.bind_some]
  cases hx : t[g]? with
  | none => rfl
  | some v =>
    obtain ⟨hlt, hv⟩ := Array.getElem?_eq_some_iff.1 hx
    simp [Array.getD, hlt] at h
    rw [hv] at h
    subst h
    rfl

theorem evalOps_sound (hC : CtxOk P C) (hoff : w0.off = C.off) (hY : ∀ y, C.yld = some y → SoundY P base w0 y) {ops : Array Oper} {Q : Exit → Act → World → Prop} : ∀ (l : List Oper) (st : St) (E : Env) (a : Act) (w : World) (K : St → Prop), SR E base w0 st a w → a.tmps.size = N → l.all (okOper N) = true →
    evalOps C ops.toList l st K → (∀ E' st' a' w', K st' → SR E' base w0 st' a' w' → a'.tmps.size = N → Q .normal a' w') → wpListIn (Fc r) 0 P ops Q l a w
  | [], st, E, a, w, K, hS, hN, _, h, hn => hn E st a w h hS hN
  | o :: rest, st, E, a, w, K, hS, hN, hok, h, hn => by
    simp only [List.all_cons, Bool.and_eq_true] at hok
    have hops : ∀ j : Nat, ops.toList[j]? = ops[j]? := by simp
    have go : ∀ {st'}, SR E base w0 st' a w → run1 C st' o (fun st => evalOps C ops.toList rest st K) → Region.wanted o (yielded ops a.tmps) = true → wpListIn (Fc r) 0 P ops Q (o :: rest) a w := by
      intro st' hS' hr hw
      unfold wpListIn
      rw [if_pos hw]
      exact (run1_sound hC hoff hY hS' hN hok.1 hr fun E' st' a' w' hk hS' hN' => evalOps_sound hC hoff hY rest st' E' a' w' K hS' hN' hok.2 hk hn)
    have skip : ∀ {st'}, SR E base w0 st' a w → evalOps C ops.toList rest (st'.put o.dst .und) K → Region.wanted o (yielded ops a.tmps) = false → wpListIn (Fc r) 0 P ops Q (o :: rest) a w := by
      intro st' hS' hr hw
      unfold wpListIn
      rw [if_neg (by rw [hw]; simp)]
      exact ⟨fun _ _ => trivial, evalOps_sound hC hoff hY rest _ E _ w K (hS'.put (by rw [hN]; exact okOper_dst hok.1) (.pure .und)) (by rw [put_size, hN]) hok.2 hr hn⟩
    simp only [evalOps, stepO] at h
    cases hg : o.guard with
    | none =>
      rw [hg] at h
      exact go hS h (by simp [Region.wanted, hg])
    | some jw =>
      obtain ⟨j, want⟩ := jw
      rw [hg] at h
      simp only [hops] at h
      cases hgd : (ops[j]?).bind Oper.dst with
      | none => rw [hgd] at h; exact h.elim
      | some g =>
        simp only [hgd] at h
        have hsl := hS.slots g
        have hwant : ∀ b, yielded ops a.tmps j = b → Region.wanted o (yielded ops a.tmps) = (b == some want) := by intro b hb; simp [Region.wanted, hg, hb]
        cases hs : st.slots g with
        | tt =>
          rw [hs] at hsl h
          have hy := hwant _ (yielded_bool hgd hsl.tt_inv)
          cases want with
          | true => exact go hS h (by rw [hy]; rfl)
          | false => exact skip hS h (by rw [hy]; rfl)
        | ff =>
          rw [hs] at hsl h
          have hy := hwant _ (yielded_bool hgd hsl.ff_inv)
          cases want with
          | true => exact skip hS h (by rw [hy]; rfl)
          | false => exact go hS h (by rw [hy]; rfl)
        | und =>
          rw [hs] at hsl h
          have hy := hwant _ (yielded_und hgd hsl.und_inv)
          exact skip hS h (by rw [hy]; rfl)
        | bool b =>
          rw [hs] at hsl h
          have hv := hsl.bool_inv
          have hy := hwant _ (yielded_bool hgd hv)
          by_cases hb : b = want
          · subst hb
            refine go (hS.set (g := g) ?_) (h.1 rfl) (by rw [hy]; simp)
            rw [hv]
            cases b
            · exact .pure .ff
            · exact .pure .tt
          · have hb' : b = !want := by cases b <;> cases want <;> simp_all
            refine skip (hS.set (g := g) ?_) (h.2 hb') (by rw [hy, hb']; cases want <;> rfl)
            rw [hv, hb']
            cases want
            · exact .pure .tt
            · exact .pure .ff
        | _ => rw [hs] at h; exact h.elim

end
end Go.V

/- Part 6: regions whose order is open: what no edge orders may change places. -/
namespace Go.V
open Go.RowKit (Below)

section
variable {C : Ctx}

theorem map_congr_ev {e e' : Operand → PV} : ∀ {l : List Operand}, (∀ x ∈ l, e x = e' x) → l.map e = l.map e'
  | [], _ => rfl
  | x :: l, h => by rw [List.map_cons, List.map_cons, h x (List.mem_cons_self ..), map_congr_ev fun y hy => h y (List.mem_cons_of_mem _ hy)]
theorem fillParts_congr {place : Nat → Option (Nat × Nat)} {e e' : Operand → PV} : ∀ (ps : List (Nat × Operand)) (l : List PV), (∀ p ∈ ps, e p.2 = e' p.2) → fillParts place e ps l = fillParts place e' ps l
  | [], _, _ => rfl
  | (i, x) :: ps, l, h => by
    have hx : e x = e' x := h (i, x) (List.mem_cons_self ..)
    have ih := fun l => fillParts_congr (place := place) (e := e) (e' := e') ps l fun p hp => h p (List.mem_cons_of_mem _ hp)
    simp only [fillParts, hx, ih]

theorem touch_congr {e e' : Operand → PV} {d : Nat} {op : Op} (h : ∀ x ∈ op.operands.toList, e x = e' x) : touch e d op = touch e' d op := by
  cases op with
  | load t x => simp only [touch, h x (by simp [Op.operands])]
  | store t x y => simp only [touch, h x (by simp [Op.operands])]
  | indexAddr t x i => simp only [touch, h x (by simp [Op.operands])]
  | call c =>
    obtain ⟨cal, args, ts⟩ := c
    cases cal with
    | builtin b =>
      cases b <;> try rfl
      simp only [touch]
      cases ha : args[0]? with
      | none => rfl
      | some x =>
        have : x ∈ args.toList := by
          obtain ⟨hlt, rfl⟩ := Array.getElem?_eq_some_iff.1 ha
          simp
        simp only [Option.map_some, h x (by simpa [Op.operands, Call.operands] using this)]
    | _ => rfl
  | _ => rfl

theorem evalOp_congr {e e' : Operand → PV} {bl bl' : Nat → Blk} {d ty : Nat} {op : Op} (h : ∀ x ∈ op.operands.toList, e x = e' x) (hb : ∀ s, touch e d op = some s → bl s = bl' s) :
    evalOp C e bl d ty op = evalOp C e' bl' d ty op := by
  cases op with
  | move x => simp only [evalOp, h x (by simp [Op.operands])]
  | assign x =>
    have := h x (by simp [Op.operands])
    cases hx : nilConst x with
    | true => simp only [evalOp, hx, cond_true, hb d (by simp [touch, hx])]
    | false => simp only [evalOp, hx, cond_false, this]
  | pick c x y => simp only [evalOp, h c (by simp [Op.operands]), h x (by simp [Op.operands]), h y (by simp [Op.operands])]
  | alloc t => simp only [evalOp, hb d rfl]
  | box t x => simp only [evalOp, hb d rfl, h x (by simp [Op.operands])]
  | build t ps =>
    have hp : ∀ p ∈ ps.toList, e p.2 = e' p.2 := fun p hp => h p.2 (by simpa [Op.operands] using ⟨p.1, by simpa using hp⟩)
    have hf := fun place l => fillParts_congr (place := place) (e := e) (e' := e') ps.toList l hp
    simp only [evalOp, hf]
  | buildSlice t n ps =>
    have hp : ∀ p ∈ ps.toList, e p.2 = e' p.2 := fun p hp => h p.2 (by simpa [Op.operands] using ⟨p.1, by simpa using hp⟩)
    have hf := fun place l => fillParts_congr (place := place) (e := e) (e' := e') ps.toList l hp
    simp only [evalOp, hf, hb d rfl]
  | load t x =>
    have hx := h x (by simp [Op.operands])
    simp only [touch] at hb
    simp only [evalOp, ← hx]
    cases hv : e x with
    | ptr s off => simp only [hb s (by simp [hv])]
    | eptr s i off => simp only [hb s (by simp [hv])]
    | _ => rfl
  | store t x y =>
    have hx := h x (by simp [Op.operands])
    have hy := h y (by simp [Op.operands])
    simp only [touch] at hb
    simp only [evalOp, ← hx, ← hy]
    cases hv : e x with
    | ptr s off => simp only [hb s (by simp [hv])]
    | eptr s i off => simp only [hb s (by simp [hv])]
    | _ => rfl
  | nilCheck x => simp only [evalOp, h x (by simp [Op.operands])]
  | binOp op t x y u => simp only [evalOp, h x (by simp [Op.operands]), h y (by simp [Op.operands])]
  | unOp u t x => cases u <;> simp only [evalOp, h x (by simp [Op.operands])]
  | makeFunc f xs ys =>
    simp only [evalOp, map_congr_ev (l := xs.toList) (fun x hx => h x (by simp [Op.operands]; exact .inl (by simpa using hx))), map_congr_ev (l := ys.toList) (fun x hx => h x (by simp [Op.operands]; exact .inr (by simpa using hx)))]
  | makeSlice t x y => simp only [evalOp, h x (by simp [Op.operands]), h y (by simp [Op.operands]), hb d rfl]
  | slice t x lo hi mx =>
    cases mx with
    | some m => rfl
    | none =>
      have hlo : lo.map e = lo.map e' := by
        cases lo with
        | none => rfl
        | some l => simp only [Option.map_some, h l (by simp [Op.operands])]
      have hhi : hi.map e = hi.map e' := by
        cases hi with
        | none => rfl
        | some l => simp only [Option.map_some, h l (by cases lo <;> simp [Op.operands])]
      simp only [evalOp, h x (by simp [Op.operands]), hlo, hhi]
  | fieldAddr t x i => simp only [evalOp, h x (by simp [Op.operands])]
  | field t x i => simp only [evalOp, h x (by simp [Op.operands])]
  | indexAddr t x i =>
    have hx := h x (by simp [Op.operands])
    have hi := h i (by simp [Op.operands])
    simp only [touch] at hb
    simp only [evalOp, ← hx, ← hi]
    split
    · split
      · rfl
      · rename_i s len _ h2
        rw [hb s (by rw [h2])]
      · rfl
    · split <;> rfl
    · rfl
  | index t x i => simp only [evalOp, h x (by simp [Op.operands]), h i (by simp [Op.operands])]
  | convert u t x => simp only [evalOp, h x (by simp [Op.operands])]
  | extract x i => simp only [evalOp, h x (by simp [Op.operands])]
  | call c =>
    obtain ⟨cal, args, ts⟩ := c
    cases cal with
    | value f =>
      have hf := h f (by simp [Op.operands, Call.operands])
      have ha : args.toList.map e = args.toList.map e' := map_congr_ev fun x hx => h x (by simp [Op.operands, Call.operands]; exact .inr (by simpa using hx))
      simp only [evalOp, hf, ha]
    | invoke r m => rfl
    | builtin b =>
      have ha : args.toList.map e = args.toList.map e' := map_congr_ev fun x hx => h x (by simpa [Op.operands, Call.operands] using hx)
      cases b with
      | len =>
        have : args[0]?.map e = args[0]?.map e' := by
          cases h0 : args[0]? with
          | none => rfl
          | some x =>
            obtain ⟨hlt, rfl⟩ := Array.getElem?_eq_some_iff.1 h0
            simp only [Option.map_some, h args[0] (by simp [Op.operands, Call.operands])]
        simp only [evalOp, this]
      | max => simp only [evalOp, ha]
      | min => simp only [evalOp, ha]
      | append =>
        simp only [evalOp, ← ha]
        simp only [touch] at hb
        split
        · rename_i b tg n get' t t' hl _
          have h0 : args[0]?.map e = some b := by
            have : args.toList[0]?.map e = some b := by rw [← List.getElem?_map, hl]; rfl
            simpa using this
          rw [h0] at hb
          cases b with
          | nils => simp only [hb d rfl]
          | slice tag len get =>
            cases tag with
            | none => rfl
            | some s => simp only [hb s rfl]
          | _ => rfl
        · rfl
      | _ => rfl
  | _ => rfl

theorem upd_touch {e : Operand → PV} {bl : Nat → Blk} {d ty : Nat} {op : Op} {s : Nat} {B : Blk} (h : (evalOp C e bl d ty op).upd = some (s, B)) : touch e d op = some s ∧ touches op = true := by
  have no : ∀ {r : R}, r.upd = none → r.upd = some (s, B) → False := fun h1 h2 => by rw [h1] at h2; cases h2
  cases op with
  | alloc t =>
    simp only [evalOp] at h
    split at h
    · simp only [Option.some.injEq, Prod.mk.injEq] at h; exact ⟨by simp [touch, h.1], rfl⟩
    · cases h
  | box t x =>
    simp only [evalOp, cond_eq_ite] at h
    split at h
    · split at h
      · simp only [Option.some.injEq, Prod.mk.injEq] at h; exact ⟨by simp [touch, h.1], rfl⟩
      · cases h
    · cases h
  | makeSlice t x y =>
    simp only [evalOp, cond_eq_ite] at h
    split at h
    · split at h
      · split at h
        · simp only [Option.some.injEq, Prod.mk.injEq] at h; exact ⟨by simp [touch, h.1], rfl⟩
        · cases h
      · cases h
    · cases h
  | assign x =>
    simp only [evalOp] at h
    cases hx : nilConst x with
    | false => rw [hx] at h; cases h
    | true =>
      rw [hx] at h
      simp only [cond_true] at h
      simp only [cond_eq_ite] at h
      split at h
      · split at h
        · split at h
          · simp only [Option.some.injEq, Prod.mk.injEq] at h; exact ⟨by simp [touch, hx, h.1], by simp [touches, hx]⟩
          · cases h
        · cases h
      · cases h
  | store t x y =>
    simp only [evalOp, cond_eq_ite] at h
    split at h
    · split at h
      · split at h
        · rename_i hv
          split at h
          · split at h
            · simp only [Option.some.injEq, Prod.mk.injEq] at h; exact ⟨by simp [touch, hv, h.1], rfl⟩
            · cases h
          · split at h
            · split at h
              · simp only [Option.some.injEq, Prod.mk.injEq] at h; exact ⟨by simp [touch, hv, h.1], rfl⟩
              · cases h
            · split at h
              · simp only [Option.some.injEq, Prod.mk.injEq] at h; exact ⟨by simp [touch, hv, h.1], rfl⟩
              · cases h
          · cases h
        · rename_i hv
          split at h
          · split at h
            · simp only [Option.some.injEq, Prod.mk.injEq] at h; exact ⟨by simp [touch, hv, h.1], rfl⟩
            · split at h
              · simp only [Option.some.injEq, Prod.mk.injEq] at h; exact ⟨by simp [touch, hv, h.1], rfl⟩
              · cases h
          · split at h
            · simp only [Option.some.injEq, Prod.mk.injEq] at h; exact ⟨by simp [touch, hv, h.1], rfl⟩
            · cases h
          · cases h
        · cases h
      · cases h
    · cases h
  | pick c x y => simp only [evalOp] at h; (repeat' split at h) <;> cases h
  | build t ps => simp only [evalOp, cond_eq_ite] at h; (repeat' split at h) <;> cases h
  | buildSlice t n ps =>
    simp only [evalOp, cond_eq_ite] at h
    (repeat' split at h) <;> first | (cases h; done) | (simp only [Option.some.injEq, Prod.mk.injEq] at h; exact ⟨by simp [touch, h.1], rfl⟩)
  | load t x => simp only [evalOp, cond_eq_ite] at h; (repeat' split at h) <;> cases h
  | nilCheck x => simp only [evalOp] at h; (repeat' split at h) <;> cases h
  | binOp op t x y u =>
    simp only [evalOp, boolOp, shiftR, cond_eq_ite] at h
    (repeat' split at h) <;> first | cases h | (cases op <;> cases h) | (cases op <;> simp only [Option.some.injEq, reduceCtorEq] at * <;> (rename_i hh; first | (subst hh; cases h) | cases h))
  | unOp u t x => cases u <;> simp only [evalOp] at h <;> first | cases h | ((repeat' split at h) <;> cases h)
  | slice t x lo hi mx =>
    cases mx with
    | some m => cases h
    | none => simp only [evalOp] at h; (repeat' split at h) <;> cases h
  | fieldAddr t x i => simp only [evalOp, cond_eq_ite] at h; (repeat' split at h) <;> cases h
  | field t x i => simp only [evalOp, cond_eq_ite] at h; (repeat' split at h) <;> cases h
  | indexAddr t x i => simp only [evalOp, cond_eq_ite] at h; (repeat' split at h) <;> cases h
  | index t x i => simp only [evalOp] at h; (repeat' split at h) <;> cases h
  | convert u t x => simp only [evalOp] at h; (repeat' split at h) <;> cases h
  | extract x i => simp only [evalOp] at h; (repeat' split at h) <;> cases h
  | call c =>
    obtain ⟨cal, args, ts⟩ := c
    cases cal with
    | value f => simp only [evalOp, cond_eq_ite] at h; (repeat' split at h) <;> cases h
    | invoke r m => cases h
    | builtin b =>
      cases b with
      | len => simp only [evalOp] at h; (repeat' split at h) <;> cases h
      | max => simp only [evalOp, cond_eq_ite] at h; (repeat' split at h) <;> cases h
      | min => simp only [evalOp, cond_eq_ite] at h; (repeat' split at h) <;> cases h
      | append =>
        simp only [evalOp, cond_eq_ite] at h
        split at h
        · rename_i b tg n get' t t' hl _
          have h0 : args[0]?.map e = some b := by
            have : args.toList[0]?.map e = some b := by rw [← List.getElem?_map, hl]; rfl
            simpa using this
          split at h
          · split at h
            · split at h
              · split at h
                · split at h
                  · split at h
                    · simp only [Option.some.injEq, Prod.mk.injEq] at h; exact ⟨by simp [touch, h0, h.1], rfl⟩
                    · cases h
                  · split at h
                    · split at h
                      · simp only [Option.some.injEq, Prod.mk.injEq] at h; exact ⟨by simp [touch, h0, h.1], rfl⟩
                      · cases h
                    · cases h
                  · cases h
                · cases h
              · cases h
            · cases h
          · cases h
        · cases h
      | _ => cases h
  | _ => cases h

def active (ops : List Oper) (st : St) (o : Oper) : Option Bool :=
  match o.guard with
  | none => some true
  | some (j, want) =>
    match (ops[j]?).bind Oper.dst with
    | none => none
    | some g =>
      match st.slots g with
      | .tt => some want
      | .ff => some (!want)
      | .und => some false
      | .bool b => some (b == want)
      | _ => none

def StepT (C : Ctx) (ops : List Oper) (o : Oper) (st : St) (t : Option Nat × Bool) (st1 : St) : Prop :=
  (active ops st o = some true ∧ (evalOp C (ev st.slots) st.blocks (o.dst.getD 0 + C.off) o.type o.op).pre.getD True ∧ t = (touch (ev st.slots) (o.dst.getD 0 + C.off) o.op, touches o.op) ∧
    st1 = (st.setB (evalOp C (ev st.slots) st.blocks (o.dst.getD 0 + C.off) o.type o.op).upd).put o.dst (evalOp C (ev st.slots) st.blocks (o.dst.getD 0 + C.off) o.type o.op).val) ∨
  (active ops st o = some false ∧ t = (none, false) ∧ st1 = st.put o.dst .und)

def RunT (C : Ctx) (ops : List Oper) : List (Nat × Oper) → St → List (Nat × Option Nat × Bool) → St → Prop
  | [], st, [], stf => st = stf
  | (i, o) :: l, st, (i', t) :: tr, stf => i = i' ∧ ∃ st1, StepT C ops o st t st1 ∧ RunT C ops l st1 tr stf
  | _, _, _, _ => False

theorem run0_step {st : St} {o : Oper} {k : St → Prop} (h : run0 C st o k) : (evalOp C (ev st.slots) st.blocks (o.dst.getD 0 + C.off) o.type o.op).pre.getD True ∧
    k ((st.setB (evalOp C (ev st.slots) st.blocks (o.dst.getD 0 + C.off) o.type o.op).upd).put o.dst (evalOp C (ev st.slots) st.blocks (o.dst.getD 0 + C.off) o.type o.op).val) := by
  rw [run0_eq] at h
  unfold run1s run1r at h
  split at h
  · rename_i hp; exact ⟨by rw [hp]; trivial, h⟩
  · rename_i p hp; exact ⟨by rw [hp]; exact h.1, h.2⟩

theorem apart_none {t u : Option Nat × Bool} (h : t.1 = none ∨ u.1 = none) : apart t u = true := by
  unfold apart
  rcases h with h | h
  · rw [h]; simp
  · rw [h]; cases t.1 <;> simp
theorem calm_filter {an : List Nat} : ∀ (tr : Trace), calm an (tr.filter fun x => x.2.1.isSome) = true → calm an tr = true
  | [], _ => rfl
  | (i, t) :: r, h => by
    cases ht : t.1 with
    | none =>
      have h' : calm an (r.filter fun x => x.2.1.isSome) = true := by simpa [List.filter_cons, ht] using h
      simp only [calm, Bool.and_eq_true, List.all_eq_true]
      exact ⟨fun x _ => by rw [apart_none (.inl ht)]; rfl, calm_filter r h'⟩
    | some s =>
      have h' : calm an ((i, t) :: r.filter fun x => x.2.1.isSome) = true := by simpa [List.filter_cons, ht] using h
      simp only [calm, Bool.and_eq_true, List.all_eq_true] at h' ⊢
      refine ⟨fun x hx => ?_, calm_filter r h'.2⟩
      cases hu : x.2.1 with
      | none => rw [apart_none (.inr hu)]; rfl
      | some s' => exact h'.1 x (List.mem_filter.2 ⟨hx, by simp [hu]⟩)

theorem evalD_run {ops : List Oper} {an : List Nat} : ∀ (l : List (Nat × Oper)) (st : St) (tr : Trace) (k : St → Prop), evalD C ops an l st tr k →
    ∃ tr' stf, RunT C ops l st tr' stf ∧ calm an (tr ++ tr'.filter fun x => x.2.1.isSome) = true ∧ k stf
  | [], st, tr, k, h => ⟨[], st, rfl, by simpa using h.1, h.2⟩
  | (i, o) :: rest, st, tr, k, h => by
    have go : active ops st o = some true → (match touch (ev st.slots) (o.dst.getD 0 + C.off) o.op with
          | none => run0 C st o fun st' => evalD C ops an rest st' tr k
          | some s => run0 C st o fun st' => evalD C ops an rest st' (tr ++ [(i, some s, touches o.op)]) k) →
        ∃ tr' stf, RunT C ops ((i, o) :: rest) st tr' stf ∧ calm an (tr ++ tr'.filter fun x => x.2.1.isSome) = true ∧ k stf := by
      intro ha hr
      cases ht : touch (ev st.slots) (o.dst.getD 0 + C.off) o.op with
      | none =>
        rw [ht] at hr
        obtain ⟨h1, h2⟩ := run0_step hr
        obtain ⟨tr', stf, g1, g2, g3⟩ := evalD_run rest _ _ k h2
        exact ⟨(i, none, touches o.op) :: tr', stf, ⟨rfl, _, .inl ⟨ha, h1, by rw [ht], rfl⟩, g1⟩, by simpa [List.filter_cons] using g2, g3⟩
      | some s =>
        rw [ht] at hr
        obtain ⟨h1, h2⟩ := run0_step hr
        obtain ⟨tr', stf, g1, g2, g3⟩ := evalD_run rest _ _ k h2
        exact ⟨(i, some s, touches o.op) :: tr', stf, ⟨rfl, _, .inl ⟨ha, h1, by rw [ht], rfl⟩, g1⟩, by simpa [List.filter_cons] using g2, g3⟩
    have skip : active ops st o = some false → evalD C ops an rest (st.put o.dst .und) tr k → ∃ tr' stf, RunT C ops ((i, o) :: rest) st tr' stf ∧ calm an (tr ++ tr'.filter fun x => x.2.1.isSome) = true ∧ k stf := by
      intro ha hr
      obtain ⟨tr', stf, g1, g2, g3⟩ := evalD_run rest _ _ k hr
      exact ⟨(i, none, false) :: tr', stf, ⟨rfl, _, .inr ⟨ha, rfl, rfl⟩, g1⟩, by simpa [List.filter_cons] using g2, g3⟩
    simp only [evalD, stepD] at h
    cases hg : o.guard with
    | none => rw [hg] at h; exact go (by simp [active, hg]) h
    | some jw =>
      obtain ⟨j, want⟩ := jw
      rw [hg] at h
      cases hgd : (ops[j]?).bind Oper.dst with
      | none => simp only [hgd] at h
      | some g =>
        simp only [hgd] at h
        cases hs : st.slots g with
        | tt =>
          rw [hs] at h
          cases want with
          | true => exact go (by simp [active, hg, hgd, hs]) h
          | false => exact skip (by simp [active, hg, hgd, hs]) h
        | ff =>
          rw [hs] at h
          cases want with
          | true => exact skip (by simp [active, hg, hgd, hs]) h
          | false => exact go (by simp [active, hg, hgd, hs]) h
        | und => rw [hs] at h; exact skip (by simp [active, hg, hgd, hs]) h
        | bool b =>
          rw [hs] at h
          have hset : ∀ c, b = c → st.set g (.bool c) = st := by
            intro c hc
            have e : upd st.slots g (.bool c) = st.slots := by
              funext n
              by_cases hn : n = g
              · subst hn; rw [upd_same, hs, hc]
              · rw [upd_ne _ _ hn]
            show ({ slots := upd st.slots g (.bool c), blocks := st.blocks } : St) = st
            rw [e]
          by_cases hb : b = want
          · have h1 := h.1 hb
            rw [hset want hb] at h1
            exact go (by simp [active, hg, hgd, hs, hb]) h1
          · have hb' : b = !want := by cases b <;> cases want <;> simp_all
            have h1 := h.2 hb'
            rw [hset _ hb'] at h1
            exact skip (by simp [active, hg, hgd, hs, hb]) h1
        | _ => rw [hs] at h; exact h.elim

theorem ev_put {st : St} {bl : Nat → Blk} {dst : Option Nat} {v : PV} {x : Operand} (h : ∀ d, dst = some d → tmpOf x ≠ some d) : ev (St.put { slots := st.slots, blocks := bl } dst v).slots x = ev st.slots x := by
  cases x with
  | tmp t =>
    cases dst with
    | none => rfl
    | some d =>
      have : t ≠ d := fun e => h d rfl (by rw [← e]; rfl)
      exact upd_ne _ _ this
  | _ => rfl

theorem slotApart_spec {ops : List Oper} {a b : Oper} (h : slotApart ops a b = true) : (∀ d, a.dst = some d → d ∉ reads ops b) ∧ (∀ d, b.dst = some d → d ∉ reads ops a) ∧ ∀ d d', a.dst = some d → b.dst = some d' → d ≠ d' := by
  simp only [slotApart, Bool.and_eq_true] at h
  obtain ⟨⟨h1, h2⟩, h3⟩ := h
  refine ⟨fun d hd => ?_, fun d hd => ?_, fun d d' hd hd' e => ?_⟩
  · rw [hd] at h1; simpa using h1
  · rw [hd] at h2; simpa using h2
  · rw [hd, hd'] at h3; subst e; simp at h3

theorem active_put {ops : List Oper} {st : St} {bl : Nat → Blk} {dst : Option Nat} {v : PV} {o : Oper} (h : ∀ d, dst = some d → d ∉ reads ops o) : active ops (St.put { slots := st.slots, blocks := bl } dst v) o = active ops st o := by
  unfold active
  cases hg : o.guard with
  | none => rfl
  | some jw =>
    obtain ⟨j, want⟩ := jw
    dsimp only
    cases hgd : (ops[j]?).bind Oper.dst with
    | none => rfl
    | some g =>
      dsimp only
      have : (St.put { slots := st.slots, blocks := bl } dst v).slots g = st.slots g := by
        cases dst with
        | none => rfl
        | some d =>
          refine upd_ne _ _ ?_
          rintro rfl
          exact h g rfl (by simp [reads, hg, hgd])
      rw [this]

theorem put_put {st : St} {a b : Option Nat} {x y : PV} (h : ∀ d d', a = some d → b = some d' → d ≠ d') : ((st.put a x).put b y).slots = ((st.put b y).put a x).slots := by
  cases a with
  | none => rfl
  | some d =>
    cases b with
    | none => rfl
    | some d' =>
      have hne := h d d' rfl rfl
      funext n
      show upd (upd st.slots d x) d' y n = upd (upd st.slots d' y) d x n
      by_cases h1 : n = d'
      · subst h1
        rw [upd_same, upd_ne _ _ (Ne.symm hne), upd_same]
      · rw [upd_ne _ _ h1]
        by_cases h2 : n = d
        · subst h2; rw [upd_same, upd_same]
        · rw [upd_ne _ _ h2, upd_ne _ _ h2, upd_ne _ _ h1]

def updB (bl : Nat → Blk) : Option (Nat × Blk) → Nat → Blk
  | some (s, b) => upd bl s b
  | none => bl
theorem setB_eq (st : St) (u : Option (Nat × Blk)) : st.setB u = { slots := st.slots, blocks := updB st.blocks u } := by cases u <;> rfl
theorem put_slots (st : St) (bl : Nat → Blk) (d : Option Nat) (v : PV) : St.put { slots := st.slots, blocks := bl } d v = { slots := (st.put d v).slots, blocks := bl } := by cases d <;> rfl
theorem put_blocks (st : St) (d : Option Nat) (v : PV) : (st.put d v).blocks = st.blocks := by cases d <;> rfl
theorem updB_ne {bl : Nat → Blk} {u : Option (Nat × Blk)} {s : Nat} (h : ∀ s' B, u = some (s', B) → s' ≠ s) : updB bl u s = bl s := by
  cases u with
  | none => rfl
  | some x => exact upd_ne _ _ fun e => h x.1 x.2 rfl e.symm
theorem updB_updB {bl : Nat → Blk} {u u' : Option (Nat × Blk)} (h : ∀ s B s' B', u = some (s, B) → u' = some (s', B') → s ≠ s') : updB (updB bl u) u' = updB (updB bl u') u := by
  cases u with
  | none => rfl
  | some x =>
    cases u' with
    | none => rfl
    | some y =>
      have hne := h x.1 x.2 y.1 y.2 rfl rfl
      funext n
      show upd (upd bl x.1 x.2) y.1 y.2 n = upd (upd bl y.1 y.2) x.1 x.2 n
      by_cases h1 : n = y.1
      · subst h1
        rw [upd_same, upd_ne _ _ (Ne.symm hne), upd_same]
      · rw [upd_ne _ _ h1]
        by_cases h2 : n = x.1
        · subst h2; rw [upd_same, upd_same]
        · rw [upd_ne _ _ h2, upd_ne _ _ h2, upd_ne _ _ h1]

theorem StepT.form {ops : List Oper} {o : Oper} {st st1 : St} {t : Option Nat × Bool} (h : StepT C ops o st t st1) :
    ∃ (v : PV) (u : Option (Nat × Blk)), st1 = { slots := (st.put o.dst v).slots, blocks := updB st.blocks u } ∧ (∀ s B, u = some (s, B) → t = (some s, true)) ∧
      ∀ (st' : St), active ops st' o = active ops st o → (∀ x ∈ o.op.operands.toList, ev st'.slots x = ev st.slots x) → (∀ s, t.1 = some s → st'.blocks s = st.blocks s) → StepT C ops o st' t { slots := (st'.put o.dst v).slots, blocks := updB st'.blocks u } := by
  rcases h with ⟨h1, h2, h3, h4⟩ | ⟨h1, h2, h3⟩
  · refine ⟨_, _, by rw [h4, setB_eq, put_slots], fun s B hu => ?_, fun st' g1 g2 g3 => ?_⟩
    · obtain ⟨k1, k2⟩ := upd_touch hu
      rw [h3, k1, k2]
    · have e1 : touch (ev st'.slots) (o.dst.getD 0 + C.off) o.op = touch (ev st.slots) (o.dst.getD 0 + C.off) o.op := touch_congr g2
      have e2 : evalOp C (ev st'.slots) st'.blocks (o.dst.getD 0 + C.off) o.type o.op = evalOp C (ev st.slots) st.blocks (o.dst.getD 0 + C.off) o.type o.op :=
        evalOp_congr g2 fun s hs => g3 s (by rw [h3]; rw [e1] at hs; exact hs)
      exact .inl ⟨g1.trans h1, by rw [e2]; exact h2, by rw [e1]; exact h3, by rw [e2, setB_eq]; exact (put_slots st' _ o.dst _).symm⟩
  · have hf : ∀ s : St, s.put o.dst .und = { slots := (s.put o.dst .und).slots, blocks := updB s.blocks none } := by
      intro s
      cases o.dst <;> rfl
    exact ⟨.und, none, h3.trans (hf st), (fun _ _ hu => nomatch hu), fun st' g1 _ _ => .inr ⟨g1.trans h1, h2, (hf st').symm⟩⟩

theorem apart_spec {t u : Option Nat × Bool} (h : apart t u = true) {s s' : Nat} (h1 : t.1 = some s) (h2 : u.1 = some s') (hw : t.2 = true ∨ u.2 = true) : s ≠ s' := by
  rintro rfl
  simp only [apart, h1, h2, Bool.or_eq_true, Bool.and_eq_true, Bool.not_eq_true'] at h
  rcases h with ⟨a, b⟩ | h
  · rcases hw with hw | hw
    · rw [hw] at a; cases a
    · rw [hw] at b; cases b
  · simp at h

theorem step_swap {ops : List Oper} {o p : Oper} {st st1 st2 : St} {t u : Option Nat × Bool} (hs : slotApart ops o p = true) (ha : apart t u = true) (h1 : StepT C ops o st t st1) (h2 : StepT C ops p st1 u st2) :
    ∃ st1', StepT C ops p st u st1' ∧ StepT C ops o st1' t st2 := by
  obtain ⟨k1, k2, k3⟩ := slotApart_spec hs
  obtain ⟨v, uo, e1, w1, f1⟩ := h1.form
  obtain ⟨v', up, e2, w2, f2⟩ := h2.form
  have r1 : ∀ x ∈ p.op.operands.toList, ∀ d, o.dst = some d → tmpOf x ≠ some d := by
    intro x hx d hd he
    exact k1 d hd (by simp only [reads, List.mem_append, List.mem_filterMap]; exact .inl ⟨x, hx, he⟩)
  have r2 : ∀ x ∈ o.op.operands.toList, ∀ d, p.dst = some d → tmpOf x ≠ some d := by
    intro x hx d hd he
    exact k2 d hd (by simp only [reads, List.mem_append, List.mem_filterMap]; exact .inl ⟨x, hx, he⟩)
  subst e1
  have g2 := f2 st (by rw [← put_slots]; exact (active_put (v := v) (bl := updB st.blocks uo) k1).symm) (fun x hx => by rw [← put_slots]; exact (ev_put (r1 x hx)).symm) (fun s hsu => by
    refine (updB_ne fun s' B hu => ?_).symm
    have := w1 s' B hu
    exact apart_spec ha (by rw [this]) hsu (.inl (by rw [this])))
  refine ⟨_, g2, ?_⟩
  have g1 := f1 { slots := (st.put p.dst v').slots, blocks := updB st.blocks up } (by rw [← put_slots]; exact active_put k2) (fun x hx => by rw [← put_slots]; exact ev_put (r2 x hx)) (fun s hst => by
    refine updB_ne fun s' B hu => ?_
    have := w2 s' B hu
    exact (apart_spec ha hst (by rw [this]) (.inr (by rw [this]))).symm)
  have e3 : st2 = { slots := (St.put { slots := (st.put p.dst v').slots, blocks := updB st.blocks up } o.dst v).slots, blocks := updB (updB st.blocks up) uo } := by
    rw [e2]
    have hb : updB (updB st.blocks uo) up = updB (updB st.blocks up) uo := updB_updB fun s B s' B' hu hu' => by
      have q1 := w1 s B hu
      have q2 := w2 s' B' hu'
      exact apart_spec ha (by rw [q1]) (by rw [q2]) (.inl (by rw [q1]))
    have hsl : (St.put { slots := (st.put o.dst v).slots, blocks := updB st.blocks uo } p.dst v').slots = (St.put { slots := (st.put p.dst v').slots, blocks := updB st.blocks up } o.dst v).slots := by
      have := put_put (st := st) (a := o.dst) (b := p.dst) (x := v) (y := v') k3
      have l1 : (St.put { slots := (st.put o.dst v).slots, blocks := updB st.blocks uo } p.dst v').slots = ((st.put o.dst v).put p.dst v').slots := by cases p.dst <;> rfl
      have l2 : (St.put { slots := (st.put p.dst v').slots, blocks := updB st.blocks up } o.dst v).slots = ((st.put p.dst v').put o.dst v).slots := by cases o.dst <;> rfl
      rw [l1, l2, this]
    rw [hsl, hb]
  rw [e3]
  exact g1

theorem run_front {ops : List Oper} {i : Nat} {o : Oper} {t : Option Nat × Bool} : ∀ (l1 : List (Nat × Oper)) (tr1 : Trace) (l2 : List (Nat × Oper)) (tr2 : Trace) (st stf : St), l1.length = tr1.length →
    RunT C ops (l1 ++ (i, o) :: l2) st (tr1 ++ (i, t) :: tr2) stf → (∀ k ∈ l1, slotApart ops k.2 o = true) → (∀ k ∈ tr1, apart k.2 t = true) → RunT C ops ((i, o) :: (l1 ++ l2)) st ((i, t) :: (tr1 ++ tr2)) stf
  | [], [], l2, tr2, st, stf, _, h, _, _ => h
  | (j, p) :: l1, (j', u) :: tr1, l2, tr2, st, stf, hl, h, h1, h2 => by
    obtain ⟨rfl, st1, hs, hr⟩ := h
    obtain ⟨_, st2, hs2, hr2⟩ := run_front l1 tr1 l2 tr2 st1 stf (by simpa using hl) hr (fun k hk => h1 k (List.mem_cons_of_mem _ hk)) (fun k hk => h2 k (List.mem_cons_of_mem _ hk))
    obtain ⟨st1', g1, g2⟩ := step_swap (h1 (j, p) (List.mem_cons_self ..)) (h2 (j, u) (List.mem_cons_self ..)) hs hs2
    exact ⟨rfl, st1', g1, rfl, st2, g2, hr2⟩
  | [], _ :: _, _, _, _, _, hl, _, _, _ => by simp at hl
  | _ :: _, [], _, _, _, _, hl, _, _, _ => by simp at hl

end
end Go.V

/- Part 7: a region whose order is open does what it does in the order of the text. -/
namespace Go.V
open Go.RowKit (Below)

def ancOf (acc : List Nat) (o : Oper) : Nat := (deps o).foldl (fun m k => m ||| (1 <<< k ||| acc.getD k 0)) 0
theorem anc_bit (acc : List Nat) : ∀ (l : List Nat) (m0 k : Nat), Nat.testBit (l.foldl (fun m k => m ||| (1 <<< k ||| acc.getD k 0)) m0) k = true → Nat.testBit m0 k = true ∨ k ∈ l ∨ ∃ m ∈ l, Nat.testBit (acc.getD m 0) k = true
  | [], m0, k, h => .inl h
  | a :: l, m0, k, h => by
    rcases anc_bit acc l _ k h with h | h | ⟨m, hm, h⟩
    · rw [Nat.testBit_or, Nat.testBit_or, Bool.or_eq_true, Bool.or_eq_true] at h
      rcases h with h | h | h
      · exact .inl h
      · refine .inr (.inl ?_)
        rw [Nat.one_shiftLeft, Nat.testBit_two_pow] at h
        have : a = k := by simpa using h
        exact this ▸ List.mem_cons_self ..
      · exact .inr (.inr ⟨a, List.mem_cons_self .., h⟩)
    · exact .inr (.inl (List.mem_cons_of_mem _ h))
    · exact .inr (.inr ⟨m, List.mem_cons_of_mem _ hm, h⟩)
theorem ancs_pre : ∀ (ops : List Oper) (acc : List Nat), ∃ r, ancs ops acc = acc ++ r
  | [], acc => ⟨[], by simp [ancs]⟩
  | o :: ops, acc => by
    obtain ⟨r, hr⟩ := ancs_pre ops (acc ++ [ancOf acc o])
    exact ⟨_, by rw [ancs]; show ancs ops (acc ++ [ancOf acc o]) = _; rw [hr, List.append_assoc]⟩
theorem ancs_at : ∀ (ops : List Oper) (acc : List Nat) (i : Nat) (o : Oper), ops[i]? = some o → (∀ k ∈ deps o, k < acc.length + i) →
    ∀ k, hasA (ancs ops acc) (acc.length + i) k = true → k ∈ deps o ∨ ∃ m ∈ deps o, hasA (ancs ops acc) m k = true
  | [], acc, i, o, h, _, _, _ => by simp at h
  | p :: ops, acc, 0, o, h, hd, k, hk => by
    simp at h
    subst h
    obtain ⟨r, hr⟩ := ancs_pre ops (acc ++ [ancOf acc p])
    have hr : ancs (p :: ops) acc = acc ++ [ancOf acc p] ++ r := hr
    have e : (ancs (p :: ops) acc).getD (acc.length + 0) 0 = ancOf acc p := by
      rw [hr]
      simp [List.getD]
    unfold hasA at hk
    rw [e] at hk
    rcases anc_bit acc (deps p) 0 k hk with hk | hk | ⟨m, hm, hk⟩
    · simp at hk
    · exact .inl hk
    · refine .inr ⟨m, hm, ?_⟩
      have hlt := hd m hm
      have e2 : (ancs (p :: ops) acc).getD m 0 = acc.getD m 0 := by
        rw [hr, List.append_assoc]
        simp [List.getD, List.getElem?_append_left (show m < acc.length by omega)]
      unfold hasA
      rw [e2]; exact hk
  | p :: ops, acc, i + 1, o, h, hd, k, hk => by
    have hl : (acc ++ [ancOf acc p]).length = acc.length + 1 := by simp
    have := ancs_at ops (acc ++ [ancOf acc p]) i o (by simpa using h) (by intro k hk; have := hd k hk; rw [hl]; omega) k
    have er : ancs (p :: ops) acc = ancs ops (acc ++ [ancOf acc p]) := rfl
    rw [er] at hk ⊢
    refine this ?_
    have e : (acc ++ [ancOf acc p]).length + i = acc.length + (i + 1) := by rw [hl]; omega
    rw [e]; exact hk

theorem fit_spec {ops : List Oper} (h : fitOps ops = true) {i : Nat} {o : Oper} (hi : ops[i]? = some o) :
    (∀ k ∈ deps o, k < i) ∧ ∀ k p, k < i → ops[k]? = some p → hasA (ancs ops []) i k = true ∨ slotApart ops p o = true := by
  simp only [fitOps, List.all_eq_true] at h
  have := h (o, i) (List.mem_zipIdx_iff_getElem?.2 (by simpa using hi))
  simp only [Bool.and_eq_true, List.all_eq_true] at this
  refine ⟨fun k hk => Nat.le_of_ble_eq_true (this.1 k hk), fun k p hk hp => ?_⟩
  have hm : (p, k) ∈ (ops.take i).zipIdx := List.mem_zipIdx_iff_getElem?.2 (by simp [hk, hp])
  have := this.2 (p, k) hm
  simpa [Bool.or_eq_true] using this

theorem calm_mid {an : List Nat} : ∀ (l1 : Trace) (i : Nat) (t : Option Nat × Bool) (l2 : Trace), calm an (l1 ++ (i, t) :: l2) = true → calm an (l1 ++ l2) = true ∧ ∀ k ∈ l1, hasA an i k.1 = true ∨ apart k.2 t = true
  | [], i, t, l2, h => by
    simp only [List.nil_append, calm, Bool.and_eq_true] at h
    exact ⟨h.2, fun k hk => by simp at hk⟩
  | (j, u) :: l1, i, t, l2, h => by
    simp only [List.cons_append, calm, Bool.and_eq_true, List.all_append, List.all_cons, Bool.or_eq_true] at h ⊢
    obtain ⟨⟨h1, h2, h3⟩, h4⟩ := h
    obtain ⟨g1, g2⟩ := calm_mid l1 i t l2 h4
    refine ⟨⟨⟨h1, h3⟩, g1⟩, fun k hk => ?_⟩
    rcases List.mem_cons.1 hk with rfl | hk
    · rcases h2 with h2 | h2
      · exact .inr h2
      · exact .inl (by simpa using h2)
    · exact g2 k hk

section
variable {P : Program} {C : Ctx} {E : Env} {base : Nat} {w0 : Orig} {w : World} {st : St} {a : Act} {N : Nat} {r : Option Nat}

theorem SR.drawn (hS : SR E base w0 st a w) (n : Nat) : SR E base w0 st a { w with drawn := n } := by
  have hc : ∀ b o, E.σ b o → World.cell? { w with drawn := n } ⟨b, o, none⟩ = w.cell? ⟨b, o, none⟩ := fun _ _ _ => rfl
  refine ⟨hS.dfr.heap fun _ _ => rfl, fun n => (hS.slots n).mono (Env.le_refl E) hc, fun s => (hS.blk s).keep (Env.le_refl E) hc rfl rfl fun _ _ => rfl, hS.inj, hS.σok, ?_, hS.bas, hS.σin, hS.σout, fun q p v h => (hS.fr q p v h).mono (Env.only_le (Env.le_refl E) q) hc⟩
  exact ⟨hS.bel.os, hS.bel.tape, hS.bel.output, hS.bel.size, hS.bel.block⟩

theorem active_wanted {ops : Array Oper} (hS : SR E base w0 st a w) {o : Oper} {b : Bool} (h : active ops.toList st o = some b) : Region.wanted o (yielded ops a.tmps) = b := by
  unfold active at h
  cases hg : o.guard with
  | none => rw [hg] at h; simp at h; simp [Region.wanted, hg, h]
  | some jw =>
    obtain ⟨j, want⟩ := jw
    rw [hg] at h
    have hops : ops.toList[j]? = ops[j]? := by simp
    simp only [hops] at h
    cases hgd : (ops[j]?).bind Oper.dst with
    | none => simp [hgd] at h
    | some g =>
      simp only [hgd] at h
      have hsl := hS.slots g
      have hwant : ∀ b, yielded ops a.tmps j = b → Region.wanted o (yielded ops a.tmps) = (b == some want) := by intro b hb; simp [Region.wanted, hg, hb]
      cases hs : st.slots g with
      | tt =>
        rw [hs] at hsl h
        rw [hwant _ (yielded_bool hgd hsl.tt_inv)]
        simp at h; subst h; cases want <;> rfl
      | ff =>
        rw [hs] at hsl h
        rw [hwant _ (yielded_bool hgd hsl.ff_inv)]
        simp only [Option.some.injEq] at h; subst h; cases want <;> rfl
      | und =>
        rw [hs] at hsl h
        rw [hwant _ (yielded_und hgd hsl.und_inv)]
        simp at h; subst h; rfl
      | bool c =>
        rw [hs] at hsl h
        rw [hwant _ (yielded_bool hgd hsl.bool_inv)]
        simp at h; subst h; cases c <;> cases want <;> rfl
      | _ => rw [hs] at h; cases h

theorem stepT_sound (hC : CtxOk P C) {ops : Array Oper} {Q : Exit → Act → World → Prop} (hS : SR E base w0 st a w) (hN : a.tmps.size = N) {i : Nat} {o : Oper} (hi : ops[i]? = some o) (hok : okOper N o = true) {t : Option Nat × Bool} {st1 : St}
    (h : StepT C ops.toList o st t st1) {next : Act → World → Prop} (hn : ∀ E' a' w', SR E' base w0 st1 a' w' → a'.tmps.size = N → next a' w') : wpOpIn (Fc r) 0 P ops Q i next a w := by
  unfold wpOpIn
  rw [hi]
  dsimp only
  rcases h with ⟨h1, h2, _, h4⟩ | ⟨h1, _, h3⟩
  · rw [if_pos (active_wanted hS h1)]
    refine in_of_wp (fun c hc => by rw [hc] at h2; simp [evalOp, R.bad] at h2) (op_sound hC hS (okOper_store hok) h2 next _ fun E' w' v hS' hv => ?_)
    refine hn E' _ w' ?_ (by rw [put_size, hN])
    rw [h4]
    exact hS'.put (by rw [hN]; exact okOper_dst hok) hv
  · rw [if_neg (by rw [active_wanted hS h1]; simp)]
    refine ⟨fun _ _ => trivial, ?_⟩
    refine hn E _ w ?_ (by rw [put_size, hN])
    rw [h3]
    exact hS.put (by rw [hN]; exact okOper_dst hok) (.pure .und)

theorem run_split {ops : List Oper} : ∀ (l1 : List (Nat × Oper)) (x : Nat × Oper) (l2 : List (Nat × Oper)) (tr : Trace) (st stf : St), RunT C ops (l1 ++ x :: l2) st tr stf →
    ∃ tr1 t tr2, tr = tr1 ++ (x.1, t) :: tr2 ∧ l1.length = tr1.length ∧ tr1.map (·.1) = l1.map (·.1)
  | [], (i, o), l2, [], st, stf, h => h.elim
  | [], (i, o), l2, (i', t) :: tr, st, stf, h => by
    obtain ⟨rfl, _⟩ := h
    exact ⟨[], t, tr, rfl, rfl, rfl⟩
  | (j, p) :: l1, x, l2, [], st, stf, h => h.elim
  | (j, p) :: l1, x, l2, (j', u) :: tr, st, stf, h => by
    obtain ⟨rfl, st1, _, hr⟩ := h
    obtain ⟨tr1, t, tr2, h1, h2, h3⟩ := run_split l1 x l2 tr st1 stf hr
    exact ⟨(j, u) :: tr1, t, tr2, by rw [h1]; rfl, by simp [h2], by simp [h3]⟩

structure Left (ops : Array Oper) (l : List (Nat × Oper)) (listed : Array Bool) : Prop where
  sz : listed.size = ops.size
  mem : ∀ i, i < ops.size → (listed.getD i true = false ↔ ∃ o, (i, o) ∈ l)
  hops : ∀ x ∈ l, ops[x.1]? = some x.2
  sort : l.Pairwise (fun x y => x.1 < y.1)
  cl : ∀ m, m < ops.size → listed.getD m true = true → ∀ k, hasA (ancs ops.toList []) m k = true → listed.getD k true = true

theorem ready_spec (ops : Array Oper) (listed : Array Bool) (i : Nat) : i ∈ Region.ready .any ops listed ↔ i < ops.size ∧ listed.getD i true = false ∧ ∃ o, ops[i]? = some o ∧ ∀ k ∈ deps o, listed.getD k false = true := by
  simp only [Region.ready, List.mem_filter, List.mem_range, Bool.and_eq_true, Bool.not_eq_true']
  constructor
  · rintro ⟨h1, h2, h3⟩
    refine ⟨h1, h2, ?_⟩
    cases ho : ops[i]? with
    | none => simp [ho] at h3
    | some o =>
      simp only [ho, Option.map_some, Option.getD_some] at h3
      refine ⟨o, rfl, fun k hk => ?_⟩
      simp only [deps, List.mem_map, List.mem_filter] at hk
      obtain ⟨e, ⟨he, hb⟩, rfl⟩ := hk
      have := (Array.all_eq_true'.1 h3) e (by simpa using he)
      simpa [hb] using this
  · rintro ⟨h1, h2, o, ho, h3⟩
    refine ⟨h1, h2, ?_⟩
    simp only [ho, Option.map_some, Option.getD_some]
    refine Array.all_eq_true'.2 fun e he => ?_
    cases hb : Region.binds .any e with
    | false => rfl
    | true =>
      have := h3 e.on (by simp only [deps, List.mem_map, List.mem_filter]; exact ⟨e, ⟨by simpa using he, hb⟩, rfl⟩)
      simp [this]

theorem Left.first {ops : Array Oper} {x : Nat × Oper} {l : List (Nat × Oper)} {listed : Array Bool} (h : Left ops (x :: l) listed) (hfit : fitOps ops.toList = true) : x.1 ∈ Region.ready .any ops listed := by
  obtain ⟨i0, o0⟩ := x
  have hi0 := h.hops (i0, o0) (List.mem_cons_self ..)
  have hlt : i0 < ops.size := (Array.getElem?_eq_some_iff.1 hi0).1
  refine (ready_spec ops listed i0).2 ⟨hlt, (h.mem i0 hlt).2 ⟨o0, List.mem_cons_self ..⟩, o0, hi0, fun k hk => ?_⟩
  have hki := (fit_spec hfit (i := i0) (o := o0) (by simpa using hi0)).1 k hk
  have hk2 : k < ops.size := by omega
  have : listed.getD k true = true := by
    cases hb : listed.getD k true with
    | true => rfl
    | false =>
      obtain ⟨o, ho⟩ := (h.mem k hk2).1 hb
      exfalso
      rcases List.mem_cons.1 ho with h' | h'
      · cases h'; omega
      · have := (List.pairwise_cons.1 h.sort).1 _ h'
        simp only at this
        omega
  simpa [Array.getD, h.sz, hk2] using this

theorem Left.ancs_done {ops : Array Oper} {l : List (Nat × Oper)} {listed : Array Bool} (h : Left ops l listed) (hfit : fitOps ops.toList = true) {i : Nat} (hi : i ∈ Region.ready .any ops listed) :
    ∃ o, (i, o) ∈ l ∧ ops[i]? = some o ∧ ∀ k, hasA (ancs ops.toList []) i k = true → listed.getD k true = true := by
  obtain ⟨hlt, hfalse, o, ho, hdep⟩ := (ready_spec ops listed i).1 hi
  obtain ⟨o', ho'⟩ := (h.mem i hlt).1 hfalse
  have : o' = o := by have := h.hops _ ho'; simp only at this; rw [ho] at this; exact (Option.some.inj this).symm
  subst this
  have hdep' : ∀ k ∈ deps o', k < ops.size ∧ listed.getD k true = true := by
    intro k hk
    have := hdep k hk
    by_cases hks : k < listed.size
    · exact ⟨by have := h.sz; omega, by simpa [Array.getD, hks] using this⟩
    · simp [Array.getD, hks] at this
  refine ⟨o', ho', ho, fun k hk => ?_⟩
  have hfs := (fit_spec hfit (i := i) (o := o') (by simpa using ho)).1
  rcases ancs_at ops.toList [] i o' (by simpa using ho) (by simpa using hfs) k (by simpa using hk) with h' | ⟨m, hm, h'⟩
  · exact (hdep' k h').2
  · obtain ⟨g1, g2⟩ := hdep' m hm
    exact h.cl m g1 g2 k h'

theorem Left.done {ops : Array Oper} {l1 l2 : List (Nat × Oper)} {i : Nat} {o : Oper} {listed : Array Bool} (h : Left ops (l1 ++ (i, o) :: l2) listed) (hanc : ∀ k, hasA (ancs ops.toList []) i k = true → listed.getD k true = true) :
    Left ops (l1 ++ l2) (listed.setIfInBounds i true) := by
  have hset : ∀ k, (listed.setIfInBounds i true).getD k true = if k = i then true else listed.getD k true := by
    intro k
    by_cases hk : k < listed.size
    · by_cases hki : k = i
      · subst hki; simp [Array.getD, hk]
      · have hik : i ≠ k := fun e => hki e.symm
        simp [Array.getD, hk, hki, hik]
    · simp [Array.getD, hk]
  refine ⟨by simpa using h.sz, fun k hk => ?_, fun x hx => ?_, ?_, fun m hm hm2 k hk => ?_⟩
  · rw [hset]
    by_cases hki : k = i
    · subst hki
      simp only [if_pos, Bool.true_eq_false, false_iff]
      rintro ⟨p, hp⟩
      have hs := List.pairwise_append.1 h.sort
      rcases List.mem_append.1 hp with h' | h'
      · have := hs.2.2 _ h' (k, o) (List.mem_cons_self ..); simp only at this; omega
      · have := (List.pairwise_cons.1 hs.2.1).1 _ h'; simp only at this; omega
    · rw [if_neg hki, h.mem k hk]
      constructor
      · rintro ⟨p, hp⟩
        refine ⟨p, ?_⟩
        rcases List.mem_append.1 hp with h' | h'
        · exact List.mem_append_left _ h'
        · rcases List.mem_cons.1 h' with h' | h'
          · cases h'; exact (hki rfl).elim
          · exact List.mem_append_right _ h'
      · rintro ⟨p, hp⟩
        refine ⟨p, ?_⟩
        rcases List.mem_append.1 hp with h' | h'
        · exact List.mem_append_left _ h'
        · exact List.mem_append_right _ (List.mem_cons_of_mem _ h')
  · refine h.hops x ?_
    rcases List.mem_append.1 hx with h' | h'
    · exact List.mem_append_left _ h'
    · exact List.mem_append_right _ (List.mem_cons_of_mem _ h')
  · exact h.sort.sublist (List.Sublist.append (List.Sublist.refl _) (List.sublist_cons_self _ _))
  · rw [hset] at hm2 ⊢
    by_cases hki : k = i
    · rw [if_pos hki]
    · rw [if_neg hki]
      by_cases hmi : m = i
      · subst hmi; exact hanc k hk
      · rw [if_neg hmi] at hm2; exact h.cl m hm hm2 k hk

theorem wpAny_run (hC : CtxOk P C) {ops : Array Oper} {Q : Exit → Act → World → Prop} (hfit : fitOps ops.toList = true) (hok : ops.toList.all (okOper N) = true) (K : St → Prop) (rest : List (Nat × Oper))
    (hQ : ∀ E' st' a' w' listed', K st' → SR E' base w0 st' a' w' → a'.tmps.size = N → Left ops rest listed' → wpAnyIn (Fc r) 0 P .any ops Q rest.length listed' a' w') :
    ∀ (n : Nat) (l : List (Nat × Oper)) (listed : Array Bool) (tr : Trace) (st stf : St) (E : Env) (a : Act) (w : World), l.length = n → Left ops (l ++ rest) listed →
      (∀ y ∈ rest, ∀ x ∈ l, hasA (ancs ops.toList []) y.1 x.1 = true) →
      RunT C ops.toList l st tr stf → calm (ancs ops.toList []) tr = true → K stf → SR E base w0 st a w → a.tmps.size = N → wpAnyIn (Fc r) 0 P .any ops Q (n + rest.length) listed a w := by
  intro n
  induction n with
  | zero =>
    intro l listed tr st stf E a w hl hL hblk hr hcalm hK hS hN
    have hl0 : l = [] := List.eq_nil_of_length_eq_zero hl
    subst hl0
    cases tr with
    | cons _ _ => exact hr.elim
    | nil =>
      have e : st = stf := hr
      subst e
      rw [Nat.zero_add]
      exact hQ E st a w listed hK hS hN hL
  | succ n ih =>
    intro l listed tr st stf E a w hl hL hblk hr hcalm hK hS hN
    rw [Nat.succ_add]
    constructor
    · intro hemp
      exfalso
      match l, hl with
      | x :: l', _ =>
        have := hL.first hfit
        rw [hemp] at this
        simp at this
    · intro i hi
      obtain ⟨o', ho', ho, hanc⟩ := hL.ancs_done hfit hi
      obtain ⟨hlt, hfalse, _⟩ := (ready_spec ops listed i).1 hi
      have hin : (i, o') ∈ l := by
        rcases List.mem_append.1 ho' with h | h
        · exact h
        · exfalso
          match l, hl with
          | x :: l', _ =>
            have h1 := hanc _ (hblk _ h x (List.mem_cons_self ..))
            have h2 : x.1 < ops.size := (Array.getElem?_eq_some_iff.1 (hL.hops x (List.mem_cons_self ..))).1
            have := (hL.mem x.1 h2).2 ⟨x.2, List.mem_cons_self ..⟩
            rw [h1] at this
            cases this
      obtain ⟨l1, l2, rfl⟩ := List.append_of_mem hin
      have hL' : Left ops (l1 ++ (i, o') :: (l2 ++ rest)) listed := by simpa using hL
      obtain ⟨tr1, t, tr2, rfl, hlen, hfst⟩ := run_split l1 (i, o') l2 tr st stf hr
      obtain ⟨c1, c2⟩ := calm_mid tr1 i t tr2 hcalm
      have hun : ∀ x ∈ l1, x.1 < i ∧ listed.getD x.1 true = false := by
        intro x hx
        have hxi : x.1 < i := by
          have := (List.pairwise_append.1 hL'.sort).2.2 x hx (i, o') (List.mem_cons_self ..)
          exact this
        exact ⟨hxi, (hL'.mem x.1 (by omega)).2 ⟨x.2, List.mem_append_left _ hx⟩⟩
      have hnot : ∀ x ∈ l1, ¬ hasA (ancs ops.toList []) i x.1 = true := by
        intro x hx hk
        have := hanc _ hk
        rw [(hun x hx).2] at this
        cases this
      have hfront := run_front l1 tr1 l2 tr2 st stf hlen hr (fun x hx => by
          have hxo := hL'.hops x (List.mem_append_left _ hx)
          rcases (fit_spec hfit (i := i) (o := o') (by simpa using ho)).2 x.1 x.2 (hun x hx).1 (by simpa using hxo) with h | h
          · exact (hnot x hx h).elim
          · exact h) (fun x hx => by
          rcases c2 x hx with h | h
          · have : x.1 ∈ tr1.map (·.1) := List.mem_map_of_mem hx
            rw [hfst] at this
            obtain ⟨y, hy, hyx⟩ := List.mem_map.1 this
            exact (hnot y hy (by rw [hyx]; exact h)).elim
          · exact h)
      obtain ⟨_, st1, hstep, hrest⟩ := hfront
      have hoki : okOper N o' = true := by
        rw [List.all_eq_true] at hok
        exact hok o' (by have := List.mem_of_getElem? (show ops.toList[i]? = some o' by simpa using ho); exact this)
      refine stepT_sound hC hS hN ho hoki hstep fun E' a' w' hS' hN' => ?_
      refine ih (l1 ++ l2) (listed.setIfInBounds i true) (tr1 ++ tr2) st1 stf E' a' w' (by simp at hl ⊢; omega) (by simpa using hL'.done hanc) (fun y hy x hx => hblk y hy x ?_) hrest c1 hK hS' hN'
      rcases List.mem_append.1 hx with h | h
      · exact List.mem_append_left _ h
      · exact List.mem_append_right _ (List.mem_cons_of_mem _ h)

theorem cut_sound (hC : CtxOk P C) (hoff : w0.off = C.off) (hY : ∀ y, C.yld = some y → SoundY P base w0 y) {ops : Array Oper} {Q : Exit → Act → World → Prop} (hS : SR E base w0 st a w) (hN : a.tmps.size = N) {i : Nat} {o : Oper} (hi : ops[i]? = some o) (hok : okOper N o = true) {K : St → Prop}
    (h : evalOps C ops.toList [o] st K) {next : Act → World → Prop} (hn : ∀ E' st' a' w', K st' → SR E' base w0 st' a' w' → a'.tmps.size = N → next a' w') : wpOpIn (Fc r) 0 P ops Q i next a w := by
  have hops : ∀ j : Nat, ops.toList[j]? = ops[j]? := by simp
  have go : ∀ {st'}, SR E base w0 st' a w → run1 C st' o (fun st => evalOps C ops.toList [] st K) → Region.wanted o (yielded ops a.tmps) = true → wpOpIn (Fc r) 0 P ops Q i next a w := by
    intro st' hS' hr hw
    unfold wpOpIn
    rw [hi]
    dsimp only
    rw [if_pos hw]
    exact (run1_sound hC hoff hY hS' hN hok hr fun E' st' a' w' hk hS' hN' => hn E' st' a' w' hk hS' hN')
  have skip : ∀ {st'}, SR E base w0 st' a w → evalOps C ops.toList [] (st'.put o.dst .und) K → Region.wanted o (yielded ops a.tmps) = false → wpOpIn (Fc r) 0 P ops Q i next a w := by
    intro st' hS' hr hw
    unfold wpOpIn
    rw [hi]
    dsimp only
    rw [if_neg (by rw [hw]; simp)]
    exact ⟨fun _ _ => trivial, hn E _ _ w hr (hS'.put (by rw [hN]; exact okOper_dst hok) (.pure .und)) (by rw [put_size, hN])⟩
  simp only [evalOps, stepO] at h
  cases hg : o.guard with
  | none =>
    rw [hg] at h
    exact go hS h (by simp [Region.wanted, hg])
  | some jw =>
    obtain ⟨j, want⟩ := jw
    rw [hg] at h
    simp only [hops] at h
    cases hgd : (ops[j]?).bind Oper.dst with
    | none => rw [hgd] at h; exact h.elim
    | some g =>
      simp only [hgd] at h
      have hsl := hS.slots g
      have hwant : ∀ b, yielded ops a.tmps j = b → Region.wanted o (yielded ops a.tmps) = (b == some want) := by intro b hb; simp [Region.wanted, hg, hb]
      cases hs : st.slots g with
      | tt =>
        rw [hs] at hsl h
        have hy := hwant _ (yielded_bool hgd hsl.tt_inv)
        cases want with
        | true => exact go hS h (by rw [hy]; rfl)
        | false => exact skip hS h (by rw [hy]; rfl)
      | ff =>
        rw [hs] at hsl h
        have hy := hwant _ (yielded_bool hgd hsl.ff_inv)
        cases want with
        | true => exact skip hS h (by rw [hy]; rfl)
        | false => exact go hS h (by rw [hy]; rfl)
      | und =>
        rw [hs] at hsl h
        have hy := hwant _ (yielded_und hgd hsl.und_inv)
        exact skip hS h (by rw [hy]; rfl)
      | bool b =>
        rw [hs] at hsl h
        have hv := hsl.bool_inv
        have hy := hwant _ (yielded_bool hgd hv)
        by_cases hb : b = want
        · subst hb
          refine go (hS.set (g := g) ?_) (h.1 rfl) (by rw [hy]; simp)
          rw [hv]
          cases b
          · exact .pure .ff
          · exact .pure .tt
        · have hb' : b = !want := by cases b <;> cases want <;> simp_all
          refine skip (hS.set (g := g) ?_) (h.2 hb') (by rw [hy, hb']; cases want <;> rfl)
          rw [hv, hb']
          cases want
          · exact .pure .tt
          · exact .pure .ff
      | _ => rw [hs] at h; exact h.elim

theorem findCut_spec {an : List Nat} : ∀ (l pre p : List (Nat × Oper)) (x : Nat × Oper) (q : List (Nat × Oper)), findCut an pre l = some (p, x, q) → pre ++ l = p ++ x :: q ∧ cutOk an p x.1 q = true
  | [], pre, p, x, q, h => by cases h
  | y :: l, pre, p, x, q, h => by
    simp only [findCut] at h
    cases hb : isCall y.2.op && cutOk an pre y.1 l with
    | true =>
      rw [hb] at h
      simp only [cond_true, Option.some.injEq, Prod.mk.injEq] at h
      obtain ⟨rfl, rfl, rfl⟩ := h
      rw [Bool.and_eq_true] at hb
      exact ⟨rfl, hb.2⟩
    | false =>
      rw [hb] at h
      have := findCut_spec l (pre ++ [y]) p x q h
      exact ⟨by simpa using this.1, this.2⟩

theorem evalDs_sound' (hC : CtxOk P C) (hoff : w0.off = C.off) (hY : ∀ y, C.yld = some y → SoundY P base w0 y) {ops : Array Oper} {Q : Exit → Act → World → Prop} (hfit : fitOps ops.toList = true) (hok : ops.toList.all (okOper N) = true) (K : St → Prop)
    (hQ : ∀ E' st' a' w', K st' → SR E' base w0 st' a' w' → a'.tmps.size = N → Q .normal a' w') : ∀ (n : Nat) (l : List (Nat × Oper)) (listed : Array Bool) (st : St) (E : Env) (a : Act) (w : World), Left ops l listed →
      evalDs C ops.toList (ancs ops.toList []) n l st K → SR E base w0 st a w → a.tmps.size = N → wpAnyIn (Fc r) 0 P .any ops Q l.length listed a w := by
  have plain : ∀ (l : List (Nat × Oper)) (listed : Array Bool) (st : St) (E : Env) (a : Act) (w : World), Left ops l listed → evalD C ops.toList (ancs ops.toList []) l st [] K → SR E base w0 st a w → a.tmps.size = N → wpAnyIn (Fc r) 0 P .any ops Q l.length listed a w := by
    intro l listed st E a w hL h hS hN
    obtain ⟨tr, stf, h1, h2, h3⟩ := evalD_run _ _ _ _ h
    have := wpAny_run (r := r) hC hfit hok K [] (Q := Q) (fun E' st' a' w' listed' hk hS' hN' hL' => ⟨List.eq_nil_iff_forall_not_mem.2 fun i hi => by obtain ⟨o, ho, _⟩ := hL'.ancs_done hfit hi; simp at ho, hQ E' st' a' w' hk hS' hN'⟩)
      l.length l listed tr st stf E a w rfl (by simpa using hL) (by simp) h1 (calm_filter tr (by simpa using h2)) h3 hS hN
    simpa using this
  intro n
  induction n with
  | zero => intro l listed st E a w hL h hS hN; exact plain l listed st E a w hL h hS hN
  | succ n ih =>
    intro l listed st E a w hL h hS hN
    simp only [evalDs] at h
    cases hf : findCut (ancs ops.toList []) [] l with
    | none => rw [hf] at h; exact plain l listed st E a w hL h hS hN
    | some y =>
      obtain ⟨p, x, q⟩ := y
      rw [hf] at h
      simp only at h
      obtain ⟨e, hcut⟩ := findCut_spec l [] p x q hf
      rw [List.nil_append] at e
      subst e
      simp only [cutOk, Bool.and_eq_true, List.all_eq_true] at hcut
      obtain ⟨tr, stf, h1, h2, h3⟩ := evalD_run _ _ _ _ h
      have := wpAny_run (r := r) hC hfit hok (fun st => evalOps C ops.toList [x.2] st fun st => evalDs C ops.toList (ancs ops.toList []) n q st K) (x :: q) (Q := Q) (fun E' st' a' w' listed' hk hS' hN' hL' => ?_) p.length p listed tr st stf E a w rfl hL (fun y hy z hz => ?_) h1 (calm_filter tr (by simpa using h2)) h3 hS hN
      · simpa using this
      · have hfirst := hL'.first hfit
        refine ⟨fun hemp => (by rw [hemp] at hfirst; simp at hfirst), fun i hi => ?_⟩
        obtain ⟨o, ho, hoi, hanc⟩ := hL'.ancs_done hfit hi
        have hix : (i, o) = x := by
          rcases List.mem_cons.1 ho with h' | h'
          · exact h'
          · exfalso
            have h5 := hanc _ (hcut.2 _ h').1
            have h6 : x.1 < ops.size := (Array.getElem?_eq_some_iff.1 (hL'.hops x (List.mem_cons_self ..))).1
            have := (hL'.mem x.1 h6).2 ⟨x.2, List.mem_cons_self ..⟩
            rw [h5] at this
            cases this
        subst hix
        have hoki : okOper N o = true := by
          rw [List.all_eq_true] at hok
          exact hok o (by have := List.mem_of_getElem? (show ops.toList[i]? = some o by simpa using hoi); exact this)
        refine cut_sound hC hoff hY hS' hN' hoi hoki hk fun E2 st2 a2 w2 hk2 hS2 hN2 => ?_
        exact ih q _ st2 E2 a2 w2 (by simpa using Left.done (l1 := []) hL' hanc) hk2 hS2 hN2
      · rcases List.mem_cons.1 hy with rfl | h'
        · exact hcut.1 z hz
        · exact (hcut.2 y h').2 z hz

theorem left_all (ops : Array Oper) : Left ops (ops.toList.zipIdx.map fun (o, i) => (i, o)) (Array.replicate ops.size false) := by
  have hmem : ∀ (i : Nat) (o : Oper), (i, o) ∈ ops.toList.zipIdx.map (fun (o, i) => (i, o)) ↔ ops[i]? = some o := by
    intro i o
    simp only [List.mem_map, Prod.exists, Prod.mk.injEq]
    constructor
    · rintro ⟨o', i', hx, rfl, rfl⟩
      simpa using List.mem_zipIdx_iff_getElem?.1 hx
    · intro hx
      exact ⟨o, i, List.mem_zipIdx_iff_getElem?.2 (by simpa using hx), rfl, rfl⟩
  refine ⟨by simp, fun i hi => ?_, fun x hx => (hmem x.1 x.2).1 hx, ?_, fun m hm hm2 => ?_⟩
  · simp only [Array.getD, Array.size_replicate, hi, dif_pos]
    simp only [hmem]
    simp [hi]
  · rw [List.pairwise_map]
    rw [List.pairwise_iff_getElem]
    intro i j hi hj hij
    simp
    exact hij
  · simp [Array.getD, hm] at hm2

theorem evalDs_sound (hC : CtxOk P C) (hoff : w0.off = C.off) (hY : ∀ y, C.yld = some y → SoundY P base w0 y) (hm : P.follows .mixedOrders = true) {id : Nat} {ops : Array Oper} {Q : Exit → Act → World → Prop} (hS : SR E base w0 st a w) (hN : a.tmps.size = N) (hfit : fitOps ops.toList = true) (hok : ops.toList.all (okOper N) = true) {K : St → Prop}
    (h : evalDs C ops.toList (ancs ops.toList []) ops.toList.length (ops.toList.zipIdx.map fun (o, i) => (i, o)) st K) (hQ : ∀ E' st' a' w', K st' → SR E' base w0 st' a' w' → a'.tmps.size = N → Q .normal a' w') : (Code.region id ops true).wpIn (Fc r) 0 P Q a w := by
  refine wpIn_region_any hm ?_
  have hmem : ∀ (i : Nat) (o : Oper), (i, o) ∈ ops.toList.zipIdx.map (fun (o, i) => (i, o)) ↔ ops[i]? = some o := by
    intro i o
    simp only [List.mem_map, Prod.exists, Prod.mk.injEq]
    constructor
    · rintro ⟨o', i', hx, rfl, rfl⟩
      simpa using List.mem_zipIdx_iff_getElem?.1 hx
    · intro hx
      exact ⟨o, i, List.mem_zipIdx_iff_getElem?.2 (by simpa using hx), rfl, rfl⟩
  have hL : Left ops (ops.toList.zipIdx.map fun (o, i) => (i, o)) (Array.replicate ops.size false) := by
    refine ⟨by simp, fun i hi => ?_, fun x hx => (hmem x.1 x.2).1 hx, ?_, fun m hm hm2 => ?_⟩
    · simp only [Array.getD, Array.size_replicate, hi, dif_pos]
      simp only [hmem]
      simp [hi]
    · rw [List.pairwise_map]
      rw [List.pairwise_iff_getElem]
      intro i j hi hj hij
      simp
      exact hij
    · simp [Array.getD, hm] at hm2
  have := evalDs_sound' (r := r) hC hoff hY hfit hok K hQ ops.toList.length _ _ st E a _ hL h (hS.drawn (w.drawn + 1)) hN
  simpa using this

end
end Go.V

/- Part 7b: ways that guards open, told as one. -/
namespace Go.V

theorem beqB_eq {a b : Bool} : beqB a b = true ↔ a = b := by cases a <;> cases b <;> simp [beqB]
theorem underL_iff : ∀ {ls : Lits} {p : Prop}, underL ls p ↔ (litsP ls → p)
  | [], p => by simp [underL, litsP]
  | (g, w, b) :: r, p => by
    simp only [underL, litsP, underL_iff (ls := r)]
    exact ⟨fun h h' => h h'.2 h'.1, fun h h1 h2 => h ⟨h2, h1⟩⟩

def LitOk (s : Nat → PV) : Lits → Prop
  | [] => True
  | (g, _, b) :: r => LitOk s r ∧ (litsP r → s g = .bool b)

theorem lit_mem {s : Nat → PV} : ∀ {ls : Lits}, LitOk s ls → litsP ls → ∀ y ∈ ls, y.2.2 = y.2.1 ∧ s y.1 = .bool y.2.2
  | [], _, _, y, hy => by simp at hy
  | (g, w, b) :: r, ⟨h1, h2⟩, ⟨h3, h4⟩, y, hy => by
    rcases List.mem_cons.1 hy with rfl | hy
    · exact ⟨h3, h2 h4⟩
    · exact lit_mem h1 h4 y hy

theorem sub_ok {s : Nat → PV} {l2 : Lits} (h2 : LitOk s l2) (hp : litsP l2) : ∀ {l1 : Lits}, LitOk s l1 → subL l1 l2 = true → litsP l1
  | [], _, _ => trivial
  | (g, w, b) :: r, ⟨h1, h3⟩, hs => by
    simp only [subL, List.all_cons, Bool.and_eq_true] at hs
    have hr : litsP r := sub_ok h2 hp h1 hs.2
    refine ⟨?_, hr⟩
    have hb := h3 hr
    obtain ⟨y, hy, hq⟩ := List.any_eq_true.1 hs.1
    rw [Bool.and_eq_true, beqB_eq] at hq
    have e1 : g = y.1 := Nat.eq_of_beq_eq_true hq.1
    have e2 : w = y.2.1 := hq.2
    obtain ⟨g1, g2⟩ := lit_mem h2 hp y hy
    rw [← e1, hb] at g2
    cases g2
    rw [e2]
    exact g1

structure Real (r st : St) (sh : ShM) : Prop where
  bl : r.blocks = st.blocks
  out : ∀ n, look sh n = none → r.slots n = st.slots n
  yes : ∀ n ls v, look sh n = some (ls, v) → litsP ls → r.slots n = v
  no : ∀ n ls v, look sh n = some (ls, v) → ¬ litsP ls → r.slots n = .und
  jnk : ∀ n ls v, look sh n = some (ls, v) → st.slots n = .junk
  lit : ∀ x ∈ sh, LitOk r.slots x.2.1

theorem look_mem {α : Type} : ∀ {l : List (Nat × α)} {n : Nat} {a : α}, look l n = some a → (n, a) ∈ l
  | [], n, a, h => by cases h
  | (m, b) :: l, n, a, h => by
    simp only [look] at h
    cases hb : Nat.beq m n with
    | true =>
      rw [hb] at h
      obtain rfl := Nat.eq_of_beq_eq_true hb
      simp at h
      subst h
      exact List.mem_cons_self ..
    | false =>
      rw [hb] at h
      exact List.mem_cons_of_mem _ (look_mem h)

theorem Real.lits {r st : St} {sh : ShM} (h : Real r st sh) {n : Nat} {ls : Lits} {v : PV} (hl : look sh n = some (ls, v)) : LitOk r.slots ls := h.lit _ (look_mem hl)

theorem seen_real {r st : St} {sh : ShM} (h : Real r st sh) {ls : Lits} (hl : LitOk r.slots ls) (hp : litsP ls) {x : Operand} (hv : visX sh ls x = true) : ev (seen st sh ls) x = ev r.slots x := by
  cases x with
  | tmp t =>
    simp only [visX, tmpOf] at hv
    simp only [ev, seen]
    cases hs : look sh t with
    | none => exact (h.out t hs).symm
    | some y =>
      obtain ⟨l2, v⟩ := y
      rw [hs] at hv
      have hv : subL l2 ls = true := hv
      simp only [hv, cond_true]
      exact (h.yes t l2 v hs (sub_ok hl hp (h.lits hs) hv)).symm
  | _ => rfl

theorem fresh_spec {sh : ShM} {ls : Lits} {d : Nat} (h : freshM sh ls d = true) : look sh d = none ∧ (∀ x ∈ sh, x.1 ≠ d ∧ ∀ y ∈ x.2.1, y.1 ≠ d) ∧ ∀ y ∈ ls, y.1 ≠ d := by
  simp only [freshM, Bool.and_eq_true, Bool.not_eq_true'] at h
  have h1 : ∀ x ∈ sh, x.1 ≠ d ∧ ∀ y ∈ x.2.1, y.1 ≠ d := by
    intro x hx
    have := List.any_eq_false.1 h.1 x hx
    simp only [Bool.or_eq_true, not_or, Bool.not_eq_true] at this
    refine ⟨fun e => ?_, fun y hy e => ?_⟩
    · rw [e] at this; simp at this
    · have := List.any_eq_false.1 this.2 y hy
      rw [e] at this; simp at this
  refine ⟨?_, h1, fun y hy e => ?_⟩
  · cases hl : look sh d with
    | none => rfl
    | some a => exact ((h1 _ (look_mem hl)).1 rfl).elim
  · have := List.any_eq_false.1 h.2 y hy
    rw [e] at this; simp at this

theorem LitOk.congr {s s' : Nat → PV} : ∀ {ls : Lits}, LitOk s ls → (∀ y ∈ ls, s' y.1 = s y.1) → LitOk s' ls
  | [], _, _ => trivial
  | (g, w, b) :: r, ⟨h1, h2⟩, h => ⟨h1.congr fun y hy => h y (List.mem_cons_of_mem _ hy), fun hp => by rw [h (g, w, b) (List.mem_cons_self ..)]; exact h2 hp⟩

theorem upd_get {α : Type} (f : Nat → α) (d n : Nat) (v : α) : upd f d v n = if n = d then v else f n := by
  by_cases h : n = d
  · subst h; simp [upd]
  · rw [if_neg h]
    simp only [upd]
    have : Nat.beq n d = false := by
      rw [Bool.eq_false_iff]
      exact fun e => h (Nat.eq_of_beq_eq_true e)
    rw [this]; rfl

theorem Real.put {r st : St} {sh : ShM} (h : Real r st sh) {bl bl' : Nat → Blk} (hb : bl = bl') {d : Option Nat} {v : PV} (hf : (!d.any fun d => !freshM sh [] d) = true) :
    Real (St.put { slots := r.slots, blocks := bl } d v) (St.put { slots := st.slots, blocks := bl' } d v) sh := by
  subst hb
  cases d with
  | none => exact ⟨rfl, h.out, h.yes, h.no, h.jnk, h.lit⟩
  | some d =>
    have hf : freshM sh [] d = true := by simpa using hf
    obtain ⟨h1, h2, _⟩ := fresh_spec hf
    have hne : ∀ n y, look sh n = some y → n ≠ d := by
      rintro n y hy rfl
      rw [h1] at hy; cases hy
    refine ⟨rfl, fun n hn => ?_, fun n ls u hl hp => ?_, fun n ls u hl hp => ?_, fun n ls u hl => ?_, fun x hx => ?_⟩
    · simp only [St.put, upd_get]
      split
      · rfl
      · exact h.out n hn
    · simp only [St.put, upd_get, if_neg (hne n _ hl)]; exact h.yes n ls u hl hp
    · simp only [St.put, upd_get, if_neg (hne n _ hl)]; exact h.no n ls u hl hp
    · simp only [St.put, upd_get, if_neg (hne n _ hl)]; exact h.jnk n ls u hl
    · exact (h.lit x hx).congr fun y hy => by simp only [St.put, upd_get, if_neg ((h2 x hx).2 y hy)]

theorem Real.shade {r st : St} {sh : ShM} (h : Real r st sh) {ls : Lits} (hl : LitOk r.slots ls) {d : Nat} {v u : PV} (hf : freshM sh ls d = true) (h1 : litsP ls → u = v) (h2 : ¬ litsP ls → u = .und) :
    Real (St.put { slots := r.slots, blocks := r.blocks } (some d) u) (st.put (some d) .junk) ((d, ls, v) :: sh) := by
  obtain ⟨g1, g2, g3⟩ := fresh_spec hf
  have hlk : ∀ n, look ((d, ls, v) :: sh) n = if n = d then some (ls, v) else look sh n := by
    intro n
    simp only [look]
    by_cases hn : n = d
    · subst hn; simp
    · rw [if_neg hn]
      have : Nat.beq d n = false := by
        rw [Bool.eq_false_iff]
        exact fun e => hn (Nat.eq_of_beq_eq_true e).symm
      rw [this]; rfl
  have hcong : ∀ {l2 : Lits}, LitOk r.slots l2 → (∀ y ∈ l2, y.1 ≠ d) → LitOk (upd r.slots d u) l2 := fun hl hne => hl.congr fun y hy => by rw [upd_get, if_neg (hne y hy)]
  refine ⟨h.bl, fun n hn => ?_, fun n l2 u' hk hp => ?_, fun n l2 u' hk hp => ?_, fun n l2 u' hk => ?_, fun x hx => ?_⟩
  · rw [hlk] at hn
    split at hn
    · cases hn
    · rename_i hnd
      simp only [St.put, upd_get, if_neg hnd]
      exact h.out n hn
  · rw [hlk] at hk
    simp only [St.put, upd_get]
    split at hk
    · rename_i hnd
      cases hk
      rw [if_pos hnd]
      exact h1 hp
    · rename_i hnd
      rw [if_neg hnd]
      exact h.yes n l2 u' hk hp
  · rw [hlk] at hk
    simp only [St.put, upd_get]
    split at hk
    · rename_i hnd
      cases hk
      rw [if_pos hnd]
      exact h2 hp
    · rename_i hnd
      rw [if_neg hnd]
      exact h.no n l2 u' hk hp
  · rw [hlk] at hk
    simp only [St.put, upd_get]
    split at hk
    · rename_i hnd
      rw [if_pos hnd]
    · rename_i hnd
      rw [if_neg hnd]
      exact h.jnk n l2 u' hk
  · rcases List.mem_cons.1 hx with rfl | hx
    · exact hcong hl g3
    · exact hcong (h.lit x hx) (g2 x hx).2

theorem calm_sub {an : List Nat} : ∀ {a b : Trace}, List.Sublist a b → calm an b = true → calm an a = true
  | _, _, .slnil, _ => rfl
  | _, _, .cons x hs, h => by
    simp only [calm, Bool.and_eq_true] at h
    exact calm_sub hs h.2
  | _, _, .cons_cons x hs, h => by
    simp only [calm, Bool.and_eq_true, List.all_eq_true] at h ⊢
    exact ⟨fun y hy => h.1 y (hs.subset hy), calm_sub hs h.2⟩

section
variable {C : Ctx}

theorem touch_seen {r st : St} {sh : ShM} {ls : Lits} {d : Nat} {op : Op} (h : Real r st sh) (hl : LitOk r.slots ls) (hp : litsP ls) (hv : op.operands.toList.all (visX sh ls) = true) : touch (ev (seen st sh ls)) d op = touch (ev r.slots) d op := by
  refine touch_congr fun x hx => ?_
  rw [List.all_eq_true] at hv
  exact seen_real h hl hp (hv x hx)

theorem und_bool {r st : St} {sh : ShM} (h : Real r st sh) {ls : Lits} {g : Nat} {bc w : Bool} {x : Operand} (hv : visX sh ((g, w, bc) :: ls) x = true) {y : Bool} (hy : boolOf (ev (seen st sh ((g, w, bc) :: ls)) x) = some y) :
    boolOf (ev r.slots x) = none ∨ boolOf (ev r.slots x) = some y := by
  cases x with
  | tmp t =>
    simp only [visX, tmpOf] at hv
    simp only [ev, seen] at hy ⊢
    cases hs : look sh t with
    | none => rw [hs] at hy; rw [h.out t hs]; exact .inr hy
    | some z =>
      obtain ⟨l2, v⟩ := z
      rw [hs] at hv hy
      have hv : subL l2 ((g, w, bc) :: ls) = true := hv
      simp only [hv, cond_true] at hy
      by_cases hl2 : litsP l2
      · rw [h.yes t l2 v hs hl2]; exact .inr hy
      · rw [h.no t l2 v hs hl2]; exact .inl rfl
  | _ => exact .inr hy

theorem opM_ok {r st : St} {sh : ShM} {ls : Lits} {d ty : Nat} {op : Op} (h : Real r st sh) (hl : LitOk r.slots ls) (hp : litsP ls) (hpre : (opM C st sh ls d ty op).pre.getD True) :
    (evalOp C (ev r.slots) r.blocks d ty op).pre.getD True ∧ (evalOp C (ev r.slots) r.blocks d ty op).val = (opM C st sh ls d ty op).val ∧ (evalOp C (ev r.slots) r.blocks d ty op).upd = (opM C st sh ls d ty op).upd ∧
    touch (ev (seen st sh ls)) d op = touch (ev r.slots) d op := by
  by_cases hpk : ∃ c a b, op = .pick c a b
  · obtain ⟨c, a, b, rfl⟩ := hpk
    refine (fun h : _ ∧ _ ∧ _ => ⟨h.1, h.2.1, h.2.2, rfl⟩) ?_
    simp only [opM] at hpre ⊢
    cases hvc : visX sh ls c with
    | false => rw [hvc] at hpre; exact hpre.elim
    | true =>
      rw [hvc] at hpre
      simp only [cond_true] at hpre ⊢
      have ec := seen_real h hl hp hvc
      simp only [evalOp]
      rw [← ec]
      cases hc : ev (seen st sh ls) c with
      | tt =>
        rw [hc] at hpre
        simp only at hpre ⊢
        cases hva : visX sh ls a with
        | false => rw [hva] at hpre; exact hpre.elim
        | true => simp only [cond_true, R.ok, seen_real h hl hp hva]; simp
      | ff =>
        rw [hc] at hpre
        simp only at hpre ⊢
        cases hvb : visX sh ls b with
        | false => rw [hvb] at hpre; exact hpre.elim
        | true => simp only [cond_true, R.ok, seen_real h hl hp hvb]; simp
      | bool bc =>
        rw [hc] at hpre
        simp only at hpre ⊢
        cases ht : tmpOf c with
        | none => rw [ht] at hpre; exact hpre.elim
        | some g =>
          rw [ht] at hpre
          simp only at hpre ⊢
          have hcg : c = .tmp g := by cases c <;> simp [tmpOf] at ht; subst ht; rfl
          have hg : r.slots g = .bool bc := by rw [hc, hcg] at ec; exact ec.symm
          cases hv : visX sh ((g, true, bc) :: ls) a && visX sh ((g, false, bc) :: ls) b with
          | false => rw [hv] at hpre; exact hpre.elim
          | true =>
            rw [hv] at hpre
            rw [Bool.and_eq_true] at hv
            simp only [cond_true] at hpre ⊢
            cases h1 : boolOf (ev (seen st sh ((g, true, bc) :: ls)) a) with
            | none => rw [h1] at hpre; exact hpre.elim
            | some x =>
              cases h2 : boolOf (ev (seen st sh ((g, false, bc) :: ls)) b) with
              | none => rw [h1, h2] at hpre; exact hpre.elim
              | some y =>
                simp only [R.ok]
                cases bc with
                | true =>
                  have e1 := seen_real h (ls := (g, true, true) :: ls) ⟨hl, fun _ => hg⟩ ⟨rfl, hp⟩ hv.1
                  rw [e1] at h1
                  rcases und_bool h (w := false) hv.2 h2 with e2 | e2
                  · simp only [h1, e2]; simp
                  · simp only [h1, e2]; simp
                | false =>
                  have e1 := seen_real h (ls := (g, false, false) :: ls) ⟨hl, fun _ => hg⟩ ⟨rfl, hp⟩ hv.2
                  rw [e1] at h2
                  rcases und_bool h (w := true) hv.1 h1 with e2 | e2
                  · simp only [h2, e2]; simp
                  · simp only [h2, e2]; simp
      | _ => rw [hc] at hpre; exact hpre.elim
  · have hnp : ∀ c a b, op ≠ .pick c a b := fun c a b e => hpk ⟨c, a, b, e⟩
    have e : opM C st sh ls d ty op = bif op.operands.toList.all (visX sh ls) then evalOp C (ev (seen st sh ls)) st.blocks d ty op else .bad := by
      cases op with
      | pick c a b => exact (hnp c a b rfl).elim
      | _ => rfl
    rw [e] at hpre ⊢
    cases hv : op.operands.toList.all (visX sh ls) with
    | false => rw [hv] at hpre; exact hpre.elim
    | true =>
      rw [hv] at hpre
      simp only [cond_true] at hpre ⊢
      have hv' := hv
      rw [List.all_eq_true] at hv'
      have e2 : evalOp C (ev (seen st sh ls)) st.blocks d ty op = evalOp C (ev r.slots) r.blocks d ty op := evalOp_congr (fun x hx => seen_real h hl hp (hv' x hx)) fun s _ => by rw [h.bl]
      rw [e2] at hpre ⊢
      exact ⟨hpre, rfl, rfl, touch_seen h hl hp hv⟩
end
end Go.V

/- Part 7c: a run of the ways told as one is a run of each. -/
namespace Go.V
open Go.RowKit (Below)

section
variable {C : Ctx}

noncomputable def litB (ls : Lits) : Bool := @decide (litsP ls) (Classical.propDecidable _)
theorem litB_t {ls : Lits} (h : litsP ls) : litB ls = true := @decide_eq_true _ (Classical.propDecidable _) h
theorem litB_f {ls : Lits} (h : ¬ litsP ls) : litB ls = false := @decide_eq_false _ (Classical.propDecidable _) h

theorem SLe_real {r st : St} {sh : ShM} (h : Real r st sh) : SLe r st := by
  refine ⟨fun n => ?_, fun s => by rw [h.bl]; exact .refl _⟩
  cases hl : look sh n with
  | none => rw [h.out n hl]; exact .refl _
  | some y => obtain ⟨ls, v⟩ := y; rw [h.jnk n ls v hl]; exact .junk _

theorem evalM_run {ops : List Oper} {an : List Nat} : ∀ (l : List (Nat × Oper)) (r st : St) (sh : ShM) (tr : Trace) (k : St → Prop), Real r st sh → evalM C ops an l st sh tr k →
    ∃ tr' stf full, RunT C ops l r tr' stf ∧ calm an full = true ∧ (tr ++ tr'.filter fun x => x.2.1.isSome).Sublist full ∧ ∃ st', SLe stf st' ∧ k st'
  | [], r, st, sh, tr, k, hR, h => ⟨[], r, tr, rfl, h.1, by simp, st, SLe_real hR, h.2⟩
  | (i, o) :: rest, r, st, sh, tr, k, hR, h => by
    have skip : active ops r o = some false → ((!o.dst.any fun d => !freshM sh [] d) = true ∧ evalM C ops an rest (st.put o.dst .und) sh tr k) →
        ∃ tr' stf full, RunT C ops ((i, o) :: rest) r tr' stf ∧ calm an full = true ∧ (tr ++ tr'.filter fun x => x.2.1.isSome).Sublist full ∧ ∃ st', SLe stf st' ∧ k st' := by
      rintro ha ⟨hf, hk⟩
      obtain ⟨tr', stf, full, g1, g2, g3, g4⟩ := evalM_run rest (r.put o.dst .und) (st.put o.dst .und) sh tr k (hR.put hR.bl hf) hk
      exact ⟨(i, none, false) :: tr', stf, full, ⟨rfl, _, .inr ⟨ha, rfl, rfl⟩, g1⟩, g2, by simpa [List.filter_cons] using g3, g4⟩
    have go : ∀ ls : Lits, LitOk r.slots ls → active ops r o = some (litB ls) →
        ((!o.dst.any fun d => !freshM sh ls d) = true ∧
        match ls, opM C st sh ls (o.dst.getD 0 + C.off) o.type o.op with
        | [], ⟨none, v, none⟩ => frc3 v fun v => evalM C ops an rest (st.put o.dst v) sh (match touch (ev (seen st sh ls)) (o.dst.getD 0 + C.off) o.op with | none => tr | some s => tr ++ [(i, some s, touches o.op)]) k
        | [], ⟨some p, v, none⟩ => p ∧ frc3 v fun v => evalM C ops an rest (st.put o.dst v) sh (match touch (ev (seen st sh ls)) (o.dst.getD 0 + C.off) o.op with | none => tr | some s => tr ++ [(i, some s, touches o.op)]) k
        | [], ⟨none, v, some (s, b)⟩ => frc3 v fun v => frcB b fun b => evalM C ops an rest (St.put { slots := st.slots, blocks := upd st.blocks s b } o.dst v) sh (match touch (ev (seen st sh ls)) (o.dst.getD 0 + C.off) o.op with | none => tr | some s => tr ++ [(i, some s, touches o.op)]) k
        | [], ⟨some p, v, some (s, b)⟩ => p ∧ frc3 v fun v => frcB b fun b => evalM C ops an rest (St.put { slots := st.slots, blocks := upd st.blocks s b } o.dst v) sh (match touch (ev (seen st sh ls)) (o.dst.getD 0 + C.off) o.op with | none => tr | some s => tr ++ [(i, some s, touches o.op)]) k
        | l :: ls', ⟨p, v, none⟩ =>
          match o.dst with
          | some d => (match p with | none => True | some p => underL (l :: ls') p) ∧ frc3 v fun v => evalM C ops an rest (st.put (some d) .junk) ((d, l :: ls', v) :: sh) (match touch (ev (seen st sh ls)) (o.dst.getD 0 + C.off) o.op with | none => tr | some s => tr ++ [(i, some s, touches o.op)]) k
          | none => False
        | _ :: _, ⟨_, _, some _⟩ => False) →
        ∃ tr' stf full, RunT C ops ((i, o) :: rest) r tr' stf ∧ calm an full = true ∧ (tr ++ tr'.filter fun x => x.2.1.isSome).Sublist full ∧ ∃ st', SLe stf st' ∧ k st' := by
      rintro ls hl ha ⟨hf, hm⟩
      -- what is behind it
      have fin : ∀ (st1 : St) (sh1 : ShM) (r1 : St) (ac : Bool), Real r1 st1 sh1 →
          evalM C ops an rest st1 sh1 (match touch (ev (seen st sh ls)) (o.dst.getD 0 + C.off) o.op with | none => tr | some s => tr ++ [(i, some s, touches o.op)]) k →
          (ac = true → StepT C ops o r (touch (ev (seen st sh ls)) (o.dst.getD 0 + C.off) o.op, touches o.op) r1) → (ac = false → StepT C ops o r (none, false) r1) →
          ∃ tr' stf full, RunT C ops ((i, o) :: rest) r tr' stf ∧ calm an full = true ∧ (tr ++ tr'.filter fun x => x.2.1.isSome).Sublist full ∧ ∃ st', SLe stf st' ∧ k st' := by
        intro st1 sh1 r1 ac hR1 hk h1 h2
        obtain ⟨tr', stf, full, g1, g2, g3, g4⟩ := evalM_run rest r1 st1 sh1 _ k hR1 hk
        cases ac with
        | true =>
          refine ⟨(i, touch (ev (seen st sh ls)) (o.dst.getD 0 + C.off) o.op, touches o.op) :: tr', stf, full, ⟨rfl, _, h1 rfl, g1⟩, g2, ?_, g4⟩
          cases ht : touch (ev (seen st sh ls)) (o.dst.getD 0 + C.off) o.op with
          | none => rw [ht] at g3; simpa [List.filter_cons] using g3
          | some s => rw [ht] at g3; simpa [List.filter_cons] using g3
        | false =>
          refine ⟨(i, none, false) :: tr', stf, full, ⟨rfl, _, h2 rfl, g1⟩, g2, ?_, g4⟩
          refine List.Sublist.trans ?_ g3
          simp only [List.filter_cons, Option.isSome_none, Bool.false_eq_true, if_false]
          cases touch (ev (seen st sh ls)) (o.dst.getD 0 + C.off) o.op with
          | none => exact .refl _
          | some s => exact List.Sublist.append (List.sublist_append_left _ _) (.refl _)
      cases ls with
      | nil =>
        have ha' : active ops r o = some true := by rw [ha, litB_t (ls := []) trivial]
        have key : (opM C st sh [] (o.dst.getD 0 + C.off) o.type o.op).pre.getD True → evalM C ops an rest ((st.setB (opM C st sh [] (o.dst.getD 0 + C.off) o.type o.op).upd).put o.dst (opM C st sh [] (o.dst.getD 0 + C.off) o.type o.op).val) sh (match touch (ev (seen st sh [])) (o.dst.getD 0 + C.off) o.op with | none => tr | some s => tr ++ [(i, some s, touches o.op)]) k →
            ∃ tr' stf full, RunT C ops ((i, o) :: rest) r tr' stf ∧ calm an full = true ∧ (tr ++ tr'.filter fun x => x.2.1.isSome).Sublist full ∧ ∃ st', SLe stf st' ∧ k st' := by
          intro hp hk
          obtain ⟨e1, e2, e3, e4⟩ := opM_ok (C := C) hR (ls := []) trivial trivial hp
          refine fin _ sh ((r.setB (opM C st sh [] (o.dst.getD 0 + C.off) o.type o.op).upd).put o.dst (opM C st sh [] (o.dst.getD 0 + C.off) o.type o.op).val) true ?_ hk (fun _ => .inl ⟨ha', e1, by rw [e4], by rw [e2, e3]⟩) (fun h => by cases h)
          rw [setB_eq, setB_eq]
          exact hR.put (by rw [hR.bl]) hf
        revert hm key
        generalize opM C st sh [] (o.dst.getD 0 + C.off) o.type o.op = R1
        obtain ⟨p, v, u⟩ := R1
        intro hm key
        cases p <;> cases u <;> simp only [frc3_eq, frcB_eq] at hm
        · exact key trivial hm
        · exact key trivial hm
        · exact key hm.1 hm.2
        · exact key hm.1 hm.2
      | cons l ls =>
        cases hR1 : opM C st sh (l :: ls) (o.dst.getD 0 + C.off) o.type o.op with
        | mk p v u =>
          rw [hR1] at hm
          cases u with
          | some u => exact hm.elim
          | none =>
            simp only at hm
            cases hd : o.dst with
            | none => rw [hd] at hm; exact hm.elim
            | some d =>
              have hf' : freshM sh (l :: ls) d = true := by rw [hd] at hf; simpa using hf
              rw [hd] at hm
              simp only [frc3_eq] at hm
              obtain ⟨hp, hk⟩ := hm
              by_cases hlp : litsP (l :: ls)
              · have hpre : (opM C st sh (l :: ls) (o.dst.getD 0 + C.off) o.type o.op).pre.getD True := by
                  rw [hR1]
                  cases p with
                  | none => trivial
                  | some p => exact underL_iff.1 hp hlp
                obtain ⟨e1, e2, e3, e4⟩ := opM_ok (C := C) hR hl hlp hpre
                rw [hR1] at e2 e3
                rw [litB_t hlp] at ha
                refine fin _ _ (St.put { slots := r.slots, blocks := r.blocks } (some d) v) true (hR.shade hl hf' (fun _ => rfl) fun h => (h hlp).elim) (by rw [hd]; exact hk) (fun _ => .inl ⟨ha, e1, by rw [e4], ?_⟩) (fun h => by cases h)
                rw [e2, e3, hd]
                rfl
              · rw [litB_f hlp] at ha
                refine fin _ _ (St.put { slots := r.slots, blocks := r.blocks } (some d) .und) false (hR.shade hl hf' (fun h => (hlp h).elim) fun _ => rfl) (by rw [hd]; exact hk) (fun h => by cases h) fun _ => .inr ⟨ha, rfl, ?_⟩
                rw [hd]
    simp only [evalM, stepM] at h
    cases hg : o.guard with
    | none =>
      rw [hg] at h
      exact go [] trivial (by rw [litB_t (ls := []) trivial]; simp [active, hg]) h
    | some jw =>
      obtain ⟨j, want⟩ := jw
      rw [hg] at h
      simp only at h
      cases hd : (ops[j]?).bind Oper.dst with
      | none => rw [hd] at h; exact h.elim
      | some g =>
        rw [hd] at h
        simp only at h
        have hact : active ops r o = match r.slots g with | .tt => some want | .ff => some (!want) | .und => some false | .bool b => some (b == want) | _ => none := by
          simp only [active, hg, hd] <;> cases r.slots g <;> rfl
        cases hs : look sh g with
        | some y =>
          obtain ⟨l2, v⟩ := y
          rw [hs] at h
          cases v with
          | bool b =>
            simp only at h
            refine go ((g, want, b) :: l2) ⟨hR.lits hs, fun hp => hR.yes g l2 _ hs hp⟩ ?_ h
            rw [hact]
            by_cases hp : litsP l2
            · rw [hR.yes g l2 _ hs hp]
              by_cases hb : b = want
              · rw [litB_t (ls := (g, want, b) :: l2) ⟨hb, hp⟩]; simp [hb]
              · rw [litB_f (ls := (g, want, b) :: l2) fun h => hb h.1]; simp [hb]
            · rw [hR.no g l2 _ hs hp, litB_f (ls := (g, want, b) :: l2) fun h => hp h.2]
          | _ => exact h.elim
        | none =>
          rw [hs] at h
          simp only at h
          have hout := hR.out g hs
          rw [hout] at hact
          cases hv : st.slots g with
          | tt =>
            rw [hv] at h hact
            have hact : active ops r o = some want := hact
            cases want with
            | true => exact go [] trivial (by rw [hact, litB_t (ls := []) trivial]) h
            | false => exact skip hact h
          | ff =>
            rw [hv] at h hact
            have hact : active ops r o = some (!want) := hact
            cases want with
            | true => exact skip hact h
            | false => exact go [] trivial (by rw [hact, litB_t (ls := []) trivial]; rfl) h
          | und => rw [hv] at h hact; exact skip hact h
          | bool b =>
            rw [hv] at h hact
            have hact : active ops r o = some (b == want) := hact
            simp only at h
            refine go [(g, want, b)] ⟨trivial, fun _ => by rw [hout, hv]⟩ ?_ h
            rw [hact]
            by_cases hb : b = want
            · rw [litB_t (ls := [(g, want, b)]) ⟨hb, trivial⟩]; simp [hb]
            · rw [litB_f (ls := [(g, want, b)]) fun h => hb h.1]; simp [hb]
          | _ => rw [hv] at h; exact h.elim
end

section
variable {P : Program} {C : Ctx} {E : Env} {base : Nat} {w0 : Orig} {w : World} {st : St} {a : Act} {N : Nat} {r : Option Nat}

theorem runT_list (hC : CtxOk P C) {ops : Array Oper} {Q : Exit → Act → World → Prop} (K : St → Prop) (hQ : ∀ E' st' a' w', K st' → SR E' base w0 st' a' w' → a'.tmps.size = N → Q .normal a' w') :
    ∀ (l : List (Nat × Oper)) (tr : Trace) (st stf : St) (E : Env) (a : Act) (w : World), RunT C ops.toList l st tr stf → K stf → SR E base w0 st a w → a.tmps.size = N → (l.map Prod.snd).all (okOper N) = true → wpListIn (Fc r) 0 P ops Q (l.map Prod.snd) a w
  | [], [], st, stf, E, a, w, h, hK, hS, hN, _ => by
    have e : st = stf := h
    subst e
    exact hQ E st a w hK hS hN
  | [], _ :: _, st, stf, E, a, w, h, _, _, _, _ => h.elim
  | (i, o) :: l, [], st, stf, E, a, w, h, _, _, _, _ => h.elim
  | (i, o) :: l, (i', t) :: tr, st, stf, E, a, w, h, hK, hS, hN, hok => by
    obtain ⟨rfl, st1, hstep, hr⟩ := h
    simp only [List.map_cons, List.all_cons, Bool.and_eq_true] at hok
    rw [List.map_cons]
    unfold wpListIn
    rcases hstep with ⟨h1, h2, _, h4⟩ | ⟨h1, _, h3⟩
    · rw [if_pos (active_wanted hS h1)]
      refine in_of_wp (fun c hc => by rw [hc] at h2; simp [evalOp, R.bad] at h2) (op_sound hC hS (okOper_store hok.1) h2 _ _ fun E' w' v hS' hv => ?_)
      refine runT_list hC K hQ l tr st1 stf E' _ w' hr hK ?_ (by rw [put_size, hN]) hok.2
      rw [h4]
      exact hS'.put (by rw [hN]; exact okOper_dst hok.1) hv
    · rw [if_neg (by rw [active_wanted hS h1]; simp)]
      refine ⟨fun _ _ => trivial, ?_⟩
      refine runT_list hC K hQ l tr st1 stf E _ w hr hK ?_ (by rw [put_size, hN]) hok.2
      rw [h3]
      exact hS.put (by rw [hN]; exact okOper_dst hok.1) (.pure .und)
end
end Go.V

/- Part 8: code, and functions. -/
namespace Go.V
open Go.RowKit (Below)

theorem has_iff {l : List Nat} {n : Nat} : has l n = true ↔ n ∈ l := by
  simp only [has, List.any_eq_true]
  constructor
  · rintro ⟨m, hm, h⟩
    rw [Nat.eq_of_beq_eq_true h]; exact hm
  · intro h
    exact ⟨n, h, by simp⟩
theorem look_map {α : Type} (f : Nat → α) : ∀ (l : List Nat) (n : Nat), look (l.map fun n => (n, f n)) n = if has l n then some (f n) else none
  | [], n => rfl
  | m :: l, n => by
    simp only [List.map_cons, look]
    cases h : Nat.beq m n with
    | true =>
      obtain rfl := Nat.eq_of_beq_eq_true h
      simp [has]
    | false =>
      simp only [cond_false, look_map f l n]
      have : Nat.beq n m = false := by
        rw [Bool.eq_false_iff] at h ⊢
        intro e
        exact h (by rw [Nat.eq_of_beq_eq_true e]; simp)
      simp [has, this]

section
variable {P : Program} {C : Ctx} {E : Env} {base : Nat} {w0 : Orig} {w : World} {st : St} {a : Act} {N : Nat}

theorem RelP.le {σ : Nat → Nat → Prop} {p q : PV} (h : PLe p q) : ∀ {v : Value}, RelP σ w p v → RelP σ w q v := by
  induction h with
  | refl p => exact fun h => h
  | junk p => exact fun _ => .junk _
  | sliceD t len get get' hgl _ ih =>
    intro v h
    cases h with
    | slice _ _ a cap b o sz c hc ha hn hl h1 h2 => exact .slice len get' a cap b o sz c hc ha hn (fun i hi => by rw [← hgl i hi]; exact hl i hi) h1 fun i hi j hj => ih i hi j (by rw [hl i hi]; exact hj) (h2 i hi j hj)
  | tsl => intro v h; cases h
  | tsl0 => intro v h; cases h
  | slice t len get get' hg =>
    intro v h
    cases h with
    | slice _ _ a cap b o sz c hc ha hn hl h1 h2 => exact .slice len get' a cap b o sz c hc ha hn (fun i hi => by rw [← hg i hi]; exact hl i hi) h1 fun i hi j hj => by rw [← hg i hi]; exact h2 i hi j hj
  | bool b c e => subst e; exact fun h => h
  | tt b e => subst e; intro v h; cases h; exact .bool true
  | ff b e => subst e; intro v h; cases h; exact .bool false
  | int k m n e => subst e; exact fun h => h
  | agg xs ys hl _ ih =>
    intro v h
    cases h with
    | agg _ a hs h => exact .agg ys a (by rw [hs, hl]) fun i hi => ih i (by omega) (h i (by omega))
  | tup xs ys hl _ ih =>
    intro v h
    cases h with
    | tup _ a hs h => exact .tup ys a (by rw [hs, hl]) fun i hi => ih i (by omega) (h i (by omega))

theorem Rel.le {p q : PV} (h : PLe p q) : ∀ {v : Value}, Rel E w p v → Rel E w q v := by
  induction h with
  | refl p => exact fun h => h
  | junk p => exact fun _ => .pure (.junk _)
  | sliceD t len get get' hgl hg =>
    intro v h
    cases h with
    | pure h => exact .pure (h.le (.sliceD _ _ _ _ hgl hg))
    | tslice s _ _ a cap h g hh hL hx => exact .tslice s len get' a cap (h.le (.sliceD none _ _ _ hgl hg)) g hh hL hx
  | tsl s k len sz get get' hgl hg =>
    intro v h
    obtain ⟨a, cap, g, rfl, hr, hh, hL, hx⟩ := h.tsl_inv
    exact .tsl s k len sz get' a cap (hr.le (.sliceD none _ _ _ hgl hg)) g hh hL hx
  | tsl0 s len sz get get' h0 hgl hg =>
    intro v h
    obtain ⟨a, cap, g, rfl, hr, hh, hL, hx⟩ := (tslOf_sound (lit := true) (n := sz) (p := .slice (some s) len get) rfl h0 h).tsl_inv
    exact .tsl s 0 len sz get' a cap (hr.le (.sliceD none _ _ _ hgl hg)) g hh hL hx
  | slice t len get get' hg =>
    intro v h
    cases h with
    | pure h => exact .pure (h.le (.slice _ _ _ _ hg))
    | tslice s _ _ a cap h g hh hL hx => exact .tslice s len get' a cap (h.le (.slice none _ _ _ hg)) g hh hL hx
  | bool b c e => subst e; exact fun h => h
  | tt b e => subst e; intro v h; rw [h.tt_inv]; exact .pure (.bool true)
  | ff b e => subst e; intro v h; rw [h.ff_inv]; exact .pure (.bool false)
  | int k m n e => subst e; exact fun h => h
  | agg xs ys hl _ ih =>
    intro v h
    obtain ⟨a, rfl, hs, hh⟩ := h.agg_inv
    exact .agg ys a (by rw [hs, hl]) fun i hi => ih i (by omega) (hh i (by omega))
  | tup xs ys hl _ ih =>
    intro v h
    obtain ⟨a, rfl, hs, hh⟩ := h.tup_inv
    exact .tup ys a (by rw [hs, hl]) fun i hi => ih i (by omega) (hh i (by omega))

theorem BR.le {s : Nat} {B B' : Blk} (h : BLe B B') (hb : BR E w base s B) : BR E w base s B' := by
  cases h with
  | refl => exact hb
  | cells xs ys hl h =>
    obtain ⟨h1, b, arr, e, h2, h3, h4, h5, h6⟩ := hb
    exact ⟨h1, b, arr, e, h2, h3, h4, by rw [h5, hl], fun i hi => (h6 i (by omega)).le (h i (by omega))⟩
  | arr len sz get get' h =>
    obtain ⟨h1, b, arr, e, h2, h3, h4, h5, h6⟩ := hb
    exact ⟨h1, b, arr, e, h2, h3, h4, h5, fun i hi => by rw [← h i hi]; exact h6 i hi⟩
  | stk ver len el sz get get' h =>
    obtain ⟨h1, g, h2, h3, h4, h5, h6, ⟨h7, h8⟩, h9⟩ := hb
    refine ⟨h1, g, h2, h3, h4, h5, h6, ⟨h7, fun i hi => by rw [← h i hi]; exact h8 i hi⟩, fun b hb => ?_⟩
    obtain ⟨q1, q2, arr, q3, q4, q5, q6, q7⟩ := h9 b hb
    exact ⟨q1, q2, arr, q3, q4, q5, q6, fun i hi j hj => by rw [← h i hi]; exact q7 i hi j hj⟩
  | arrv len get get' h =>
    obtain ⟨h1, b, arr, e, h2, h3, h4, h5, h6⟩ := hb
    exact ⟨h1, b, arr, e, h2, h3, h4, h5, fun i hi => (h6 i hi).le (h i hi)⟩
  | arrx len get get' i v v' hg h =>
    obtain ⟨h1, b, arr, e, h2, h3, h4, h5, h6, h7, h8⟩ := hb
    exact ⟨h1, b, arr, e, h2, h3, h4, h5, h6, fun k hk hki => by rw [← hg k hk hki]; exact h7 k hk hki, h8.le h⟩
  | arrxa len get get' i v hv h =>
    obtain ⟨h1, b, arr, e, h2, h3, h4, h5, h6, h7, h8⟩ := hb
    refine ⟨h1, b, arr, e, h2, h3, h4, by omega, fun k hk => ?_⟩
    rw [← h k hk]
    by_cases hki : k = i
    · subst hki
      have e5 : Nat.beq k k = true := by simp
      simp only [e5, cond_true]
      refine ⟨rfl, fun j hj => ?_⟩
      obtain rfl : j = 0 := by omega
      rw [Nat.mul_one, Nat.add_zero]
      exact plain1_relP hv h8
    · have e5 : Nat.beq k i = false := by rw [Bool.eq_false_iff]; intro e; exact hki (Nat.eq_of_beq_eq_true e)
      simp only [e5, cond_false]
      obtain ⟨r1, r2⟩ := h7 k hk hki
      refine ⟨r1, fun j hj => ?_⟩
      obtain rfl : j = 0 := by omega
      rw [Nat.mul_one, Nat.add_zero]
      exact r2

theorem SR.le (hS : SR E base w0 st a w) {st' : St} (h : SLe st st') : SR E base w0 st' a w :=
  ⟨hS.dfr.step (fun _ _ h _ => h) fun s j e => by
    have := h.2 s
    rw [e] at this
    revert this
    generalize st'.blocks s = B
    intro this
    cases this
    rfl, fun n => (hS.slots n).le (h.1 n), fun s => (hS.blk s).le (h.2 s), hS.inj, hS.σok, hS.bel, hS.bas, hS.σin, hS.σout, hS.fr⟩

theorem SR.clean' (hS : SR E base w0 st a w) (live keep : List Nat) : SR (E.only (keepQ w0.off keep)) base w0 (clean w0.off live keep st) a w := by
  generalize hq : keepQ w0.off keep = q
  have hat : ∀ s b, (E.only q).at s = some b → E.at s = some b ∧ q s = true := by
    intro s b h
    cases hk : q s with
    | true => simpa [Env.at, Env.only, hk] using h
    | false => simp [Env.at, Env.only, hk] at h
  have hbr : ∀ s, q s = true → BR (E.only q) w base s (pruneB q (st.blocks s)) := by
    intro s hk
    have hb := hS.blk s
    have e1 : (E.only q).ρ s = E.ρ s := by simp [Env.only, hk]
    have e2 : (E.only q).hd s = E.hd s := by simp [Env.only, hk]
    cases hB : st.blocks s with
    | none => rw [hB] at hb; exact ⟨e1.trans hb.1, e2.trans hb.2⟩
    | jmp j => rw [hB] at hb; exact ⟨e1.trans hb.1, e2.trans hb.2⟩
    | cells l =>
      rw [hB] at hb
      obtain ⟨h1, b, arr, e, h2, h3, h4, h5, h6⟩ := hb
      refine ⟨e2.trans h1, b, arr, e, e1.trans h2, h3, h4, by simp [h5], fun i hi => ?_⟩
      simp at hi
      have : (l.map (prune q)).getD i .junk = prune q (l.getD i .junk) := by simp [List.getD, hi]
      rw [this]
      exact (h6 i hi).prune
    | arr len sz get =>
      rw [hB] at hb
      obtain ⟨h1, b, arr, e, h2, h3, h4, h5, h6⟩ := hb
      exact ⟨e2.trans h1, b, arr, e, e1.trans h2, h3, h4, h5, h6⟩
    | arrv len get =>
      rw [hB] at hb
      obtain ⟨h1, b, arr, e, h2, h3, h4, h5, h6⟩ := hb
      exact ⟨e2.trans h1, b, arr, e, e1.trans h2, h3, h4, h5, h6⟩
    | grow L el sz =>
      rw [hB] at hb
      obtain ⟨h1, g, h2, h3, h4, h5, h6⟩ := hb
      exact ⟨e1.trans h1, g, e2.trans h2, h3, h4, h5, h6⟩
    | stk ver len el sz get =>
      rw [hB] at hb
      obtain ⟨h1, g, h2, h3⟩ := hb
      exact ⟨e1.trans h1, g, e2.trans h2, h3⟩
    | arrx len get i v =>
      rw [hB] at hb
      obtain ⟨h1, b, arr, e, h2, h3, h4, h5, h6, h7, h8⟩ := hb
      exact ⟨e2.trans h1, b, arr, e, e1.trans h2, h3, h4, h5, h6, h7, h8.prune⟩
  have hbook : Book base w0 (V.clean w0.off live keep st).blocks a.defers w := by
    refine ⟨hS.dfr.dfr, hS.dfr.kp, fun s l r h => ?_⟩
    obtain ⟨j, h1, h2⟩ := hS.dfr.jp s l r h
    refine ⟨j, ?_, h2⟩
    show (look (keep.map fun s => (s, pruneB (keepQ w0.off keep) (st.blocks s))) s).getD (bif Nat.blt s w0.off then pruneB (keepQ w0.off keep) (st.blocks s) else .none) = .jmp j
    rw [look_map, h1]
    have hlt : Nat.blt s w0.off = true := Nat.ble_eq_true_of_le (w0.hrc s _ h)
    cases has keep s with
    | true => rfl
    | false => simp only [Bool.false_eq_true, if_false, Option.getD_none, hlt, cond_true]; rfl
  refine ⟨hbook, fun n => ?_, fun s => ?_, ?_, ?_, hS.bel, hS.bas, hS.σin, hS.σout, fun q' p v h => ?_⟩
  · show Rel _ w ((look (live.map fun n => (n, prune (keepQ w0.off keep) (st.slots n))) n).getD .junk) _
    rw [look_map, hq]
    cases hl : has live n with
    | true => simp only [if_true, Option.getD_some]; exact (hS.slots n).prune
    | false => exact .pure (.junk _)
  · show BR _ w base s ((look (keep.map fun s => (s, pruneB (keepQ w0.off keep) (st.blocks s))) s).getD (bif Nat.blt s w0.off then pruneB (keepQ w0.off keep) (st.blocks s) else .none))
    rw [look_map, hq]
    cases hk : has keep s with
    | true =>
      simp only [if_true, Option.getD_some]
      exact hbr s (by rw [← hq]; simp [keepQ, hk])
    | false =>
      simp only [Bool.false_eq_true, if_false, Option.getD_none]
      cases hb : Nat.blt s w0.off with
      | true => exact hbr s (by rw [← hq]; simp [keepQ, hb])
      | false =>
        have : q s = false := by rw [← hq]; simp [keepQ, hb, hk]
        exact ⟨by simp [Env.only, this], by simp [Env.only, this]⟩
  · intro s s' b h h'
    exact hS.inj s s' b (hat s b h).1 (hat s' b h').1
  · intro b o h
    obtain ⟨h1, h2, h3⟩ := hS.σok b o h
    refine ⟨h1, fun s sz hx => ?_, fun s g hg hb => ?_⟩
    · cases hk : q s with
      | true => exact h2 s sz (by simpa [Env.only, hk] using hx)
      | false => simp [Env.only, hk] at hx
    · cases hk : q s with
      | true => exact h3 s g (by simpa [Env.only, hk] using hg) hb
      | false => simp [Env.only, hk] at hg
  · have hin : ∀ s, q' s = true → q s = true := fun s hs => by
      rw [← hq]; simp [keepQ, show Nat.blt s w0.off = true from Nat.ble_eq_true_of_le (w0.hΦ q' p v h s hs)]
    have hle : (E.only q').le ((E.only q).only q') := by
      refine ⟨fun s x hx => ?_, fun _ _ h => h, fun s g hg => ⟨g, ?_, Nat.le_refl _, fun _ => ⟨rfl, rfl, rfl⟩⟩⟩
      · simp only [Env.only] at hx ⊢
        split at hx
        · rename_i hq'; rw [if_pos hq', if_pos (hin s hq')]; exact hx
        · cases hx
      · simp only [Env.only] at hg ⊢
        split at hg
        · rename_i hq'; rw [if_pos hq', if_pos (hin s hq')]; exact hg
        · cases hg
    exact (hS.fr q' p v h).mono hle fun _ _ _ => rfl

theorem SR.clean (hS : SR E base w0 st a w) (live keep : List Nat) : ∃ E', SR E' base w0 (clean w0.off live keep st) a w := ⟨_, hS.clean' live keep⟩

theorem clean0 (live keep : List Nat) (st : St) : mkSt (live.zip (live.map fun n => prune (keepQ 0 keep) (st.slots n))) (keep.zip (keep.map fun s => pruneB (keepQ 0 keep) (st.blocks s))) = clean 0 live keep st := by
  have hz : ∀ {α : Type} (f : Nat → α) (l : List Nat), l.zip (l.map f) = l.map fun n => (n, f n) := by
    intro α f l
    induction l with
    | nil => rfl
    | cons a l ih => simp [ih]
  simp only [mkSt, clean, hz]
  congr 1

theorem rebase_sound (hoff : w0.off = C.off) (hS : SR E base w0 st a w) {k : St → Prop} (h : rebase C st k) : ∃ E' st', k st' ∧ SR E' base w0 st' a w := by
  unfold rebase at h
  cases hb : Nat.beq C.off 0 with
  | false => rw [hb] at h; exact ⟨E, st, h, hS⟩
  | true =>
    rw [hb] at h
    simp only [cond_true, frcL_eq frc3_eq, frcL_eq frcB_eq] at h
    have h0 : w0.off = 0 := by rw [hoff]; exact Nat.eq_of_beq_eq_true hb
    obtain ⟨E', hS'⟩ := hS.clean C.live C.names
    rw [h0, ← clean0] at hS'
    exact ⟨E', _, h, hS'⟩

theorem exists_least {p : Nat → Prop} (h : ∃ n, p n) : ∃ n, p n ∧ ∀ m, p m → n ≤ m := by
  obtain ⟨n, hn⟩ := h
  induction n using Nat.strongRecOn with
  | _ n ih =>
    by_cases hm : ∃ m, m < n ∧ p m
    · obtain ⟨m, h1, h2⟩ := hm
      exact ih m h1 h2
    · exact ⟨n, hn, fun m hpm => Nat.le_of_not_lt fun hlt => hm ⟨m, hlt, hpm⟩⟩

def OutQ (base : Nat) (w0 : Orig) (N : Nat) (K : Out → Prop) : Exit → Act → World → Prop
  | .normal, a, w => ∃ E st, K (.normal st) ∧ SR E base w0 st a w ∧ a.tmps.size = N
  | .exit n, a, w => ∃ E st, K (.exit n st) ∧ SR E base w0 st a w ∧ a.tmps.size = N
  | .ret, a, w => ∃ E st, K (.ret st) ∧ SR E base w0 st a w ∧ a.tmps.size = N
  | _, _, _ => False

def bareB : Blk → Bool
  | .none | .jmp _ => true
  | _ => false
theorem bare_ok {s : Nat} {B B' : Blk} (h : bareB B = true) (h' : bareB B' = true) (hb : BR E w base s B) : BR E w base s B' := by
  cases B <;> simp [bareB] at h <;> cases B' <;> simp [bareB] at h' <;> exact hb
theorem SR.books (hS : SR E base w0 st a w) {w' : World} {w1 : Orig} {a' : Act} {bl' : Nat → Blk} (ht : a'.tmps = a.tmps) (hw : w1.w = w0.w) (hσ : w1.σ = w0.σ) (hΦ : ∀ q p v, w1.Φ q p v → w0.Φ q p v)
    (hc : ∀ (b : Nat) c e f, w.heap[b]? = some (.cells c e f) → w'.heap[b]? = some (.cells c e f)) (hcell : ∀ b o, b < w.heap.size → w'.cell? ⟨b, o, none⟩ = w.cell? ⟨b, o, none⟩) (hbel : Below base w w')
    (hbl : ∀ s, bl' s = st.blocks s ∨ (bareB (st.blocks s) = true ∧ bareB (bl' s) = true)) (hbk : Book base w1 bl' a'.defers w') : SR E base w1 ⟨st.slots, bl'⟩ a' w' := by
  have hcσ : ∀ b o, E.σ b o → w'.cell? ⟨b, o, none⟩ = w.cell? ⟨b, o, none⟩ := fun b o h => hcell b o (hS.σok b o h).1
  refine ⟨hbk, fun n => ?_, fun s => ?_, hS.inj, fun b o h => ?_, ?_, ?_, ?_, ?_, fun q p v h => (hS.fr q p v (hΦ q p v h)).mono (E' := E.only q) (Env.le_refl _) hcσ⟩
  · rw [ht]; exact (hS.slots n).mono (Env.le_refl _) hcσ
  · have hk := (hS.blk s).keep (w' := w') (Env.le_refl _) hcσ rfl rfl fun b hb => by
      obtain ⟨⟨c, e, f, h⟩, _⟩ := hS.at_cells hb
      rw [h]; exact hc b c e f h
    rcases hbl s with h | ⟨h1, h2⟩
    · show BR E w' base s (bl' s); rw [h]; exact hk
    · exact bare_ok h1 h2 hk
  · obtain ⟨h1, h2, h3⟩ := hS.σok b o h
    exact ⟨Nat.lt_of_lt_of_le h1 hbel.size, h2, h3⟩
  · rw [hw]; exact hS.bel.trans hbel
  · exact Nat.le_trans hS.bas hbel.size
  · rw [hσ]; exact hS.σin
  · rw [hσ]; exact hS.σout

theorem cell_putObj {l : Nat} {o o0 : Obj} (hl : w.heap[l]? = some o0) (ho0 : NC o0) (ho : NC o) (b k : Nat) : (w.putObj l o).cell? ⟨b, k, none⟩ = w.cell? ⟨b, k, none⟩ := by
  by_cases hb : b = l
  · subst hb
    have h1 := World.putObj_heap_same (o := o) (Array.getElem?_eq_some_iff.1 hl).1
    simp only [World.cell?, h1, hl]
    split
    · rename_i c e f hc; exact (ho c e f (Option.some.inj hc)).elim
    · split
      · rename_i c e f hc; exact (ho0 c e f (Option.some.inj hc)).elim
      · rfl
  · exact cell_of_heap (World.putObj_heap_other hb)
theorem cells_putObj {l : Nat} {o o0 : Obj} (hl : w.heap[l]? = some o0) (ho0 : NC o0) (b : Nat) (c : Array Value) (e : TypeId) (f : Nat × Nat) (h : w.heap[b]? = some (.cells c e f)) : (w.putObj l o).heap[b]? = some (.cells c e f) := by
  refine (World.putObj_heap_other ?_).trans h
  rintro rfl
  rw [hl] at h
  exact ho0 c e f (Option.some.inj h)
theorem below_putObj {l : Nat} {o : Obj} (h : base ≤ l) : Below base w (w.putObj l o) :=
  ⟨rfl, rfl, rfl, by simp, fun k hk => World.putObj_heap_other (by omega)⟩
theorem Book.turn {bl : Nat → Blk} {ds : List Deferred} (h : Book base w0 bl ds w) {s l : Nat} {r : Loop} (hrc : w0.rc s = some (l, r)) (j : JS) : Book base w0 (upd bl s (.jmp j)) ds (w.putObj l (.loop (j.loopOf r))) := by
  obtain ⟨j0, h1, h2⟩ := h.jp s l r hrc
  have hne : ∀ (b : Nat) x, w.heap[b]? = some (.deferred x) → (w.putObj l (.loop (j.loopOf r))).heap[b]? = some (.deferred x) := fun b x hb =>
    (World.putObj_heap_other (by rintro rfl; rw [h2] at hb; cases hb)).trans hb
  refine ⟨?_, fun b o hk => ?_, fun s' l' r' hr => ?_⟩
  · obtain ⟨Ds, g1, g2, g3⟩ := h.dfr
    exact ⟨Ds, g1, g2, fun D hD => ⟨(g3 D hD).1, hne _ _ (g3 D hD).2.1, (g3 D hD).2.2⟩⟩
  · have ho := w0.hκ b o hk
    subst ho
    exact hne _ _ (h.kp b _ hk)
  · by_cases hs : s' = s
    · subst hs
      rw [hrc] at hr
      cases hr
      exact ⟨j, upd_same _ _ _, World.putObj_heap_same (Array.getElem?_eq_some_iff.1 h2).1⟩
    · obtain ⟨j', g1, g2⟩ := h.jp s' l' r' hr
      refine ⟨j', by rw [upd_ne _ _ hs]; exact g1, (World.putObj_heap_other ?_).trans g2⟩
      rintro rfl
      exact hs (w0.hri s' s l' r' r hr hrc)
theorem SR.turn (hS : SR E base w0 st a w) {s l : Nat} {r : Loop} (hrc : w0.rc s = some (l, r)) (hbl : base ≤ l) (j : JS) : SR E base w0 ⟨st.slots, upd st.blocks s (.jmp j)⟩ a (w.putObj l (.loop (j.loopOf r))) := by
  obtain ⟨j0, h1, h2⟩ := hS.dfr.jp s l r hrc
  refine hS.books rfl rfl rfl (fun _ _ _ h => h) (cells_putObj h2 (.loop _)) (fun b o _ => cell_putObj h2 (.loop _) (.loop _) b o) (below_putObj hbl) (fun s' => ?_) (hS.dfr.turn hrc j)
  by_cases hs : s' = s
  · subst hs
    exact .inr ⟨by rw [h1]; rfl, by rw [upd_same]; rfl⟩
  · exact .inl (upd_ne _ _ hs)
theorem SR.cut (hS : SR E base w0 st a w) {o2 : Nat} (ho : w0.off = o2) : ∃ E', SR E' base w0 ⟨fun _ => .junk, cutB o2 st.blocks⟩ noAct w := by
  have h := hS.clean' [] []
  have hq : keepQ w0.off [] = fun s => Nat.blt s o2 := by funext s; simp [keepQ, has, ho]
  have hbl : V.clean w0.off [] [] st = ⟨fun _ => .junk, cutB o2 st.blocks⟩ := by
    unfold V.clean cutB
    rw [hq, ho]
    rfl
  rw [hbl] at h
  exact ⟨_, h.dfr.bare, fun _ => .pure (.junk _), h.blk, h.inj, h.σok, h.bel, h.bas, h.σin, h.σout, h.fr⟩

theorem setPs_rel : ∀ (ps : List Nat) (args : List PV) (vals : List Value) (sl : Nat → PV) (tmps : Array Value), (∀ n, Rel E w (sl n) (tmps.getD n undef)) → args.length = ps.length → vals.length = ps.length → (∀ i, i < args.length → Rel E w (args.getD i .junk) (vals.getD i undef)) →
    (∀ q ∈ ps, q < tmps.size) → (∀ n, Rel E w (setPs sl ps args n) (((ps.zip vals).foldl (fun t (p, v) => t.setIfInBounds p v) tmps).getD n undef)) ∧ ((ps.zip vals).foldl (fun t (p, v) => t.setIfInBounds p v) tmps).size = tmps.size
  | [], [], [], sl, tmps, h, _, _, _, _ => ⟨fun n => h n, rfl⟩
  | q :: ps, v :: args, u :: vals, sl, tmps, h, h1, h2, h3, h4 => by
    have hq := h4 q (List.mem_cons_self ..)
    have := setPs_rel ps args vals (upd sl q v) (tmps.setIfInBounds q u) (fun n => by
      by_cases hn : n = q
      · subst hn
        rw [upd_same]
        have := h3 0 (by simp)
        simpa [Array.getD, hq] using this
      · rw [upd_ne _ _ hn]
        have := h n
        by_cases hs : n < tmps.size
        · have hqn : q ≠ n := fun e => hn e.symm
          simpa [Array.getD, hs, Array.getElem_setIfInBounds, hqn] using this
        · simpa [Array.getD, hs] using this) (by simpa using h1) (by simpa using h2) (fun i hi => by simpa using h3 (i + 1) (by simpa using hi)) fun q' hq' => by simpa using h4 q' (List.mem_cons_of_mem _ hq')
    exact ⟨this.1, by simpa using this.2⟩
  | [], [], _ :: _, _, _, _, _, h, _, _ => by simp at h
  | [], _ :: _, _, _, _, _, h, _, _, _ => by simp at h
  | _ :: _, [], _, _, _, _, h, _, _, _ => by simp at h
  | _ :: _, _ :: _, [], _, _, _, _, h, _, _ => by simp at h

theorem ghost_sound : ∀ (gs : List (Nat × Nat × Nat × Nat × Nat)) {st st' : St} {E : Env}, SR E base w0 st a w → ghost st gs = some st' → ∃ E', SR E' base w0 st' a w
  | [], st, st', E, hS, h => by cases h; exact ⟨E, hS⟩
  | (s, i, g, el, sz) :: r, st, st', E, hS, h => by
    simp only [ghost] at h
    split at h
    · rename_i l hs hg
      split at h
      · rename_i hi
        cases hz : Nat.blt 0 sz with
        | false => rw [hz] at h; cases h
        | true =>
        rw [hz] at h
        have hpos : 0 < sz := Nat.le_of_ble_eq_true hz
        have hn := hS.blk g
        rw [hg] at hn
        have hgr : Grew0 w w el sz none 0 0 0 [] none 0 := ⟨fun _ => ⟨rfl, rfl⟩, (fun b h => nomatch h), fun _ _ _ => rfl, rfl, rfl, rfl, Nat.le_refl _⟩
        obtain ⟨E', k1, k2, _, k4, k5⟩ := SR.grew hS 0 0 hgr hpos (fun _ _ _ => Nat.le_refl _) (Nat.le_refl _) (fun _ => rfl) hn.1 (.inl ⟨hn.2, rfl, rfl⟩) (fun b h => nomatch h) (fun j h => by rw [hg] at h; cases h)
        have hne : s ≠ g := by rintro rfl; rw [hs] at hg; cases hg
        refine ghost_sound r (E := E') ?_ h
        refine ⟨k5.dfr.step (fun _ _ h _ => h) (upd_jmp fun j h => ?_), k5.slots, fun s' => ?_, k5.inj, k5.σok, k5.bel, k5.bas, k5.σin, k5.σout, k5.fr⟩
        · have : upd st.blocks g (.grow 0 el sz) s = .jmp j := h
          rw [upd_ne _ _ hne, hs] at this; cases this
        · show BR E' w base s' (upd (upd st.blocks g (.grow 0 el sz)) s _ s')
          by_cases hs' : s' = s
          · subst hs'
            rw [upd_same]
            have hb := k5.blk s'
            have e : (st.setB (some (g, .grow 0 el sz))).blocks s' = .cells l := by
              show upd st.blocks g (.grow 0 el sz) s' = _
              rw [upd_ne _ _ hne, hs]
            rw [e] at hb
            obtain ⟨h1, b, arr, e, h2, h3, h4, h5, h6⟩ := hb
            refine ⟨h1, b, arr, e, h2, h3, h4, by simpa using h5, fun j hj => ?_⟩
            have hj' : j < l.length := by simpa using hj
            have h7 := h6 j hj'
            by_cases hij : i = j
            · subst hij
              have e1 : l.getD i .junk = .nils := by simp [List.getD, hi]
              rw [e1] at h7
              have e2 : (l.set i (.slice (some g) 0 fun _ => [])).getD i .junk = .slice (some g) 0 fun _ => [] := by simp [List.getD, hj']
              rw [e2, h7.nils_inv]
              exact .tslice g 0 _ none 0 (.slice 0 _ none 0 0 0 0 (fun _ _ => undef) (Nat.le_refl _) (by omega) (fun _ => rfl) (by intro i hi; omega) (by intro i hi; omega) (by intro i hi; omega)) _ k2 (Nat.le_refl _) fun _ => ⟨rfl, rfl, rfl⟩
            · have e2 : (l.set i (.slice (some g) 0 fun _ => [])).getD j .junk = l.getD j .junk := by simp [List.getD, List.getElem?_set_ne hij]
              rw [e2]; exact h7
          · rw [upd_ne _ _ hs']; exact k5.blk s'
      · cases h
    · cases h

theorem nils_stk {E : Env} {w : World} {g : Nat} {el sz : Nat} (k2 : E.hd g = some ⟨0, none, 0, sz, el, 0, true⟩) : Rel E w (.stk g 0 0) (.slice none 0 0) :=
  .stk g 0 0 none 0 _ k2 (Nat.le_refl _) fun _ => ⟨rfl, rfl, rfl⟩
theorem nils_grow {E : Env} {w : World} {g : Nat} {el sz : Nat} (k2 : E.hd g = some ⟨0, none, 0, sz, el, 0, false⟩) : Rel E w (.slice (some g) 0 fun _ => []) (.slice none 0 0) :=
  .tslice g 0 _ none 0 (.slice 0 _ none 0 0 0 0 (fun _ _ => undef) (Nat.le_refl _) (by omega) (fun _ => rfl) (by intro i hi; omega) (by intro i hi; omega) (by intro i hi; omega)) _ k2 (Nat.le_refl _) fun _ => ⟨rfl, rfl, rfl⟩
theorem intsOf_spec {k : IntKind} : ∀ (ps : List PV) {ns : List Int}, intsOf k ps = some ns → ∀ i, i < ps.length → ps.getD i .junk = .int k (ns.getD i 0)
  | [], _, _ => fun i hi => by simp at hi
  | p :: ps, ns, h => by
    unfold intsOf at h
    split at h
    · rename_i k' n
      cases hk : kindEq k k' with
      | false => rw [hk] at h; cases h
      | true =>
        rw [hk] at h
        obtain rfl := kindEq_eq hk
        simp only [cond_true] at h
        split at h
        · rename_i ns' hns
          cases h
          intro i hi
          cases i with
          | zero => rfl
          | succ i => simpa using intsOf_spec ps hns i (by simpa using hi)
        · cases h
    · cases h
theorem boolsOf_spec : ∀ (ps : List PV) {bs : List Bool}, boolsOf ps = some bs → ∀ i, i < ps.length → boolOf (ps.getD i .junk) = some (bs.getD i false)
  | [], _, _ => fun i hi => by simp at hi
  | p :: ps, bs, h => by
    unfold boolsOf at h
    split at h
    · rename_i b hb
      split at h
      · rename_i bs' hbs
        cases h
        intro i hi
        cases i with
        | zero => simpa using hb
        | succ i => simpa using boolsOf_spec ps hbs i (by simpa using hi)
      · cases h
    · cases h
theorem bool_rel {E : Env} {w : World} {p : PV} {b : Bool} {v : Value} (h : boolOf p = some b) (hr : Rel E w p v) : RelP E.σ w (.bool b) v := by
  cases p <;> simp [boolOf] at h
  · subst h; rw [hr.tt_inv]; exact .bool true
  · subst h; rw [hr.ff_inv]; exact .bool false
  · subst h; rw [hr.bool_inv]; exact .bool _
theorem viewOf_rel {E : Env} {w : World} {l : List PV} {g : Nat → PV} (h : viewOf l = some g) (i : Nat) (hi : i < l.length) {v : Value} (hr : Rel E w (l.getD i .junk) v) : RelP E.σ w (g i) v := by
  unfold viewOf at h
  split at h
  · cases h
  · rename_i p ps
    split at h
    · rename_i k n
      split at h
      · rename_i ns hns
        cases h
        cases i with
        | zero =>
          rw [(show Rel E w (.int k n) v from hr).int_inv]
          exact .int k n
        | succ i =>
          have e := intsOf_spec ps hns i (by simpa using hi)
          have e2 : (PV.int k n :: ps).getD (i + 1) .junk = ps.getD i .junk := by simp
          rw [e2, e] at hr
          rw [hr.int_inv]
          have e3 : (n :: ns).getD (i + 1) 0 = ns.getD i 0 := by simp
          show RelP E.σ w (.int k ((n :: ns).getD (i + 1) 0)) _
          rw [e3]
          exact .int k _
      · cases h
    · split at h
      · rename_i bs hbs
        cases h
        exact bool_rel (boolsOf_spec _ hbs i hi) hr
      · cases h
theorem SR.freeze {off : Nat} (hoff : w0.off = off) (hS : SR E base w0 st a w) (live keep : List Nat) {s d : Nat} {bo : Option Nat} {len sz cap : Nat} {get : Nat → List PV} {arr : Array Value} {el : TypeId} (hk : (!keepQ off keep s) = true)
    (hat : ∀ b, bo = some b → E.at s = some b ∧ w.heap[b]? = some (.cells arr el (0, 0))) (hv : a.tmps.getD d undef = .slice (bo.map fun b => ⟨b, 0, none⟩) len cap) (hcap : len ≤ cap) (hno : bo = none → len = 0 ∧ cap = 0) (hl : ∀ i, i < len → (get i).length = sz)
    (hsz : ∀ b, bo = some b → len * sz ≤ arr.size) (hr : ∀ i, i < len → ∀ j, j < sz → RelP E.σ w ((get i).getD j .junk) (arr.getD (i * sz + j) undef)) :
    ∃ E', SR E' base w0 { slots := upd (V.clean off live keep st).slots d (.slice none len get), blocks := (V.clean off live keep st).blocks } a w := by
  have hk : keepQ w0.off keep s = false := by rw [hoff]; simpa using hk
  have hc := SR.clean' hS live keep
  rw [hoff] at hc hk
  generalize hq : keepQ off keep = q at hc hk
  let E' : Env := ⟨(E.only q).ρ, (E.only q).hd, fun b' o => E.σ b' o ∨ (bo = some b' ∧ o < len * sz)⟩
  have hE' : (E.only q).le E' := ⟨fun _ _ h => h, fun _ _ h => .inl h, fun _ g h => ⟨g, h, Nat.le_refl _, fun _ => ⟨rfl, rfl, rfl⟩⟩⟩
  have honly : ∀ s' b', (E.only q).at s' = some b' → E.at s' = some b' ∧ q s' = true := fun s' b' h => by
    cases hk' : q s' with
    | true => exact ⟨by simpa [Env.at, Env.only, hk'] using h, rfl⟩
    | false => simp [Env.at, Env.only, hk'] at h
  refine ⟨E', hc.dfr, fun n => ?_, fun s' => (hc.blk s').keep hE' (fun _ _ _ => rfl) rfl rfl fun _ _ => rfl, hc.inj, fun b' o hσ => ?_, hc.bel, hc.bas, fun b o h => .inl (hc.σin b o h), fun b' o hσ => ?_, fun q' p v hΦ => (hc.fr q' p v hΦ).mono (Env.only_le hE' q') fun _ _ _ => rfl⟩
  · show Rel E' w (upd _ d (.slice none len get) n) _
    by_cases hnd : n = d
    · subst hnd
      rw [upd_same, hv]
      refine .pure ?_
      cases hbb : bo with
      | none =>
        obtain ⟨z1, z2⟩ := hno hbb
        subst z1; subst z2
        exact .slice 0 _ none 0 0 0 0 (fun _ _ => undef) (Nat.le_refl _) (by omega) (fun _ => rfl) (by intro i hi; omega) (by intro i hi; omega) (by intro i hi; omega)
      | some b =>
        obtain ⟨h1, hh⟩ := hat b hbb
        have hs := hsz b hbb
        refine .slice len get _ cap b 0 sz (fun i j => arr.getD (i * sz + j) undef) hcap (fun _ => rfl) (fun h => nomatch h) hl (fun i hi j hj => ?_) fun i hi j hj => (hr i hi j hj).mono (fun _ _ h => .inl h) fun _ _ _ => rfl
        have hlt : i * sz + j < len * sz := by
          have : i * sz + sz ≤ len * sz := by rw [← Nat.succ_mul]; exact Nat.mul_le_mul_right _ hi
          omega
        rw [Nat.zero_add]
        exact ⟨.inr ⟨hbb, hlt⟩, by simp [World.cell?, hh, Array.getD, show i * sz + j < arr.size by omega]⟩
    · rw [upd_ne _ _ hnd]; exact (hc.slots n).mono hE' fun _ _ _ => rfl
  · rcases hσ with hσ | ⟨hb, ho⟩
    · exact hc.σok b' o hσ
    · obtain ⟨h1, _⟩ := hat b' hb
      have hns : ∀ s1, (E.only q).at s1 ≠ some b' := fun s1 h => by
        obtain ⟨h2, h3⟩ := honly s1 b' h
        have := hS.inj s1 s b' h2 h1
        subst this
        rw [hk] at h3; cases h3
      refine ⟨(hS.at_lt h1).1, fun s1 sz1 e => hns s1 ?_, fun s1 g hg hgb => (hns s1 (hc.hd_at hg hgb)).elim⟩
      show (match (E.only q).ρ s1 with | some (b, _) => some b | none => _) = some b'
      rw [show (E.only q).ρ s1 = some (b', sz1) from e]
  · rcases hσ with hσ | ⟨hb, ho⟩
    · exact hc.σout b' o hσ
    · exact .inr (hS.at_lt (hat b' hb).1).2
theorem ghostX_sound {off : Nat} (hoff : w0.off = off) : ∀ (gs : List Gh) {st : St} {E : Env} {k : St → Prop}, SR E base w0 st a w → ghostX off st gs k → ∃ E' st', SR E' base w0 st' a w ∧ k st'
  | [], st, E, k, hS, h => ⟨E, st, hS, h⟩
  | .cell stk s i g el sz :: r, st, E, k, hS, h => by
    simp only [ghostX] at h
    split at h
    · rename_i l hs hg
      split at h
      · rename_i hi
        obtain ⟨hz, h⟩ := h
        have hpos : 0 < sz := Nat.le_of_ble_eq_true hz
        have hn := hS.blk g
        rw [hg] at hn
        have hne : s ≠ g := by rintro rfl; rw [hs] at hg; cases hg
        have hgr : Grew0 w w el sz none 0 0 0 [] none 0 := ⟨fun _ => ⟨rfl, rfl⟩, (fun b h => nomatch h), fun _ _ _ => rfl, rfl, rfl, rfl, Nat.le_refl _⟩
        have fin : ∀ (E' : Env) (B : Blk) (V : PV), (∀ j, B ≠ .jmp j) → SR E' base w0 (st.setB (some (g, B))) a w → Rel E' w V (.slice none 0 0) → SR E' base w0 { slots := st.slots, blocks := upd (upd st.blocks g B) s (.cells (l.set i V)) } a w := by
          intro E' B V hB k5 hV
          refine ⟨k5.dfr.step (fun _ _ h _ => h) (upd_jmp fun j h => ?_), k5.slots, fun s' => ?_, k5.inj, k5.σok, k5.bel, k5.bas, k5.σin, k5.σout, k5.fr⟩
          · have : upd st.blocks g B s = .jmp j := h
            rw [upd_ne _ _ hne, hs] at this; cases this
          · show BR E' w base s' (upd (upd st.blocks g B) s _ s')
            by_cases hs' : s' = s
            · subst hs'
              rw [upd_same]
              have hb := k5.blk s'
              have e : (st.setB (some (g, B))).blocks s' = .cells l := by
                show upd st.blocks g B s' = _
                rw [upd_ne _ _ hne, hs]
              rw [e] at hb
              obtain ⟨h1, b, arr, e, h2, h3, h4, h5, h6⟩ := hb
              refine ⟨h1, b, arr, e, h2, h3, h4, by simpa using h5, fun j hj => ?_⟩
              have hj' : j < l.length := by simpa using hj
              have h7 := h6 j hj'
              by_cases hij : i = j
              · subst hij
                have e1 : l.getD i .junk = .nils := by simp [List.getD, hi]
                rw [e1] at h7
                have e2 : (l.set i V).getD i .junk = V := by simp [List.getD, hj']
                rw [e2, h7.nils_inv]
                exact hV
              · have e2 : (l.set i V).getD j .junk = l.getD j .junk := by simp [List.getD, List.getElem?_set_ne hij]
                rw [e2]; exact h7
            · rw [upd_ne _ _ hs']; exact k5.blk s'
        cases stk with
        | true =>
          obtain ⟨E', k1, k2, k5⟩ := SR.stkd hS (s := g) (ver := 0) (get := fun _ => []) hgr hpos hn.1 (.inl ⟨hn.2, rfl⟩) (fun i hi => by omega) (fun i hi => by omega) (fun j h => by rw [hg] at h; cases h)
          exact ghostX_sound hoff r (fin E' _ _ (fun j h => by cases h) k5 (nils_stk k2)) h
        | false =>
          obtain ⟨E', k1, k2, _, k4, k5⟩ := SR.grew hS 0 0 hgr hpos (fun _ _ _ => Nat.le_refl _) (Nat.le_refl _) (fun _ => rfl) hn.1 (.inl ⟨hn.2, rfl, rfl⟩) (fun b h => nomatch h) (fun j h => by rw [hg] at h; cases h)
          exact ghostX_sound hoff r (fin E' _ _ (fun j h => by cases h) k5 (nils_grow k2)) h
      · exact h.elim
    · exact h.elim
  | .row s slot g el sz :: r, st, E, k, hS, h => by
    simp only [ghostX] at h
    split at h
    · rename_i kk a' hg ha
      split at h
      · rename_i n sz' get hs
        obtain ⟨hz, ⟨p1, p2, p3⟩, h⟩ := h
        simp only [Bool.and_eq_true] at hz
        obtain rfl := Nat.eq_of_beq_eq_true hz.1
        have hpos : 0 < sz := Nat.le_of_ble_eq_true hz.2
        have hn := hS.blk g
        rw [hg] at hn
        have hne : s ≠ g := by rintro rfl; rw [hs] at hg; cases hg
        have hgr : Grew0 w w el sz none 0 0 0 [] none 0 := ⟨fun _ => ⟨rfl, rfl⟩, (fun b h => nomatch h), fun _ _ _ => rfl, rfl, rfl, rfl, Nat.le_refl _⟩
        obtain ⟨E', k1, k2, _, k4, k5⟩ := SR.grew hS 0 0 hgr hpos (fun _ _ _ => Nat.le_refl _) (Nat.le_refl _) (fun _ => rfl) hn.1 (.inl ⟨hn.2, rfl, rfl⟩) (fun b h => nomatch h) (fun j h => by rw [hg] at h; cases h)
        refine ghostX_sound hoff r (E := E') ?_ h
        refine ⟨k5.dfr.step (fun _ _ h _ => h) (upd_jmp fun j h => ?_), k5.slots, fun s' => ?_, k5.inj, k5.σok, k5.bel, k5.bas, k5.σin, k5.σout, k5.fr⟩
        · have : upd st.blocks g (.grow 0 el sz) s = .jmp j := h
          rw [upd_ne _ _ hne, hs] at this; cases this
        · show BR E' w base s' (upd (upd st.blocks g (.grow 0 el sz)) s _ s')
          by_cases hs' : s' = s
          · subst hs'
            rw [upd_same]
            have hb := k5.blk s'
            have e : (st.setB (some (g, .grow 0 el sz))).blocks s' = .arr n 1 get := by
              show upd st.blocks g (.grow 0 el sz) s' = _
              rw [upd_ne _ _ hne, hs]
            rw [e] at hb
            obtain ⟨h1, b, arr, e, h2, h3, h4, h5, h6⟩ := hb
            refine ⟨h1, b, arr, e, h2, h3, h4, by omega, by omega, fun k hk hki => ⟨(h6 k hk).1, ?_⟩, ?_⟩
            · have := (h6 k hk).2 0 (by omega)
              simpa using this
            · have := (h6 a'.toNat (by omega)).2 0 (by omega)
              rw [p3] at this
              have e2 : arr.getD (a'.toNat * 1 + 0) undef = .slice none 0 0 := (Rel.pure (E := E') (show RelP E'.σ w .nils _ from this)).nils_inv
              have e3 : a'.toNat * 1 + 0 = a'.toNat := by omega
              rw [e3] at e2
              rw [e2]
              exact nils_grow k2
          · rw [upd_ne _ _ hs']; exact k5.blk s'
      · exact h.elim
    · exact h.elim
  | .arrv s :: r, st, E, k, hS, h => by
    simp only [ghostX] at h
    split at h
    · rename_i l hs
      split at h
      · rename_i g hg
        refine ghostX_sound hoff r (E := E) ?_ h
        refine ⟨hS.dfr.step (fun _ _ h _ => h) (upd_jmp fun j h => ?_), hS.slots, fun s' => ?_, hS.inj, hS.σok, hS.bel, hS.bas, hS.σin, hS.σout, hS.fr⟩
        · rw [hs] at h; cases h
        · show BR E w base s' (upd st.blocks s _ s')
          by_cases hs' : s' = s
          · subst hs'
            rw [upd_same]
            have hb := hS.blk s'
            rw [hs] at hb
            obtain ⟨h1, b, arr, e, h2, h3, h4, h5, h6⟩ := hb
            exact ⟨h1, b, arr, e, h2, h3, h4, h5, fun i hi => viewOf_rel hg i hi (h6 i hi)⟩
          · rw [upd_ne _ _ hs']; exact hS.blk s'
      · exact h.elim
    · exact h.elim
  | .slot d g el sz :: r, st, E, k, hS, h => by
    simp only [ghostX] at h
    split at h
    · rename_i hd hg
      obtain ⟨hz, h⟩ := h
      have hpos : 0 < sz := Nat.le_of_ble_eq_true hz
      have hn := hS.blk g
      rw [hg] at hn
      have hgr : Grew0 w w el sz none 0 0 0 [] none 0 := ⟨fun _ => ⟨rfl, rfl⟩, (fun b h => nomatch h), fun _ _ _ => rfl, rfl, rfl, rfl, Nat.le_refl _⟩
      obtain ⟨E', k1, k2, k5⟩ := SR.stkd hS (s := g) (ver := 0) (get := fun _ => []) hgr hpos hn.1 (.inl ⟨hn.2, rfl⟩) (fun i hi => by omega) (fun i hi => by omega) (fun j h => by rw [hg] at h; cases h)
      refine ghostX_sound hoff r (E := E') ?_ h
      refine ⟨k5.dfr, fun n => ?_, k5.blk, k5.inj, k5.σok, k5.bel, k5.bas, k5.σin, k5.σout, k5.fr⟩
      show Rel E' w (upd st.slots d (.stk g 0 0) n) _
      by_cases hnd : n = d
      · subst hnd
        rw [upd_same]
        have := hS.slots n
        rw [hd] at this
        rw [this.nils_inv]
        exact nils_stk k2
      · rw [upd_ne _ _ hnd]; exact k5.slots n
    · exact h.elim
  | .own d live keep :: r, st, E, k, hS, h => by
    simp only [ghostX] at h
    split at h
    · rename_i s ver len hd
      split at h
      · rename_i ver' len' el sz get hs
        obtain ⟨hk, ⟨rfl, rfl, hlen⟩, h⟩ := h
        have hk : keepQ w0.off keep s = false := by rw [hoff]; simpa using hk
        have hc := SR.clean' hS live keep
        rw [hoff] at hc hk
        generalize hq : keepQ off keep = q at hc hk
        have hb := hS.blk s
        rw [hs] at hb
        obtain ⟨h1, g, h2, hown, hL, hln, hno, ⟨hsz, hgl⟩, hbo⟩ := hb
        have hdv := hS.slots d
        rw [hd] at hdv
        obtain ⟨ad, cap, g', hv, hg', hL', hx⟩ := hdv.stk_inv
        rw [h2] at hg'
        obtain rfl := Option.some.inj hg'
        obtain ⟨ea, ec, el'⟩ := hx hL.symm
        cases hbb : g.bo with
        | none => exact absurd (hno hbb).1 (by omega)
        | some b =>
        obtain ⟨hbase, _, arr, hh, hasz, hcap, hmax, hr⟩ := hbo b hbb
        have hρs : (E.only q).ρ s = none := by simp [Env.only, hk]
        have hhs : (E.only q).hd s = none := by simp [Env.only, hk]
        let E' : Env := ⟨fun s' => if s' = s then some (b, sz) else (E.only q).ρ s', (E.only q).hd, E.σ⟩
        have hE' : (E.only q).le E' := ⟨fun s' x h => by
          show (if s' = s then some (b, sz) else (E.only q).ρ s') = some x
          by_cases e : s' = s
          · rw [e, hρs] at h; cases h
          · rw [if_neg e]; exact h, fun _ _ h => h, fun _ g h => ⟨g, h, Nat.le_refl _, fun _ => ⟨rfl, rfl, rfl⟩⟩⟩
        have hat : ∀ s' b', E'.at s' = some b' → (s' = s ∧ b' = b) ∨ (s' ≠ s ∧ (E.only q).at s' = some b') := fun s' b' h => by
          by_cases e : s' = s
          · subst e
            have h : (match (if s' = s' then some (b, sz) else (E.only q).ρ s') with | some (b, _) => some b | none => _) = some b' := h
            rw [if_pos rfl] at h
            exact .inl ⟨rfl, (Option.some.inj h).symm⟩
          · refine .inr ⟨e, ?_⟩
            have h : (match (if s' = s then some (b, sz) else (E.only q).ρ s') with | some (b, _) => some b | none => match (E.only q).hd s' with | some g => g.bo | none => none) = some b' := h
            rw [if_neg e] at h
            exact h
        have hat0 : E.at s = some b := by simp [Env.at, h1, h2, hbb]
        have honly : ∀ s' b', (E.only q).at s' = some b' → E.at s' = some b' := fun s' b' h => by
          cases hk' : q s' with
          | true => simpa [Env.at, Env.only, hk'] using h
          | false => simp [Env.at, Env.only, hk'] at h
        refine ghostX_sound hoff r (E := E') ?_ h
        refine ⟨hc.dfr.step (fun _ _ h _ => h) (upd_jmp fun j h => ?_), fun n => ?_, fun s' => ?_, fun s1 s2 b' e1 e2 => ?_, fun b' o hσ => ?_, hc.bel, hc.bas, hc.σin, hc.σout, fun q' p v hΦ => (hc.fr q' p v hΦ).mono (Env.only_le hE' q') fun _ _ _ => rfl⟩
        · have hb2 := hc.blk s
          rw [h] at hb2
          have : (look (keep.map fun s => (s, pruneB (keepQ off keep) (st.blocks s))) s).getD (bif Nat.blt s off then pruneB (keepQ off keep) (st.blocks s) else .none) = .jmp j := h
          rw [look_map] at this
          rw [← hq] at hk
          have hk2 : Nat.blt s off = false ∧ has keep s = false := by simpa [keepQ] using hk
          rw [hk2.1, hk2.2] at this
          cases this
        · show Rel E' w (upd _ d (.own s len) n) _
          by_cases hnd : n = d
          · subst hnd
            rw [upd_same, hv, ea, hbb]
            exact .own s _ b sz cap (if_pos rfl) (by omega)
          · rw [upd_ne _ _ hnd]; exact (hc.slots n).mono hE' fun _ _ _ => rfl
        · show BR E' w base s' (upd _ s _ s')
          by_cases hs' : s' = s
          · subst hs'
            rw [upd_same]
            exact ⟨hhs, b, arr, el, if_pos rfl, hbase, hh, by rw [hasz]; exact Nat.mul_le_mul_right _ hcap, fun i hi => ⟨hgl i hi, fun j hj => hr i hi j hj⟩⟩
          · rw [upd_ne _ _ hs']
            exact (hc.blk s').keep hE' (fun _ _ _ => rfl) (if_neg hs') rfl fun _ _ => rfl
        · rcases hat s1 b' e1 with ⟨r1, x1⟩ | ⟨r1, x1⟩
          · rcases hat s2 b' e2 with ⟨r2, x2⟩ | ⟨r2, x2⟩
            · exact r1.trans r2.symm
            · subst x1
              exact r1.trans (hS.inj s s2 _ hat0 (honly _ _ x2))
          · rcases hat s2 b' e2 with ⟨r2, x2⟩ | ⟨r2, x2⟩
            · subst x2
              exact (hS.inj s1 s _ (honly _ _ x1) hat0).trans r2.symm
            · exact hc.inj s1 s2 b' x1 x2
        · obtain ⟨k1, k2, k3⟩ := hc.σok b' o hσ
          refine ⟨k1, fun s1 sz1 e => ?_, k3⟩
          by_cases e1 : s1 = s
          · have e : (if s1 = s then some (b, sz) else (E.only q).ρ s1) = some (b', sz1) := e
            rw [if_pos e1] at e
            injection e with e
            injection e with e _
            subst e
            have := ((hS.σok b o hσ).2.2 s g h2 hbb).1
            rw [hown] at this
            cases this
          · have e : (if s1 = s then some (b, sz) else (E.only q).ρ s1) = some (b', sz1) := e
            rw [if_neg e1] at e
            exact k2 s1 sz1 e
      · exact h.elim
    · exact h.elim
  | .frz d live keep :: r, st, E, k, hS, h => by
    simp only [ghostX] at h
    split at h
    · rename_i s ver len hd
      split at h
      · rename_i ver' len' el sz get hs
        obtain ⟨hk, ⟨rfl, rfl⟩, h⟩ := h
        have hb := hS.blk s
        rw [hs] at hb
        obtain ⟨h1, g, h2, hown, hL, hln, hno, ⟨hsz, hgl⟩, hbo⟩ := hb
        have hdv := hS.slots d
        rw [hd] at hdv
        obtain ⟨ad, cap, g', hv, hg', hL', hx⟩ := hdv.stk_inv
        rw [h2] at hg'
        obtain rfl := Option.some.inj hg'
        obtain ⟨ea, ec, el'⟩ := hx hL.symm
        rw [ea] at hv
        cases hbb : g.bo with
        | none =>
          rw [hbb] at hv
          obtain ⟨z1, z2⟩ := hno hbb
          obtain ⟨E', k5⟩ := SR.freeze hoff hS live keep (s := s) (d := d) (bo := none) (sz := sz) (get := get) (arr := #[]) (el := el) hk (fun b h => nomatch h) hv (by omega) (fun _ => ⟨z1, by omega⟩) hgl (fun b h => nomatch h) (fun i hi => by omega)
          exact ghostX_sound hoff r k5 h
        | some b =>
          rw [hbb] at hv
          obtain ⟨hbase, _, arr, hh, hasz, hcap, hmax, hr⟩ := hbo b hbb
          obtain ⟨E', k5⟩ := SR.freeze hoff hS live keep (s := s) (d := d) (bo := some b) (sz := sz) (get := get) (arr := arr) (el := el) hk (fun b' h => by cases h; exact ⟨by simp [Env.at, h1, h2, hbb], hh⟩) hv (by omega) (fun h => nomatch h) hgl (fun _ _ => by rw [hasz]; exact Nat.mul_le_mul_right _ hcap) hr
          exact ghostX_sound hoff r k5 h
      · exact h.elim
    · rename_i s len hd
      split at h
      · rename_i len' sz get hs
        obtain ⟨hk, hle, h⟩ := h
        have hb := hS.blk s
        rw [hs] at hb
        obtain ⟨h1, b, arr, el, h2, hbase, hh, hasz, hr⟩ := hb
        have hdv := hS.slots d
        rw [hd] at hdv
        obtain ⟨b', sz', cap, h2', hcap, hv⟩ := hdv.own_inv
        rw [h2] at h2'
        cases h2'
        obtain ⟨E', k5⟩ := SR.freeze hoff hS live keep (s := s) (d := d) (bo := some b) (sz := sz) (get := get) (arr := arr) (el := el) hk (fun b' h => by cases h; exact ⟨by simp [Env.at, h2], hh⟩) hv hcap (fun h => nomatch h) (fun i hi => (hr i (by omega)).1) (fun _ _ => Nat.le_trans (Nat.mul_le_mul_right _ hle) hasz) (fun i hi j hj => (hr i (by omega)).2 j hj)
        exact ghostX_sound hoff r k5 h
      · exact h.elim
    · exact h.elim

theorem stepR_scope {P : Program} {b : Frame} {a : Act} {k : List Item} {cs : List Frame} {w : World} {c : Code} : step P (lone (b.atR a (.code (.scope c) :: k)) cs w) = .next (lone (b.atR a (.code c :: .inScope c :: k)) cs w) :=
  step_lone_go (by simp [stepG, stepG.exec, Frame.atR])
theorem stepR_inScope {P : Program} {b : Frame} {a : Act} {k : List Item} {cs : List Frame} {w : World} {c : Code} : step P (lone (b.atR a (.inScope c :: k)) cs w) = .next (lone (b.atR a k) cs w) :=
  step_lone_go (by simp [stepG, stepG.exec, Frame.atR])
theorem wpIn_scope {F : Fence} {n : Nat} {P : Program} {Q : Exit → Act → World → Prop} {a : Act} {w : World} {c : Code} (hg : ∀ l a w, ¬ Q (.goto l) a w) (h : c.wpIn F n P Q a w) : (Code.scope c).wpIn F n P Q a w := by
  intro b k cs hro hb hr
  have h0 : (lone (b.atR a (.code (.scope c) :: k)) cs w).fenced P F := fenced_calm hb hr rfl
  obtain ⟨e, a₁, w₁, hq, harr⟩ := h b (.inScope c :: k) cs hro hb hr
  cases e with
  | normal => exact ⟨.normal, a₁, w₁, hq, .head h0 stepR_scope (StepsIn.trans harr (.one (fenced_calm hb hr rfl) stepR_inScope))⟩
  | exit id =>
    have hx : exitTo id (.inScope c :: k) = exitTo id k := by simp [exitTo]
    exact ⟨.exit id, a₁, w₁, hq, fun k' hk => .head h0 stepR_scope (harr.1 k' (by rw [hx]; exact hk)),
      fun hr' hk => let ⟨k₁, h1, h2⟩ := harr.2 hr' (by rw [hx]; exact hk); ⟨k₁, h1, .head h0 stepR_scope h2⟩⟩
  | goto l => exact (hg _ _ _ hq).elim
  | ret => exact ⟨_, a₁, w₁, hq, .of_steps (.one h0 stepR_scope) harr⟩
  | panic ch => exact ⟨_, a₁, w₁, hq, .of_steps (.one h0 stepR_scope) harr⟩
  | outgrown => exact ⟨_, a₁, w₁, hq, .of_steps (.one h0 stepR_scope) harr⟩
theorem evalCode_sound (hm : P.follows .mixedOrders = true) : ∀ (c : Code) (C : Ctx) (w0 : Orig) (r : Option Nat), CtxOk P C → w0.off = C.off → (∀ y, C.yld = some y → SoundY P base w0 y) → (C.rnd = false → r = none) → ∀ (st : St) (E : Env) (a : Act) (w : World) (K : Out → Prop), SR E base w0 st a w → a.tmps.size = N → okCode (okOper N) c = true → evalCode C c st K → c.wpIn (Fc r) 0 P (OutQ base w0 N K) a w := by
  intro c
  induction c with
  | skip => intro C w0 r hC hoff hY hr st E a w K hS hN _ h; exact wpIn_skip ⟨E, st, h, hS, hN⟩
  | ret => intro C w0 r hC hoff hY hr st E a w K hS hN _ h; exact wpIn_ret ⟨E, st, h, hS, hN⟩
  | exit n => intro C w0 r hC hoff hY hr st E a w K hS hN _ h; exact wpIn_exit ⟨E, st, h, hS, hN⟩
  | label n => intro C w0 r hC hoff hY hr st E a w K hS hN _ h; exact wpIn_label ⟨E, st, h, hS, hN⟩
  | scope x ih => intro C w0 r hC hoff hY hr st E a w K hS hN hok h; exact wpIn_scope (fun _ _ _ hq => hq) (ih C w0 r hC hoff hY hr st E a w K hS hN hok h)
  | region id ops draw =>
    intro C w0 r hC hoff hY hr st E a w K hS hN hok h
    simp only [okCode, Bool.and_eq_true] at hok
    simp only [evalCode] at h
    obtain ⟨E, st, hS, h⟩ : ∃ E st, SR E base w0 st a w ∧ evalReg C ops draw st K := by
      split at h
      · exact ⟨E, st, hS, h⟩
      · exact ghostX_sound hoff _ hS h
    unfold evalReg at h
    cases hmg : C.merge with
    | true =>
      rw [hmg] at h
      simp only [cond_true] at h
      have hreb : ∀ {E' st' a' w'}, rebase C st' (fun st => K (.normal st)) → SR E' base w0 st' a' w' → a'.tmps.size = N → OutQ base w0 N K .normal a' w' := by
        intro E' st' a' w' hk hS' hN'
        obtain ⟨E2, st2, h1, h2⟩ := rebase_sound hoff hS' hk
        exact ⟨E2, st2, h1, h2, hN'⟩
      cases hgd : guarded ops.toList with
      | true =>
        rw [hgd] at h
        simp only [cond_true] at h
        have hR : Real st st [] := ⟨rfl, fun _ _ => rfl, fun _ _ _ h => (by cases h), fun _ _ _ h => (by cases h), fun _ _ _ h => (by cases h), fun _ h => (by cases h)⟩
        obtain ⟨tr', stf, full, h1, h2, h3, h4⟩ := evalM_run _ st st [] [] _ hR h
        have hQ : ∀ E' st' a' w', (∃ st2, SLe st' st2 ∧ rebase C st2 fun st => K (.normal st)) → SR E' base w0 st' a' w' → a'.tmps.size = N → OutQ base w0 N K .normal a' w' := by
          rintro E' st' a' w' ⟨st2, hle, hk⟩ hS' hN'
          exact hreb hk (hS'.le hle) hN'
        cases draw with
        | false =>
          refine wpIn_region_list ?_
          have e : (ops.toList.zipIdx.map fun (o, i) => (i, o)).map Prod.snd = ops.toList := by
            rw [List.map_map]
            exact (List.map_congr_left fun x _ => rfl).trans (List.zipIdx_map_fst 0 ops.toList)
          have := runT_list (r := r) hC (fun st' => ∃ st2, SLe st' st2 ∧ rebase C st2 fun st => K (.normal st)) hQ _ tr' st stf E a w h1 h4 hS hN (by rw [e]; exact hok.1)
          rw [e] at this
          exact this
        | true =>
          have hfit : fitOps ops.toList = true := by simpa using hok.2
          refine wpIn_region_any hm ?_
          have := wpAny_run (r := r) hC hfit hok.1 (fun st' => ∃ st2, SLe st' st2 ∧ rebase C st2 fun st => K (.normal st)) [] (Q := OutQ base w0 N K) (fun E' st' a' w' listed' hk hS' hN' hL' => ⟨List.eq_nil_iff_forall_not_mem.2 fun i hi => by obtain ⟨o, ho, _⟩ := hL'.ancs_done hfit hi; simp at ho, hQ E' st' a' w' hk hS' hN'⟩)
            ops.toList.length _ (Array.replicate ops.size false) tr' st stf E a { w with drawn := w.drawn + 1 } (by simp) (by simpa using left_all ops) (by simp) h1 (calm_filter tr' (calm_sub (by simpa using h3) h2)) h4 (hS.drawn _) hN
          simpa using this
      | false =>
        rw [hgd] at h
        simp only [cond_false] at h
        cases draw with
        | false =>
          simp only [cond_false] at h
          exact wpIn_region_list (evalOps_sound hC hoff hY ops.toList st E a w _ hS hN hok.1 h fun E' st' a' w' hk hS' hN' => hreb hk hS' hN')
        | true =>
          simp only [cond_true] at h
          exact evalDs_sound hC hoff hY hm hS hN (by simpa using hok.2) hok.1 h fun E' st' a' w' hk hS' hN' => hreb hk hS' hN'
    | false =>
    rw [hmg] at h
    simp only [cond_false] at h
    cases draw with
    | false =>
      simp only [cond_false] at h
      exact wpIn_region_list (evalOps_sound hC hoff hY ops.toList st E a w _ hS hN hok.1 h fun E' st' a' w' hk hS' hN' => ⟨E', st', hk, hS', hN'⟩)
    | true =>
      simp only [cond_true] at h
      exact evalDs_sound hC hoff hY hm hS hN (by simpa using hok.2) hok.1 h fun E' st' a' w' hk hS' hN' => ⟨E', st', hk, hS', hN'⟩
  | seq x y ihx ihy =>
    intro C w0 r hC hoff hY hr st E a w K hS hN hok h
    simp only [okCode, Bool.and_eq_true] at hok
    simp only [evalCode] at h
    refine wpIn_seq (wpIn_mono (ihx C w0 r hC hoff hY hr st E a w _ hS hN hok.1 h) fun e a' w' hq => ?_)
    cases e with
    | normal =>
      obtain ⟨E', st', hk, hS', hN'⟩ := hq
      exact ihy C w0 r hC hoff hY hr st' E' a' w' K hS' hN' hok.2 hk
    | _ => exact hq
  | cond c x y ihx ihy =>
    intro C w0 r hC hoff hY hr st E a w K hS hN hok h
    simp only [okCode, Bool.and_eq_true] at hok
    simp only [evalCode] at h
    have hc := hS.ev c
    cases hv : V.ev st.slots c with
    | tt => rw [hv] at h hc; exact wpIn_cond_true hc.tt_inv (ihx C w0 r hC hoff hY hr st E a w K hS hN hok.1 h)
    | ff => rw [hv] at h hc; exact wpIn_cond_false hc.ff_inv (ihy C w0 r hC hoff hY hr st E a w K hS hN hok.2 h)
    | bool b => rw [hv] at h hc; exact wpIn_cond_split hc.bool_inv (fun hb => ihx C w0 r hC hoff hY hr st E a w K hS hN hok.1 (h.1 hb)) fun hb => ihy C w0 r hC hoff hY hr st E a w K hS hN hok.2 (h.2 hb)
    | _ => rw [hv] at h; exact h.elim
  | block id x ih =>
    intro C w0 r hC hoff hY hr st E a w K hS hN hok h
    simp only [okCode] at hok
    simp only [evalCode] at h
    refine wpIn_block (wpIn_mono (ih C w0 r hC hoff hY hr st E a w _ hS hN hok h) fun e a' w' hq => ?_)
    cases e with
    | exit n =>
      obtain ⟨E', st', hk, hS', hN'⟩ := hq
      simp only at hk
      simp only [Exit.inBlock]
      cases hb : Nat.beq n id with
      | true =>
        rw [hb] at hk
        rw [if_pos (Nat.eq_of_beq_eq_true hb)]
        exact ⟨E', st', hk, hS', hN'⟩
      | false =>
        rw [hb] at hk
        rw [if_neg (by rintro rfl; simp at hb)]
        exact ⟨E', st', hk, hS', hN'⟩
    | _ => exact hq
  | loop x ih =>
    intro C w0 r hC hoff hY hr st E a w K hS hN hok h
    simp only [okCode] at hok
    simp only [evalCode] at h
    rw [← hoff] at h
    obtain ⟨live, keep, Inv, μ, ⟨st1, hle, hI⟩, hround⟩ := h.get
    obtain ⟨E1, hS1⟩ := hS.clean live keep
    have hS1 := hS1.le hle
    let Good : Act → World → Nat → Prop := fun a w n => ∃ E st, Inv st ∧ SR E base w0 st a w ∧ a.tmps.size = N ∧ μ st = n
    have hgood : ∀ {a w}, (∃ n, Good a w n) → ∃ n, Good a w n ∧ ∀ m, Good a w m → n ≤ m := fun h => exists_least h
    let ν : Act → World → Nat := fun a w => @Classical.epsilon Nat ⟨0⟩ fun n => Good a w n ∧ ∀ m, Good a w m → n ≤ m
    have hν : ∀ {a w}, (∃ n, Good a w n) → Good a w (ν a w) ∧ ∀ m, Good a w m → ν a w ≤ m := fun h => Classical.epsilon_spec (hgood h)
    refine wpIn_loop (fun a w => ∃ n, Good a w n) ν ⟨_, E1, st1, hI, hS1, hN, rfl⟩ fun a w hg => ?_
    obtain ⟨⟨E2, st2, hI2, hS2, hN2, hμ⟩, _⟩ := hν hg
    refine wpIn_mono (ih C w0 r hC hoff hY hr st2 E2 a w _ hS2 hN2 hok (hround st2 hI2)) fun e a' w' hq => ?_
    cases e with
    | normal =>
      obtain ⟨E', st', hnx, hS', hN'⟩ := hq
      obtain ⟨st3, hle3, hI3, hlt⟩ := hnx.get
      obtain ⟨E3, hS3⟩ := hS'.clean live keep
      have hg3 : Good a' w' (μ st3) := ⟨E3, st3, hI3, hS3.le hle3, hN', rfl⟩
      refine ⟨⟨_, hg3⟩, ?_⟩
      have := (hν ⟨_, hg3⟩).2 _ hg3
      omega
    | _ => exact hq
  | rangeFunc g ps assign body iha ihb =>
    intro C w0 r hC hoff hY hr st E a w K hS hN hok h
    simp only [okCode, Bool.and_eq_true] at hok
    obtain ⟨⟨hok0, hoka⟩, hokb⟩ := hok
    simp only [evalCode] at h
    cases hrd : C.rnd with
    | true => rw [hrd] at h; exact h.elim
    | false =>
    rw [hrd] at h
    obtain rfl := hr hrd
    simp only at h
    obtain ⟨gs, h⟩ := h.get
    cases hgs : ghost st gs with
    | none => rw [hgs] at h; exact h.elim
    | some st2 =>
    rw [hgs] at h
    simp only at h
    obtain ⟨E0, hS⟩ := ghost_sound gs hS hgs
    clear hgs
    generalize st2 = st at hS h
    generalize E0 = E at hS
    have hg := hS.ev g
    split at h
    · rename_i f xs ys hgv
      rw [hgv] at hg
      obtain ⟨va, vb, ev', ha, hb, h1, h2⟩ := hg.fn_inv
      split at h
      · rename_i s0 o1 o2 I hI
        split at h
        · rename_i hnone
          obtain ⟨hbs, h⟩ := h
          simp only [Bool.and_eq_true] at hbs
          have hs0 : w0.off ≤ s0 := by rw [hoff]; exact Nat.le_of_ble_eq_true hbs.1.1
          have hs1 : s0 < o1 := Nat.le_of_ble_eq_true hbs.1.2
          have hs2 : o1 ≤ o2 := Nat.le_of_ble_eq_true hbs.2
          obtain ⟨hsnd, fn', fc, hfn, hnm, hbd⟩ := hC.iters f s0 o1 o2 I hI
          have hnm' : fn'.name ≠ "runtime.NumGoroutine" := by simpa using hnm
          refine wpIn_rangeFunc ?_
          intro fn _
          obtain ⟨rec, hrec⟩ : ∃ rec : Loop, rec = { state := .ready, pending := none, fn, tmps := a.tmps, params := ps, assign, body, defers := w.heap.size } := ⟨_, rfl⟩
          obtain ⟨W1, hW1⟩ : ∃ W1, (w.alloc (.deferred (some []))).alloc (.loop rec) = W1 := ⟨_, rfl⟩
          have hold : ∀ b : Nat, b < w.heap.size → W1.heap[b]? = w.heap[b]? := fun b hb => by
            rw [← hW1]
            exact (heap_alloc_lt _ _ (by simp; omega)).trans (heap_alloc_lt _ _ hb)
          have hL1 : W1.heap[w.heap.size + 1]? = some (.loop rec) := by
            rw [← hW1]; have := World.alloc_heap_new (w.alloc (.deferred (some []))) (.loop rec); rwa [World.size_alloc] at this
          have hK1 : W1.heap[w.heap.size]? = some (.deferred (some [])) := by
            rw [← hW1]; exact (Below.heap_alloc _ _ _ (by simp)).trans (World.alloc_heap_new w _)
          have hbas := hS.bas
          obtain ⟨Ds, hDs, hDn, hDb⟩ := hS.dfr.dfr
          have hDlt : ∀ D ∈ Ds, D < w.heap.size := fun D hD => (Array.getElem?_eq_some_iff.1 (hDb D hD).2.1).1
          have hDs' : markOf w.heap.size :: a.defers = (w.heap.size :: Ds).map markOf := by rw [hDs]; rfl
          have hDn' : (w.heap.size :: Ds).Nodup := List.nodup_cons.2 ⟨fun h => by have := hDlt _ h; omega, hDn⟩
          have hκlt : ∀ b o, w0.κ b o → b < w.heap.size := fun b o hk => (Array.getElem?_eq_some_iff.1 (hS.dfr.kp b o hk)).1
          have hDb' : ∀ D ∈ w.heap.size :: Ds, base ≤ D ∧ ∀ o, ¬ w0.κ D o := by
            intro D hD
            rcases List.mem_cons.1 hD with rfl | hD
            · exact ⟨hbas, fun o hk => by have := hκlt _ o hk; omega⟩
            · exact ⟨(hDb D hD).1, (hDb D hD).2.2⟩
          have hfresh : ∀ s r, w0.rc s ≠ some (w.heap.size + 1, r) := fun s r hx => by
            obtain ⟨j, _, hj⟩ := hS.dfr.jp s _ r hx
            have := (Array.getElem?_eq_some_iff.1 hj).1
            omega
          have hS1 : SR E base w0 ⟨st.slots, st.blocks⟩ { a with defers := markOf w.heap.size :: a.defers } W1 := by
            refine hS.books rfl rfl rfl (fun _ _ _ h => h) (fun b c e f hb => (hold b (Array.getElem?_eq_some_iff.1 hb).1).trans hb) (fun b o hb => cell_of_heap (hold b hb)) ?_ (fun _ => .inl rfl) ⟨⟨w.heap.size :: Ds, hDs', hDn', fun D hD => ⟨(hDb' D hD).1, ?_, (hDb' D hD).2⟩⟩, fun b o hk => (hold b (hκlt b o hk)).trans (hS.dfr.kp b o hk), fun s l r hx => ?_⟩
            · rw [← hW1]; exact ((Below.refl base w).alloc hbas _).alloc (by simp; omega) _
            · rcases List.mem_cons.1 hD with rfl | hD
              · exact hK1
              · exact (hold D (hDlt D hD)).trans (hDb D hD).2.1
            · obtain ⟨j, g1, g2⟩ := hS.dfr.jp s l r hx
              exact ⟨j, g1, (hold l (Array.getElem?_eq_some_iff.1 g2).1).trans g2⟩
          have hrec0 : JS.ready.loopOf rec = rec := by rw [hrec]; rfl
          have hS2 := hS1.callO (off := o1) (hle := by omega) (ex := some (s0, w.heap.size + 1, rec)) (hex := by intro x hx; cases hx; exact ⟨hs1, hfresh⟩) (bl := upd st.blocks s0 (.jmp .ready))
            (fun s => by
              by_cases hs : s = s0
              · subst hs; rw [upd_same]; exact bare_ok (B := .none) rfl rfl (by have := hS1.blk s; rw [show (St.blocks ⟨st.slots, st.blocks⟩) s = .none from hnone] at this; exact this)
              · rw [upd_ne _ _ hs]; exact hS1.blk s) (upd_jmp fun j hj => by rw [show (St.blocks ⟨st.slots, st.blocks⟩) s0 = .none from hnone] at hj; cases hj)
            (by intro x hx; cases hx; exact ⟨.ready, upd_same _ _ _, by rw [hrec0]; exact hL1⟩)
          have hrow : RowR E W1 (xs ++ (.yld (w.heap.size + 1) :: ys)) (va ++ (#[.func (.yield (w.heap.size + 1)) #[] #[]] ++ vb)) := by
            have hm : ∀ {p v}, Rel E w p v → Rel E W1 p v := fun h => h.mono (Env.le_refl _) fun b o hb => cell_of_heap (hold b (hS.σok b o hb).1)
            refine RowR.append ⟨ha, fun i hi => hm (h1 i hi)⟩ (RowR.append (l := [.yld (w.heap.size + 1)]) ⟨rfl, fun i hi => ?_⟩ ⟨hb, fun i hi => hm (h2 i hi)⟩)
            have : i = 0 := by simpa using hi
            subst this
            exact .pure (.yld _)
          have hxl : ∀ x, some (s0, w.heap.size + 1, rec) = some x → w0.off ≤ x.1 := by intro x hx; cases hx; exact hs0
          have hle1 := callO_le (w0 := w0) (off := o1) (hle := by omega) (sl := st.slots) (a := { a with defers := markOf w.heap.size :: a.defers }) (ex := some (s0, w.heap.size + 1, rec)) (hex := by intro x hx; cases hx; exact ⟨hs1, hfresh⟩) hxl
          have hcall := hsnd _ _ _ _ rfl rfl (h (w.heap.size + 1)) E base _ W1 (va ++ (#[.func (.yield (w.heap.size + 1)) #[] #[]] ++ vb)) rfl hS2 ?_ hrow.1 hrow.2
          refine ⟨w.heap.size + 1, [markOf w.heap.size], W1, { target := .fn (.func f) vb, args := va ++ #[.func (.yield (w.heap.size + 1)) #[] #[]] }, W1, f, va ++ #[.func (.yield (w.heap.size + 1)) #[] #[]] ++ vb, W1, ?_, ?_, fun _ _ => trivial, ?_, (fun h => by cases h), ?_⟩
          · rw [← hW1, hrec]; exact run_enterLoop_outer _ _ _ _ _
          · simp [resolve, ev', Deferred.ofValue]
            rfl
          · simp [invoke, callFunc, hfn, hnm', hbd]
          · have hcall := calls_fc (r := none) hcall
            rw [← Array.append_assoc] at hcall
            refine CallsIn.mono hcall ?_
            rintro e w' ⟨v, p, bl', E', rfl, hk, hS', hv⟩
            have hrc : (callO w0 o1 (by omega) st.slots { a with defers := markOf w.heap.size :: a.defers } (some (s0, w.heap.size + 1, rec)) (by intro x hx; cases hx; exact ⟨hs1, hfresh⟩)).rc s0 = some (w.heap.size + 1, rec) := if_pos rfl
            obtain ⟨j, hj1, hj2⟩ := hS'.dfr.jp s0 _ _ hrc
            have hj1 : bl' s0 = .jmp j := hj1
            have hSb := SR.backO hDs' hDn' hDb' hxl hS'
            have hback : ∀ o : Loop, SR E' base w0 ⟨fun n => prune (fun s => Nat.blt s o1) (st.slots n), upd bl' s0 .none⟩ { a with defers := markOf w.heap.size :: a.defers } (w'.putObj (w.heap.size + 1) (.loop o)) := by
              intro o
              have hne : ∀ (b : Nat) x, w'.heap[b]? = some (.deferred x) → (w'.putObj (w.heap.size + 1) (.loop o)).heap[b]? = some (.deferred x) := fun b x hb =>
                (World.putObj_heap_other (by rintro rfl; rw [hj2] at hb; cases hb)).trans hb
              refine hSb.books rfl rfl rfl (fun _ _ _ h => h) (cells_putObj hj2 (.loop _)) (fun b o _ => cell_putObj hj2 (.loop _) (.loop _) b o) (below_putObj (by omega)) (fun s' => ?_) ⟨?_, fun b o hk => ?_, fun s l r hx => ?_⟩
              · by_cases hs : s' = s0
                · subst hs; exact .inr ⟨by show bareB (bl' s') = true; rw [hj1]; rfl, by rw [upd_same]; rfl⟩
                · exact .inl (upd_ne _ _ hs)
              · obtain ⟨Ds2, g1, g2, g3⟩ := hSb.dfr.dfr
                exact ⟨Ds2, g1, g2, fun D hD => ⟨(g3 D hD).1, hne _ _ (g3 D hD).2.1, (g3 D hD).2.2⟩⟩
              · have ho := w0.hκ b o hk
                subst ho
                exact hne _ _ (hSb.dfr.kp b _ hk)
              · obtain ⟨j', g1, g2⟩ := hSb.dfr.jp s l r hx
                have hs : s ≠ s0 := by rintro rfl; have := w0.hrc _ _ hx; omega
                refine ⟨j', by rw [upd_ne _ _ hs]; exact g1, (World.putObj_heap_other ?_).trans g2⟩
                rintro rfl
                exact hfresh s r hx
            rw [hj1] at hk
            cases j with
            | busy => exact hk.elim
            | ready =>
              refine ⟨none, _, by have := run_endLoop (P := P) hj2 (by simp [JS.loopOf]); exact this, ?_⟩
              exact ⟨E', _, hk, hback _, hN⟩
            | done e =>
              cases e with
              | none =>
                refine ⟨some .ret, _, by have := run_endLoop (P := P) hj2 (by simp [JS.loopOf]); exact this, ?_⟩
                exact wpIn_ret ⟨E', _, hk, hback _, hN⟩
              | some n =>
                refine ⟨some (.exit n), _, by have := run_endLoop (P := P) hj2 (by simp [JS.loopOf]); exact this, ?_⟩
                exact wpIn_exit ⟨E', _, hk, hback _, hN⟩
          · -- one round
            intro w1 hle hoff1 args bl K' hy hrdy E1 W vals hS3 hsz hrel
            obtain ⟨hlen, hy⟩ := hy
            have hlen : args.length = ps.size := Nat.eq_of_beq_eq_true hlen
            have hrc : w1.rc s0 = some (w.heap.size + 1, rec) := hle.rc _ _ (if_pos rfl)
            obtain ⟨j, hj1, hj2⟩ := hS3.dfr.jp s0 _ _ hrc
            have hj : j = .ready := by have hrdy : bl s0 = .jmp .ready := hrdy; rw [show (St.blocks ⟨fun _ => .junk, bl⟩) s0 = bl s0 from rfl, hrdy] at hj1; cases hj1; rfl
            subst hj
            have hrun := run_yield (P := P) (args := vals) hj2 (by rw [hsz, hlen, hrec]; rfl)
            rw [hrec0, hrec] at hrun
            have hpl : ps.toList.length = ps.size := by simp
            have hvl : vals.toList.length = ps.size := by simp [hsz, hlen]
            obtain ⟨hset, hset2⟩ := setPs_rel (E := E1) (w := W) ps.toList args vals.toList (fun n => prune (fun s => Nat.blt s o1) (st.slots n)) a.tmps (fun n => (hS3.fr _ _ _ (hle.Φ _ _ _ (.inr ⟨rfl, n, rfl, rfl⟩))).mono (Env.only_self _ _) fun _ _ _ => rfl) (by omega) (by omega)
              (fun i hi => by have := hrel i hi; simpa [Array.getD, List.getD, show i < vals.size by omega] using this) fun q hq => by
                rw [hN]
                have := List.all_eq_true.1 hok0 q hq
                exact okOper_dst this q rfl
            have hfold : (ps.zip vals).foldl (fun tmps (t, a) => tmps.setIfInBounds t a) a.tmps = (ps.toList.zip vals.toList).foldl (fun t (p, v) => t.setIfInBounds p v) a.tmps := by
              rw [← Array.toList_zip, Array.foldl_toList]
            rw [← hfold] at hset hset2
            refine ⟨fn, _, assign, body, hrun, roundIn_of_wpIn trivial ?_⟩
            have hS4 : SR E1 base w1 ⟨setPs (fun n => prune (fun s => Nat.blt s o1) (st.slots n)) ps.toList args, bl⟩ { tmps := (ps.zip vals).foldl (fun tmps (t, a) => tmps.setIfInBounds t a) a.tmps, defers := [] } W :=
              ⟨hS3.dfr, hset, hS3.blk, hS3.inj, hS3.σok, hS3.bel, hS3.bas, hS3.σin, hS3.σout, hS3.fr⟩
            have hC1 : CtxOk P { C with off := o2, rnd := true } := ⟨hC.effs, hC.types, hC.iters, hC.specs, hC.fresh⟩
            have hY1 : ∀ y, C.yld = some y → SoundY P base w1 y := fun y hy => (hY y hy).le (hle1.trans hle)
            refine wpIn_mono (iha { C with off := o2, rnd := true } w1 (some (w.heap.size + 1)) hC1 hoff1 hY1 (fun h => by cases h) _ E1 _ W _ hS4 (by rw [hset2, hN]) hoka hy) ?_
            rintro e a1 Wa hq
            cases e with
            | normal =>
              obtain ⟨E2, st1, hk, hS5, hN1⟩ := hq
              obtain ⟨hrd2, hk⟩ := hk
              obtain ⟨j2, hj3, hj4⟩ := hS5.dfr.jp s0 _ _ hrc
              rw [hj3] at hrd2
              have hj5 : j2 = .ready := by
                cases j2 with
                | ready => rfl
                | busy => exact hrd2.elim
                | done _ => exact hrd2.elim
              subst hj5
              refine ⟨_, run_beginRound hj4 (by simp [JS.loopOf]), ?_⟩
              have hS6 := hS5.turn hrc (by omega) .busy
              refine wpIn_mono (ihb { C with off := o2, rnd := true } w1 (some (w.heap.size + 1)) hC1 hoff1 hY1 (fun h => by cases h) _ E2 _ _ _ hS6 hN1 hokb hk) ?_
              have fin : ∀ {E3 st2 a3 W3} (j : JS), SR E3 base w1 st2 a3 W3 → ∃ E4, SR E4 base w1 ⟨fun _ => .junk, cutB o2 (upd st2.blocks s0 (.jmp j))⟩ noAct (W3.putObj (w.heap.size + 1) (.loop (j.loopOf rec))) := fun j hS7 => (hS7.turn hrc (by omega) j).cut hoff1
              have fin2 : ∀ {E3 st2 a3 W3} (jump : Option Code), SR E3 base w1 st2 a3 W3 → (Instr.endRound (w.heap.size + 1) jump).run P W3 = .ok (.bool jump.isNone) (W3.putObj (w.heap.size + 1) (.loop { rec with state := if jump.isNone then .ready else .done, pending := jump })) := by
                intro E3 st2 a3 W3 jump hS7
                obtain ⟨j3, g1, g2⟩ := hS7.dfr.jp s0 _ _ hrc
                have := run_endRound (P := P) jump g2
                have e : { j3.loopOf rec with state := if jump.isNone then .ready else .done, pending := jump } = { rec with state := if jump.isNone then .ready else .done, pending := jump } := by
                  cases j3 with
                  | done e => cases e <;> rfl
                  | _ => rfl
                rw [e] at this
                exact this
              rintro e a3 W3 hq
              cases e with
              | normal =>
                obtain ⟨E3, st2, hk, hS7, _⟩ := hq
                obtain ⟨E4, hS8⟩ := fin .ready hS7
                exact ⟨_, _, fin2 none hS7, _, _, _, E4, rfl, hk, hS8, .pure .tt⟩
              | ret =>
                obtain ⟨E3, st2, hk, hS7, _⟩ := hq
                obtain ⟨E4, hS8⟩ := fin (.done none) hS7
                exact ⟨_, _, fin2 (some .ret) hS7, _, _, _, E4, rfl, hk, hS8, .pure .ff⟩
              | exit n =>
                obtain ⟨E3, st2, hk, hS7, _⟩ := hq
                obtain ⟨E4, hS8⟩ := fin (.done (some n)) hS7
                exact ⟨_, _, fin2 (some (.exit n)) hS7, _, _, _, E4, rfl, hk, hS8, .pure .ff⟩
              | _ => exact hq.elim
            | exit n => obtain ⟨_, _, hk, _⟩ := hq; exact hk.elim
            | ret => obtain ⟨_, _, hk, _⟩ := hq; exact hk.elim
            | _ => exact hq.elim
        · exact h.elim
      · exact h.elim
    · exact h.elim
  | _ => intro C w0 r _ _ _ _ st E a w K _ _ hok _; simp [okCode] at hok

theorem resOf_sound (hC : CtxOk P C) (hS : SR E base w0 st a w) (r : ResultVar) (hne : resOf C st r ≠ .junk) : ∃ v, (match r with | .tmp t => (Pure.pure (a.tmps.getD t undef) : Sem Value) | .cell x t => (do loadVar t (← asAddr (a.tmps.getD x undef)))).run P w = .ok v w ∧ Rel E w (resOf C st r) v := by
  cases r with
  | tmp t => exact ⟨_, rfl, hS.slots t⟩
  | cell x t =>
    simp only [resOf] at hne ⊢
    have hx := hS.slots x
    cases hv : st.slots x with
    | ptr s off =>
      rw [hv] at hx
      simp only [hv] at hne ⊢
      obtain ⟨b, sz, hρ, e⟩ := hx.ptr_inv
      cases hl : look C.types t with
      | none => simp only [hl] at hne; exact (hne rfl).elim
      | some ti =>
        have ht := hC.types _ _ hl
        simp only [hl] at hne ⊢
        have hb := hS.blk s
        cases hB : st.blocks s with
        | cells l =>
          rw [hB] at hb
          simp only [hB] at hne ⊢
          obtain ⟨_, b', arr, el, hρ', _, hh, hsz, hr⟩ := hb
          rw [hρ] at hρ'
          simp only [Option.some.injEq, Prod.mk.injEq] at hρ'
          obtain ⟨rfl, _⟩ := hρ'
          cases hle : Nat.ble (off + ti.size) l.length with
          | false => rw [hle] at hne; exact (hne rfl).elim
          | true =>
            simp only [cond_true]
            have hle' := Nat.le_of_ble_eq_true hle
            obtain ⟨v, h1, h2⟩ := load_sound (E := E) (w := w) ht (b := b) (o := off) (cs := (l.drop off).take ti.size) (c := fun j => arr.getD (off + j) undef) (by simp; omega)
              (fun j hj => by simp [World.cell?, hh, show off + j < arr.size by omega]) (fun j hj => by rw [getD_take_drop hj]; exact hr _ (by omega))
            refine ⟨v, ?_, h2⟩
            simp only [Instr.loadAt, Instr.sureAddr, pure_bind] at h1
            simp [e, asAddr, h1]
        | _ => simp only [hB] at hne; exact (hne rfl).elim
    | _ => simp only [hv] at hne; exact (hne rfl).elim

def resSem (a : Act) (r : ResultVar) : Sem Value :=
  match r with
  | .tmp t => Pure.pure (a.tmps.getD t undef)
  | .cell x t => do loadVar t (← asAddr (a.tmps.getD x undef))

theorem results_list (hC : CtxOk P C) (hS : SR E base w0 st a w) : ∀ (rs : List ResultVar), (∀ r ∈ rs, plain2 (frz st.blocks (resOf C st r)) = true) → (frzPL st.blocks (rs.map (resOf C st))).getD True →
    ∃ vs : List Value, (rs.mapM (resSem a)).run P w = .ok vs w ∧ vs.length = rs.length ∧ ∀ i, i < rs.length → RelP (Frozen E st fun _ => false) w ((rs.map fun r => frz st.blocks (resOf C st r)).getD i .junk) (vs.getD i undef)
  | [], _, _ => ⟨[], by simp, rfl, fun i hi => by simp at hi⟩
  | r :: rs, h, hP => by
    obtain ⟨hP0, hP⟩ := andP_1 (p := frzP st.blocks (resOf C st r)) (q := frzPL st.blocks (rs.map (resOf C st))) hP
    obtain ⟨vs, h1, h2, h3⟩ := results_list hC hS rs (fun r hr => h r (List.mem_cons_of_mem _ hr)) hP
    have hr := h r (List.mem_cons_self ..)
    obtain ⟨v, g1, g2⟩ := resOf_sound hC hS r (by intro e; rw [e] at hr; cases hr)
    have g1' : (resSem a r).run P w = .ok v w := by cases r <;> exact g1
    refine ⟨v :: vs, ?_, by simp [h2], fun i hi => ?_⟩
    · simp only [List.mapM_cons, Sem.run_bind, g1', Result.andThen_ok, h1, Sem.run_pure]
    · cases i with
      | zero => exact frz_rel hS g2 hr hP0
      | succ i => exact h3 i (by simpa using hi)

theorem results_sound (hC : CtxOk P C) (hS : SR E base w0 st a w) (fn : Func) (hp : fn.results.toList.all (fun r => plain2 (frz st.blocks (resOf C st r))) = true) (hP : (frzPL st.blocks (fn.results.toList.map (resOf C st))).getD True) : ∃ v, (results fn a.tmps).run P w = .ok v w ∧ RelP (Frozen E st fun _ => false) w (results1 C fn.results.toList st) v := by
  have hall : ∀ r ∈ fn.results.toList, plain2 (frz st.blocks (resOf C st r)) = true := List.all_eq_true.1 hp
  obtain ⟨vs, h1, h2, h3⟩ := results_list hC hS fn.results.toList hall hP
  have hm : (fn.results.mapM (resSem a)).run P w = .ok vs.toArray w := by
    simp [Array.mapM_eq_mapM_toList, h1]
  have hres : (results fn a.tmps).run P w = .ok (if h : vs.toArray.size = 1 then vs.toArray[0] else .tuple vs.toArray) w := by
    have : results fn a.tmps = (do let vs ← fn.results.mapM (resSem a); Pure.pure (if h : vs.size = 1 then vs[0] else .tuple vs) : Sem Value) := by
      unfold results
      congr 1
    rw [this]
    simp only [Sem.run_bind, hm, Result.andThen_ok, Sem.run_pure]
  refine ⟨_, hres, ?_⟩
  match hl : fn.results.toList, vs, h2, h3 with
  | [r], [v], _, h3 => simpa [results1] using h3 0 (by simp)
  | [], [], _, h3 => exact .tup _ _ (by simp) fun i hi => by simp at hi
  | r1 :: r2 :: rs, v1 :: v2 :: vs, h2, h3 =>
    have e1 : results1 C (r1 :: r2 :: rs) st = .tup ((r1 :: r2 :: rs).map fun r => frz st.blocks (resOf C st r)) := rfl
    rw [e1]
    have e2 : (if h : (v1 :: v2 :: vs).toArray.size = 1 then (v1 :: v2 :: vs).toArray[0] else Value.tuple (v1 :: v2 :: vs).toArray) = .tuple (v1 :: v2 :: vs).toArray := by simp
    rw [e2]
    refine .tup _ _ (by simpa using h2) fun i hi => ?_
    rw [toArray_getD]
    exact h3 i (by simpa using hi)

theorem SR.moreσ (hS : SR E base w0 st a w) (σ' : Nat → Nat → Prop) (h1 : ∀ b o, E.σ b o → σ' b o) (h2 : ∀ b o, σ' b o → E.σ b o ∨ (base ≤ b ∧ b < w.heap.size ∧ (∀ s sz, E.ρ s ≠ some (b, sz)) ∧ ∀ s g, E.hd s = some g → g.bo ≠ some b)) : SR ⟨E.ρ, E.hd, σ'⟩ base w0 st a w := by
  have hle : E.le ⟨E.ρ, E.hd, σ'⟩ := ⟨fun _ _ h => h, h1, fun _ g h => ⟨g, h, Nat.le_refl _, fun _ => ⟨rfl, rfl, rfl⟩⟩⟩
  have hc : ∀ b o, E.σ b o → w.cell? ⟨b, o, none⟩ = w.cell? ⟨b, o, none⟩ := fun _ _ _ => rfl
  refine ⟨hS.dfr, fun n => (hS.slots n).mono hle hc, fun s => (hS.blk s).keep hle hc rfl rfl fun _ _ => rfl, hS.inj, fun b o h => ?_, hS.bel, hS.bas, fun b o h => h1 _ _ (hS.σin b o h), fun b o h => ?_, fun q p v h => (hS.fr q p v h).mono (Env.only_le hle q) hc⟩
  · rcases h2 b o h with h | ⟨g1, g2, g3, g4⟩
    · exact hS.σok b o h
    · exact ⟨g2, g3, fun s g h h' => (g4 s g h h').elim⟩
  · rcases h2 b o h with h | ⟨g1, _⟩
    · exact hS.σout b o h
    · exact .inr g1

def shut : List Nat → World → World
  | [], w => w
  | D :: Ds, w => shut Ds (w.putObj D (.deferred none))
theorem leaves_marks {fn : Func} {tmps : Array Value} {R : Ending → World → Prop} : ∀ (Ds : List Nat) (w : World), Ds.Nodup → (∀ D ∈ Ds, w.heap[D]? = some (.deferred (some []))) →
    (∃ v, (results fn tmps).run P (shut Ds w) = .ok v (shut Ds w) ∧ R (.returned v) (shut Ds w)) → LeavesInM (Fc none) 0 P fn tmps R (Ds.map markOf) .returning w
  | [], w, _, _, h => h
  | D :: Ds, w, hn, hd, h => by
    have hD := List.nodup_cons.1 hn
    refine ⟨(fun h => by cases h), .inl ⟨D, _, rfl, run_takeDeferred (hd D (List.mem_cons_self ..)), leaves_marks Ds _ hD.2 (fun D' h' => ?_) h⟩⟩
    exact (World.putObj_heap_other (by rintro rfl; exact hD.1 h')).trans (hd D' (List.mem_cons_of_mem _ h'))
theorem SR.shut : ∀ (Ds : List Nat) {a : Act} {w : World}, SR E base w0 st a w → a.defers = Ds.map markOf → Ds.Nodup → SR E base w0 st { a with defers := [] } (V.shut Ds w)
  | [], a, w, hS, hd, _ => ⟨hS.dfr.bare, hS.slots, hS.blk, hS.inj, hS.σok, hS.bel, hS.bas, hS.σin, hS.σout, hS.fr⟩
  | D :: Ds, a, w, hS, hd, hn => by
    have hD := List.nodup_cons.1 hn
    obtain ⟨Ds0, g1, g2, g3⟩ := hS.dfr.dfr
    have g4 : ∀ D' ∈ D :: Ds, base ≤ D' ∧ w.heap[D']? = some (.deferred (some [])) ∧ ∀ o, ¬ w0.κ D' o := by
      intro D' h'
      have : markOf D' ∈ Ds0.map markOf := by rw [← g1, hd]; exact List.mem_map_of_mem h'
      obtain ⟨D2, h2, e⟩ := List.mem_map.1 this
      obtain rfl := markOf_inj e
      exact g3 _ h2
    obtain ⟨k1, k2, k3⟩ := g4 D (List.mem_cons_self ..)
    have hoth : ∀ (b : Nat), b ≠ D → (w.putObj D (.deferred none)).heap[b]? = w.heap[b]? := fun b hb => World.putObj_heap_other hb
    have hS2 : SR E base w0 ⟨st.slots, st.blocks⟩ { a with defers := Ds.map markOf } (w.putObj D (.deferred none)) := by
      refine hS.books rfl rfl rfl (fun _ _ _ h => h) (cells_putObj k2 (.deferred _)) (fun b o _ => cell_putObj k2 (.deferred _) (.deferred _) b o) (below_putObj k1) (fun _ => .inl rfl) ⟨⟨Ds, rfl, hD.2, fun D' h' => ?_⟩, fun b o hk => ?_, fun s l r hr => ?_⟩
      · have := g4 D' (List.mem_cons_of_mem _ h')
        exact ⟨this.1, (hoth D' (by rintro rfl; exact hD.1 h')).trans this.2.1, this.2.2⟩
      · exact (hoth b (by rintro rfl; exact k3 o hk)).trans (hS.dfr.kp b o hk)
      · obtain ⟨j, h1, h2⟩ := hS.dfr.jp s l r hr
        exact ⟨j, h1, (hoth l (by rintro rfl; rw [k2] at h2; cases h2)).trans h2⟩
    exact SR.shut Ds (a := { a with defers := Ds.map markOf }) hS2 rfl hD.2

theorem sound_of_meets (hC : CtxOk P C) (hm : P.follows .mixedOrders = true) {f : Nat} {fn : Func} {c : Code} {s : Spec} {n : Nat} (hf : P.funcs[f]? = some fn) (hb : fn.body = some c) (hok : okCode (okOper fn.ntmps) c = true) (hn : n ≤ fn.ntmps)
    (hoff : C.off = 0) (hyld : C.yld = none) (h : Meets C c fn.results.toList n s) : Sound P f s := by
  intro args σ w vals hsz hrel hσ hpre
  obtain ⟨hlen, hev⟩ := h args hpre
  have hS : SR ⟨fun _ => none, fun _ => none, σ⟩ w.heap.size { w := w, σ := σ } (start args) { tmps := vals ++ Array.replicate (fn.ntmps - vals.size) undef, defers := [] } w := by
    refine ⟨⟨⟨[], rfl, .nil, fun _ h => nomatch h⟩, fun _ _ h => h.elim, fun _ _ _ h => nomatch h⟩, fun k => ?_, fun s => ⟨rfl, rfl⟩, ?_, ?_, Below.refl _ _, Nat.le_refl _, fun _ _ h => h, fun _ _ h => .inl h, fun _ _ _ h => h.elim⟩
    · show Rel _ w (args.getD k .junk) _
      by_cases hk : k < args.length
      · have := hrel k hk
        have hk' : k < vals.size := by omega
        have e : (vals ++ Array.replicate (fn.ntmps - vals.size) undef).getD k undef = vals.getD k undef := by
          have hk2 : k < (vals ++ Array.replicate (fn.ntmps - vals.size) undef).size := by simp; omega
          simp only [Array.getD, hk2, hk', dif_pos]
          exact Array.getElem_append_left hk'
        rw [e]
        exact .pure this
      · have : args.getD k .junk = .junk := by simp [List.getD, List.getElem?_eq_none (Nat.le_of_not_lt hk)]
        rw [this]
        exact .pure (.junk _)
    · intro s s' b h; simp [Env.at] at h
    · intro b o h
      exact ⟨hσ b o h, (fun s sz hx => nomatch hx), (fun s g hg _ => nomatch hg)⟩
  have hN : (vals ++ Array.replicate (fn.ntmps - vals.size) undef).size = fn.ntmps := by simp; omega
  refine (callsIn_wide (n := 0)).1 (callsIn_of_wp_marks (F := Fc none) hf hb trivial (wpIn_mono (evalCode_sound hm c C _ none hC hoff.symm (fun y hy => by rw [hyld] at hy; cases hy) (fun _ => rfl) _ _ _ w _ hS hN hok hev) fun e a' w' hq => ?_))
  have fin : ∀ {E' st'}, withP (frzPL st'.blocks (fn.results.toList.map (resOf C st'))) (fn.results.toList.all (fun r => plain2 (frz st'.blocks (resOf C st' r))) = true ∧ PLe (results1 C fn.results.toList st') (s args).2) → SR E' w.heap.size { w := w, σ := σ } st' a' w' →
      LeavesInM (Fc none) 0 P fn a'.tmps (fun e w' => ∃ v σ', e = Ending.returned v ∧ Below w.heap.size w w' ∧ (∀ b o, σ b o → σ' b o) ∧ (∀ b o, σ' b o → b < w'.heap.size ∧ (¬ σ b o → w.heap.size ≤ b)) ∧ RelP σ' w' (s args).2 v) a'.defers .returning w' := by
    intro E' st' hW hS'
    obtain ⟨hP, h1, h2⟩ := withP_get hW
    obtain ⟨Ds, g1, g2, g3⟩ := hS'.dfr.dfr
    rw [g1]
    have hS' := hS'.shut Ds g1 g2
    refine leaves_marks Ds w' g2 (fun D hD => (g3 D hD).2.1) ?_
    obtain ⟨v, h3, h4⟩ := results_sound hC hS' fn h1 hP
    refine ⟨v, h3, v, Frozen E' st' fun _ => false, rfl, hS'.bel, fun b o h => .inl (hS'.σin b o h), fun b o h => ?_, h4.le h2⟩
    rcases h.where' hS' with h | ⟨g1, g2, _⟩
    · exact ⟨(hS'.σok b o h).1, fun hn => (hS'.σout b o h).resolve_left hn⟩
    · exact ⟨g2, fun _ => g1⟩
  cases e with
  | normal => obtain ⟨E', st', hk, hS', _⟩ := hq; exact fin hk hS'
  | ret => obtain ⟨E', st', hk, hS', _⟩ := hq; exact fin hk hS'
  | exit k => obtain ⟨E', st', hk, _⟩ := hq; exact hk.elim
  | _ => exact hq.elim

theorem soundF_of_meets (hC : CtxOk P C) (hm : P.follows .mixedOrders = true) {f : Nat} {fn : Func} {c : Code} {s : Spec} {n el sz : Nat} (hf : P.funcs[f]? = some fn) (hb : fn.body = some c) (hok : okCode (okOper fn.ntmps) c = true) (hn : n ≤ fn.ntmps)
    (hoff : C.off = 0) (hyld : C.yld = none) (h : MeetsF C c fn.results.toList n el sz s) : SoundF P f el sz s := by
  intro args σ w vals hsz hrel hσ hpre len get hres
  obtain ⟨hlen, len', get', hres', hnr, hev⟩ := h args hpre
  rw [hres] at hres'
  cases hres'
  have hS : SR ⟨fun _ => none, fun _ => none, σ⟩ w.heap.size { w := w, σ := σ } (start args) { tmps := vals ++ Array.replicate (fn.ntmps - vals.size) undef, defers := [] } w := by
    refine ⟨⟨⟨[], rfl, .nil, fun _ h => nomatch h⟩, fun _ _ h => h.elim, fun _ _ _ h => nomatch h⟩, fun k => ?_, fun s => ⟨rfl, rfl⟩, ?_, ?_, Below.refl _ _, Nat.le_refl _, fun _ _ h => h, fun _ _ h => .inl h, fun _ _ _ h => h.elim⟩
    · show Rel _ w (args.getD k .junk) _
      by_cases hk : k < args.length
      · have := hrel k hk
        have hk' : k < vals.size := by omega
        have e : (vals ++ Array.replicate (fn.ntmps - vals.size) undef).getD k undef = vals.getD k undef := by
          have hk2 : k < (vals ++ Array.replicate (fn.ntmps - vals.size) undef).size := by simp; omega
          simp only [Array.getD, hk2, hk', dif_pos]
          exact Array.getElem_append_left hk'
        rw [e]
        exact .pure this
      · have : args.getD k .junk = .junk := by simp [List.getD, List.getElem?_eq_none (Nat.le_of_not_lt hk)]
        rw [this]
        exact .pure (.junk _)
    · intro s s' b h; simp [Env.at] at h
    · intro b o h
      exact ⟨hσ b o h, (fun s sz hx => nomatch hx), (fun s g hg _ => nomatch hg)⟩
  have hN : (vals ++ Array.replicate (fn.ntmps - vals.size) undef).size = fn.ntmps := by simp; omega
  refine (callsIn_wide (n := 0)).1 (callsIn_of_wp_marks (F := Fc none) hf hb trivial (wpIn_mono (evalCode_sound hm c C _ none hC hoff.symm (fun y hy => by rw [hyld] at hy; cases hy) (fun _ => rfl) _ _ _ w _ hS hN hok hev) fun e a' w' hq => ?_))
  have fin : ∀ {E' st'}, (match fn.results.toList with
      | [r] => match resOf C st' r with
        | .nils => len = 0
        | .slice (some t) len' get' => match st'.blocks t with
          | .grow L el' sz' => el' = el ∧ sz' = sz ∧ L = len' ∧ len' = len ∧ ∀ i, i < len → get' i = get i
          | _ => False
        | _ => False
      | _ => False) → SR E' w.heap.size { w := w, σ := σ } st' a' w' →
      LeavesInM (Fc none) 0 P fn a'.tmps (fun e w' => ∃ bo cp, e = Ending.returned (.slice (bo.map fun b => ⟨b, 0, none⟩) len cp) ∧ Below w.heap.size w w' ∧ (bo = none → len = 0 ∧ cp = 0) ∧
      ∀ b, bo = some b → w.heap.size ≤ b ∧ ∃ arr, w'.heap[b]? = some (.cells arr el (0, 0)) ∧ arr.size = cp * sz ∧ len ≤ cp ∧ cp ≤ maxLen ∧ ∀ i, i < len → ∀ j, j < sz → RelP (fun _ _ => False) w' ((get i).getD j .junk) (arr.getD (i * sz + j) undef)) a'.defers .returning w' := by
    intro E' st' hW hS'
    obtain ⟨Ds, g1, g2, g3⟩ := hS'.dfr.dfr
    rw [g1]
    have hS' := hS'.shut Ds g1 g2
    refine leaves_marks Ds w' g2 (fun D hD => (g3 D hD).2.1) ?_
    generalize V.shut Ds w' = w' at hS'
    split at hW
    · rename_i r hr
      have hrs : fn.results = #[r] := by
        have : fn.results = fn.results.toList.toArray := by simp
        rw [this, hr]
      split at hW
      · rename_i hv
        subst hW
        obtain ⟨v, h1, h2⟩ := resOf_sound hC hS' r (by rw [hv]; intro h; cases h)
        rw [hv] at h2
        have e := h2.nils_inv
        subst e
        refine ⟨_, by cases r <;> simp [results, hrs] at h1 ⊢ <;> simp [h1], none, 0, rfl, hS'.bel, fun _ => ⟨rfl, rfl⟩, fun b hb => by cases hb⟩
      · rename_i t len' get' hv
        split at hW
        · rename_i L el' sz' hB
          obtain ⟨rfl, rfl, rfl, rfl, hget⟩ := hW
          obtain ⟨v, h1, h2⟩ := resOf_sound hC hS' r (by rw [hv]; intro h; cases h)
          rw [hv] at h2
          obtain ⟨ad, cap, g, rfl, hvr, gh, gL, gx⟩ := h2.tslice_inv
          have hb := hS'.blk t
          rw [hB] at hb
          obtain ⟨b1, g', b2, b3, b4, b5, b6, b7⟩ := hb
          rw [b2] at gh
          cases gh
          obtain ⟨rfl, rfl, gx0⟩ := gx b3.symm
          rw [gx0, Nat.add_zero] at b6
          refine ⟨_, by cases r <;> simp [results, hrs] at h1 ⊢ <;> simp [h1], g.bo, g.cp, rfl, hS'.bel, b5, fun b hbo => ?_⟩
          obtain ⟨z1, z2, arr, z3, z4, z5, z6⟩ := b6 b hbo
          rw [b4] at z4 z2
          refine ⟨z1, arr, z3, z4, z5, z6, fun i hi j hj => ?_⟩
          cases hvr with
          | slice _ _ _ _ vb vo vsz vc hvc hva hvn hvl vq1 vq2 =>
          have hva' := hva (by omega)
          rw [hbo] at hva'
          simp only [Option.map_some, Option.some.injEq, Addr.mk.injEq] at hva'
          obtain ⟨rfl, rfl, _⟩ := hva'
          have hvs : vsz = sz' := by rw [← hvl i hi, hget i hi, (hnr i hi).1]
          subst hvs
          have q1 := (vq1 i hi j hj).2
          have hlt : i * vsz + vsz ≤ L * vsz := by rw [← Nat.succ_mul]; exact Nat.mul_le_mul_right _ hi
          have hlt2 : L * vsz ≤ g.cp * vsz := Nat.mul_le_mul_right _ z5
          have q2 : w'.cell? ⟨b, 0 + i * vsz + j, none⟩ = some (arr.getD (i * vsz + j) undef) := by
            simp [World.cell?, z3, show i * vsz + j < arr.size by omega]
          rw [q2] at q1
          have q3 := vq2 i hi j hj
          rw [← Option.some.inj q1, hget i hi] at q3
          exact noref1_rel (all_getD (hnr i hi).2 j (by rw [(hnr i hi).1]; exact hj)) q3
        · exact hW.elim
      · exact hW.elim
    · exact hW.elim
  cases e with
  | normal => obtain ⟨E', st', hk, hS', _⟩ := hq; exact fin hk hS'
  | ret => obtain ⟨E', st', hk, hS', _⟩ := hq; exact fin hk hS'
  | exit k => obtain ⟨E', st', hk, _⟩ := hq; exact hk.elim
  | _ => exact hq.elim

theorem eff_run (hC : CtxOk P C) (hm : P.follows .mixedOrders = true) {f : Nat} {fn : Func} {c : Code} (hf : P.funcs[f]? = some fn) (hb : fn.body = some c) (hok : okCode (okOper fn.ntmps) c = true) (hres : fn.results.toList.length ≤ 1)
    {n : Nat} (hn : n ≤ fn.ntmps) {args : List PV} {bl : Nat → Blk} {K : PV → (Nat → Blk) → Prop} (hlen0 : args.length = n) (he : effBody C c fn.results.toList args bl K) (hoff : w0.off = C.off) (hY : ∀ y, C.yld = some y → SoundY P base w0 y)
    (hS : SR E base w0 ⟨fun _ => .junk, bl⟩ noAct w) {vals : Array Value} (hsz : vals.size = args.length) (hrel : ∀ i, i < args.length → Rel E w (args.getD i .junk) (vals.getD i undef)) :
    Calls P f vals w fun e' w' => ∃ v p bl' E', e' = .returned v ∧ K p bl' ∧ SR E' base w0 ⟨fun _ => .junk, bl'⟩ noAct w' ∧ Rel E' w' p v := by
  have hlen : args.length ≤ fn.ntmps := by omega
  have hS1 : SR E base w0 ⟨(start args).slots, bl⟩ { tmps := vals ++ Array.replicate (fn.ntmps - vals.size) undef, defers := [] } w := by
    refine ⟨hS.dfr, fun k => ?_, hS.blk, hS.inj, hS.σok, hS.bel, hS.bas, hS.σin, hS.σout, hS.fr⟩
    show Rel _ w (args.getD k .junk) _
    by_cases hk : k < args.length
    · have := hrel k hk
      have hk' : k < vals.size := by omega
      have e : (vals ++ Array.replicate (fn.ntmps - vals.size) undef).getD k undef = vals.getD k undef := by
        have hk2 : k < (vals ++ Array.replicate (fn.ntmps - vals.size) undef).size := by simp; omega
        simp only [Array.getD, hk2, hk', dif_pos]
        exact Array.getElem_append_left hk'
      rw [e]
      exact this
    · have : args.getD k .junk = .junk := by simp [List.getD, List.getElem?_eq_none (Nat.le_of_not_lt hk)]
      rw [this]
      exact .pure (.junk _)
  have hN : (vals ++ Array.replicate (fn.ntmps - vals.size) undef).size = fn.ntmps := by simp; omega
  refine (callsIn_wide (n := 0)).1 (callsIn_of_wp_marks (F := Fc none) hf hb trivial (wpIn_mono (evalCode_sound hm c C _ none hC hoff hY (fun _ => rfl) _ _ _ w _ hS1 hN hok he) fun e a' w' hq => ?_))
  have fin : ∀ {E' st'}, (fn.results.toList.all (fun r => nj (resOf C st' r)) = true ∧ K (prune (fun s => Nat.blt s C.off) (match fn.results.toList with | [] => .tup [] | [r] => frzE C.off st'.blocks (resOf C st' r) | _ => .junk)) (fun s => bif Nat.blt s C.off then pruneB (fun s => Nat.blt s C.off) (st'.blocks s) else .none)) → SR E' base w0 st' a' w' →
      LeavesInM (Fc none) 0 P fn a'.tmps (fun e w' => ∃ v' p bl' E', e = Ending.returned v' ∧ K p bl' ∧ SR E' base w0 ⟨fun _ => .junk, bl'⟩ noAct w' ∧ Rel E' w' p v') a'.defers .returning w' := by
    rintro E' st' ⟨hnj, hk⟩ hS'
    obtain ⟨Ds, q1, q2, q3⟩ := hS'.dfr.dfr
    rw [q1]
    have hS' := hS'.shut Ds q1 q2
    refine leaves_marks Ds w' q2 (fun D hD => (q3 D hD).2.1) ?_
    generalize V.shut Ds w' = w' at hS'
    have hS2 := hS'.clean' [] []
    have hq : keepQ w0.off [] = fun s => Nat.blt s C.off := by funext s; simp [keepQ, has, hoff]
    have hbl : clean w0.off [] [] st' = ⟨fun _ => .junk, fun s => bif Nat.blt s C.off then pruneB (fun s => Nat.blt s C.off) (st'.blocks s) else .none⟩ := by
      unfold clean
      rw [hq, hoff]
      rfl
    rw [hbl, hq] at hS2
    generalize hqd : (fun s => Nat.blt s C.off) = q at *
    have hS3 : SR (E'.only q) base w0 ⟨fun _ => .junk, fun s => bif q s then pruneB q (st'.blocks s) else .none⟩ noAct w' :=
      ⟨by subst hqd; exact hS2.dfr.bare, fun _ => .pure (.junk _), by subst hqd; exact hS2.blk, hS2.inj, hS2.σok, hS2.bel, hS2.bas, hS2.σin, hS2.σout, hS2.fr⟩
    have hS4 := hS3.moreσ (Frozen E' st' q) (fun b o h => .inl h) fun b o h => by
      rcases h.where' hS' with h | ⟨g1, g2, g3⟩
      · exact .inl h
      · refine .inr ⟨g1, g2, fun s sz hx => ?_, fun s g hg hb => ?_⟩
        · simp only [Env.only] at hx
          split at hx
          · rename_i hqs; rw [g3 s (by simp [Env.at, hx])] at hqs; cases hqs
          · cases hx
        · simp only [Env.only] at hg
          split at hg
          · rename_i hqs; rw [g3 s (hS'.hd_at hg hb)] at hqs; cases hqs
          · cases hg
    have hle : (E'.only q).le ⟨(E'.only q).ρ, (E'.only q).hd, Frozen E' st' q⟩ := ⟨fun _ _ h => h, fun _ _ h => .inl h, fun _ g h => ⟨g, h, Nat.le_refl _, fun _ => ⟨rfl, rfl, rfl⟩⟩⟩
    have hrs : fn.results = fn.results.toList.toArray := by simp
    match hl : fn.results.toList, hres, hnj, hk with
    | [], _, _, hk =>
      rw [hl] at hrs
      subst hqd
      exact ⟨.tuple #[], by simp [results, hrs], _, _, _, _, rfl, hk, hS4, .pure (.tup [] #[] rfl fun i hi => by simp at hi)⟩
    | [r], _, hnj, hk =>
      rw [hl] at hrs
      obtain ⟨v, h1, h2⟩ := resOf_sound hC hS' r (by intro e; simp [e, nj] at hnj)
      have hrun : (results fn a'.tmps).run P w' = .ok v w' := by
        cases r <;> simp [results, hrs] at h1 ⊢ <;> simp [h1]
      have hfin : Rel ⟨(E'.only q).ρ, (E'.only q).hd, Frozen E' st' q⟩ w' (prune q (frzE C.off st'.blocks (resOf C st' r))) v := by
        by_cases ho : ∃ s len len' sz get, resOf C st' r = .own s len ∧ q s = false ∧ st'.blocks s = .arr len' sz get ∧ len ≤ len'
        · obtain ⟨s, len, len', sz, get, e, hqs, hB, hlen⟩ := ho
          rw [e] at h2 ⊢
          have e2 : frzE C.off st'.blocks (.own s len) = .slice none len get := by
            simp only [frzE, hB]
            have : Nat.blt s C.off = false := by rw [← hqs, ← hqd]
            rw [this, Nat.ble_eq_true_of_le hlen]
            rfl
          rw [e2]
          exact .pure (own_frozen hS' h2 hB hlen hqs)
        · have hor : frzE C.off st'.blocks (resOf C st' r) = resOf C st' r ∨ frzE C.off st'.blocks (resOf C st' r) = .junk := by
            cases hr : resOf C st' r with
            | own s len =>
              simp only [frzE]
              cases hqs : Nat.blt s C.off with
              | true => exact .inl rfl
              | false =>
                simp only [cond_false]
                cases hB : st'.blocks s with
                | arr len' sz get =>
                  cases hle : Nat.ble len len' with
                  | true => exact (ho ⟨s, len, len', sz, get, hr, by rw [← hqd]; exact hqs, hB, Nat.le_of_ble_eq_true hle⟩).elim
                  | false => exact .inr (by simp only [hle, cond_false])
                | _ => exact .inr rfl
            | _ => exact .inl rfl
          rcases hor with e | e
          · rw [e]; exact h2.prune.mono hle fun _ _ _ => rfl
          · rw [e]; exact .pure (.junk _)
      subst hqd
      exact ⟨v, hrun, _, _, _, _, rfl, hk, hS4, hfin⟩
  cases e with
  | normal => obtain ⟨E', st', hk, hS', _⟩ := hq; exact fin hk hS'
  | ret => obtain ⟨E', st', hk, hS', _⟩ := hq; exact fin hk hS'
  | exit k => obtain ⟨E', st', hk, _⟩ := hq; exact hk.elim
  | _ => exact hq.elim

theorem soundE_of_body (hC : CtxOk P C) (hm : P.follows .mixedOrders = true) (hyld : C.yld = none) {f : Nat} {fn : Func} {c : Code} (hf : P.funcs[f]? = some fn) (hb : fn.body = some c) (hok : okCode (okOper fn.ntmps) c = true) (hres : fn.results.toList.length ≤ 1)
    {n : Nat} (hn : n ≤ fn.ntmps) : SoundE P f C.off (fun args bl k => args.length = n ∧ effBody C c fn.results.toList args bl k) :=
  fun _ _ _ ⟨hlen, he⟩ _ _ _ _ _ hoff hS hsz hrel => eff_run hC hm hf hb hok hres hn hlen he hoff (fun y hy => by rw [hyld] at hy; cases hy) hS hsz hrel
theorem soundI_of_body (hC : CtxOk P C) (hm : P.follows .mixedOrders = true) {f : Nat} {fn : Func} {c : Code} (hf : P.funcs[f]? = some fn) (hb : fn.body = some c) (hok : okCode (okOper fn.ntmps) c = true) (hres : fn.results.toList.length ≤ 1)
    {n s0 o2 : Nat} (hn : n ≤ fn.ntmps) : SoundI P f s0 C.off o2 (iterBody C c fn.results.toList n) :=
  fun _ _ y _ _ _ ⟨hlen, he⟩ _ _ _ _ _ hoff hS hY hsz hrel => eff_run (C := { C with yld := some y }) ⟨hC.effs, hC.types, hC.iters, hC.specs, hC.fresh⟩ hm hf hb hok hres hn hlen he hoff (fun y' hy => by cases hy; exact hY) hS hsz hrel

end
end Go.V

/- Part 9: structs of whole numbers, compared; what a type's row owes. -/
namespace Go.V

def flatF (g : TypeId → Nat → Bool) (P : Program) : List Field → Nat → Nat → Bool
  | [], off, n => off == n
  | f :: fs, off, n => f.name != "_" && (f.offset == off && ((P.info? f.type).isSome && (g f.type (P.cellsOf f.type) && flatF g P fs (off + P.cellsOf f.type) n)))
def flatOk (P : Program) : Nat → TypeId → Nat → Bool
  | 0, _, _ => false
  | d + 1, t, n =>
    match P.underlying t with
    | some (.int _) => n == 1
    | some (.struct fs) => !P.stoodInHeld t && flatF (flatOk P d) P fs.toList 0 n
    | _ => false

def toV : PV → Value
  | .int k n => .int k n
  | _ => undef
def valueOf (P : Program) (t : TypeId) (xs : List PV) : Value :=
  match P.underlying t with
  | some (.struct _) => .agg (xs.map toV).toArray
  | _ => toV (xs.headD .junk)

theorem eqCells_cons {x y : PV} {xs ys : List PV} {r : Bool} (h : eqCells (x :: xs) (y :: ys) = some r) : ∃ k a b r', x = .int k a ∧ y = .int k b ∧ eqCells xs ys = some r' ∧ r = (a == b && r') := by
  cases x <;> try (simp [eqCells] at h; done)
  cases y <;> try (simp [eqCells] at h; done)
  rename_i k a k' b
  simp only [eqCells] at h
  cases hk : decide (k = k') with
  | false => rw [hk] at h; cases h
  | true =>
    rw [hk] at h
    have : k = k' := of_decide_eq_true hk
    subst this
    cases hr : eqCells xs ys with
    | none => rw [hr] at h; cases h
    | some r' => rw [hr] at h; exact ⟨k, a, b, r', rfl, rfl, rfl, (Option.some.inj h).symm⟩
theorem eqCells_split : ∀ (s : Nat) (xs ys : List PV) (r : Bool), s ≤ xs.length → eqCells xs ys = some r → ∃ r1 r2, eqCells (xs.take s) (ys.take s) = some r1 ∧ eqCells (xs.drop s) (ys.drop s) = some r2 ∧ r = (r1 && r2)
  | 0, xs, ys, r, _, h => ⟨true, r, rfl, h, by simp⟩
  | s + 1, [], ys, r, hs, h => by simp at hs
  | s + 1, x :: xs, [], r, hs, h => by cases x <;> simp [eqCells] at h
  | s + 1, x :: xs, y :: ys, r, hs, h => by
    obtain ⟨k, a, b, r', rfl, rfl, h1, rfl⟩ := eqCells_cons h
    obtain ⟨r1, r2, g1, g2, rfl⟩ := eqCells_split s xs ys r' (by simpa using hs) h1
    refine ⟨a == b && r1, r2, ?_, g2, by simp [Bool.and_assoc]⟩
    simp [eqCells, g1]

section
variable {P : Program} (w : World)

theorem part_run {t s off : Nat} (hi : (P.info? t).isSome = true) (hs : P.cellsOf t = s) {xs : List PV} (hl : off + s ≤ xs.length) (hone : (∀ fs, P.underlying t ≠ some (.struct fs)) → s = 1 ∧ ∃ k, P.underlying t = some (.int k)) :
    (part t (xs.map toV).toArray off).run P w = .ok (valueOf P t ((xs.drop off).take s)) w := by
  obtain ⟨i, hi'⟩ := Option.isSome_iff_exists.1 hi
  have hsz : (sizeOf t).run P w = .ok s w := by simp [sizeOf, typeInfo, hi', ← hs, Program.cellsOf]
  by_cases hst : ∃ fs, P.underlying t = some (.struct fs)
  · obtain ⟨fs, hfs⟩ := hst
    have hag : (isAgg t).run P w = .ok true w := by simp [isAgg, underlying, hfs]
    simp only [part, Sem.run_bind, hag, Result.andThen_ok, if_true, hsz, Sem.run_pure, valueOf, hfs]
    congr 2
    apply Array.ext'
    simp [List.map_take, List.map_drop, List.take_drop]
  · have hst' : ∀ fs, P.underlying t ≠ some (.struct fs) := fun fs h => hst ⟨fs, h⟩
    obtain ⟨rfl, k, hk⟩ := hone hst'
    have hag : (isAgg t).run P w = .ok false w := by simp [isAgg, underlying, hk]
    have hx : ((xs.map toV).toArray)[off]? = some (toV (xs.getD off .junk)) := by simp [List.getD, show off < xs.length by omega]
    have hv : ((xs.drop off).take 1).headD .junk = xs.getD off .junk := by simp [List.getD, List.head?_take, List.head?_drop, List.headD_eq_head?_getD]
    simp only [part, Sem.run_bind, hag, Result.andThen_ok, Bool.false_eq_true, if_false, hx, Sem.run_pure, valueOf, hk, hv]

theorem flat_one {d t n : Nat} (h : flatOk P d t n = true) : (∀ fs, P.underlying t ≠ some (.struct fs)) → n = 1 ∧ ∃ k, P.underlying t = some (.int k) := by
  intro hs
  cases d with
  | zero => cases h
  | succ d =>
    simp only [flatOk] at h
    split at h
    · rename_i k hk; exact ⟨by simpa using h, k, hk⟩
    · rename_i fs hfs; exact (hs fs hfs).elim
    · cases h

theorem flat_equal : ∀ (d D t n : Nat) (xs ys : List PV) (r : Bool), flatOk P d t n = true → d ≤ D → xs.length = n → eqCells xs ys = some r → (Op.equalIn D t (valueOf P t xs) (valueOf P t ys)).run P w = .ok r w
  | 0, _, _, _, _, _, _, h, _, _, _ => by cases h
  | d + 1, 0, _, _, _, _, _, _, h, _, _ => by omega
  | d + 1, D + 1, t, n, xs, ys, r, h, hD, hl, he => by
    simp only [flatOk] at h
    split at h
    · rename_i k hk
      have hn : n = 1 := by simpa using h
      match xs, ys, hl, he with
      | [x], [y], _, he =>
        obtain ⟨k', a, b, r', rfl, rfl, h1, rfl⟩ := eqCells_cons he
        have : r' = true := by simpa [eqCells] using h1.symm
        subst this
        simp only [valueOf, hk, List.headD, toV]
        rw [run_equalIn_int w D t k' k a b hk]
        simp
      | [x], [], _, he => cases x <;> simp [eqCells] at he
      | [x], y :: z :: ys, _, he =>
        obtain ⟨_, _, _, _, _, _, h1, _⟩ := eqCells_cons he
        simp [eqCells] at h1
      | [], _, hl, _ => simp at hl; omega
      | _ :: _ :: _, _, hl, _ => simp at hl; omega
    · rename_i fs hfs
      simp only [Bool.and_eq_true, Bool.not_eq_true'] at h
      obtain ⟨hst, hF⟩ := h
      have hfo : P.fieldsOf t = fs := by simp [Program.fieldsOf, hfs]
      simp only [valueOf, hfs]
      rw [run_equalIn_struct w D t _ _ (by rw [hfo]; exact hfs) hst, hfo]
      have hlen := (ints_of he).2.2
      have key : ∀ (l : List Field) (off : Nat) (r : Bool), flatF (flatOk P d) P l off n = true → eqCells (xs.drop off) (ys.drop off) = some r → (Op.eqFields D (xs.map toV).toArray (ys.map toV).toArray l).run P w = .ok r w := by
        intro l
        induction l with
        | nil =>
          intro off r hF he
          have : off = n := by simpa [flatF] using hF
          subst this
          rw [← hl, List.drop_length] at he
          cases hy : ys.drop xs.length with
          | nil => rw [hy] at he; have : r = true := by simpa [eqCells] using he.symm
                   subst this; simp [Op.eqFields]
          | cons y ys' => rw [hy] at he; simp [eqCells] at he
        | cons f fs ih =>
          intro off r hF he
          simp only [flatF, Bool.and_eq_true] at hF
          obtain ⟨h1, h2, h3, h4, h5⟩ := hF
          have hname : f.name ≠ "_" := by simpa using h1
          have hoff : f.offset = off := by simpa using h2
          have hend : ∀ (l : List Field) (o : Nat), flatF (flatOk P d) P l o n = true → o ≤ n := by
            intro l
            induction l with
            | nil => intro o h; have : o = n := by simpa [flatF] using h
                     omega
            | cons g gs ih' =>
              intro o h
              simp only [flatF, Bool.and_eq_true] at h
              have := ih' _ h.2.2.2.2
              omega
          have hle := hend fs _ h5
          obtain ⟨r1, r2, g1, g2, rfl⟩ := eqCells_split (P.cellsOf f.type) (xs.drop off) (ys.drop off) r (by simp; omega) he
          have p1 := part_run (P := P) w (t := f.type) (off := off) (xs := xs) h3 rfl (by omega) (flat_one h4)
          have p2 := part_run (P := P) w (t := f.type) (off := off) (xs := ys) h3 rfl (by omega) (flat_one h4)
          have q := flat_equal d D f.type (P.cellsOf f.type) _ _ r1 h4 (by omega) (by simp; omega) g1
          have g2' : eqCells (xs.drop (off + P.cellsOf f.type)) (ys.drop (off + P.cellsOf f.type)) = some r2 := by simpa [List.drop_drop] using g2
          have rest := ih _ r2 h5 g2'
          simp only [Op.eqFields, if_pos hname, hoff, Sem.run_bind, p1, p2, Result.andThen_ok, q, Sem.run_ite, Sem.run_pure]
          cases r1 with
          | true => simpa using rest
          | false => simp
      exact key fs.toList 0 r hF (by simpa using he)
    · cases h

theorem arr_equal {d D t e m : Nat} {k : IntKind} {xs ys : List PV} {r : Bool} (h : P.underlying t = some (.array m e)) (he : P.underlying e = some (.int k)) (hi : (P.info? e).isSome = true) (hs : P.cellsOf e = 1) (hl : xs.length = m) (hq : eqCells xs ys = some r) (hD : D = d + 1) :
    (Op.equalIn (D + 1) t (.agg (xs.map toV).toArray) (.agg (ys.map toV).toArray)).run P w = .ok r w := by
  have hly := (ints_of hq).2.2
  obtain ⟨i, hi'⟩ := Option.isSome_iff_exists.1 hi
  have hsz : (sizeOf e).run P w = .ok 1 w := by simp [sizeOf, typeInfo, hi', ← hs, Program.cellsOf]
  have hag : (isAgg e).run P w = .ok false w := by simp [isAgg, underlying, he]
  have hp : ∀ (zs : List PV) j, j < zs.length → (part e (zs.map toV).toArray (j * 1)).run P w = .ok (toV (zs.getD j .junk)) w := by
    intro zs j hj
    have hx : ((zs.map toV).toArray)[j * 1]? = some (toV (zs.getD j .junk)) := by simp [List.getD, show j < zs.length by omega]
    simp only [part, Sem.run_bind, hag, Result.andThen_ok, Bool.false_eq_true, if_false, hx, Sem.run_pure]
  simp only [Op.equalIn, Sem.run_bind, run_underlying h, Result.andThen_ok, hsz]
  simp only [Std.Legacy.Range.forIn_eq_forIn_range', Std.Legacy.Range.size, Nat.sub_zero, Nat.add_one_sub_one, Nat.div_one]
  have key : ∀ (n j : Nat) (r : Bool), j + n = m → eqCells (xs.drop j) (ys.drop j) = some r →
      ∃ o, (forIn (List.range' j n) (none, ()) fun i (_ : Option Bool × Unit) => (do
              let a ← part e (xs.map toV).toArray (i * 1)
              let b ← part e (ys.map toV).toArray (i * 1)
              let q ← Op.equalIn D e a b
              if (!q) = true then pure (ForInStep.done (some false, ())) else pure (ForInStep.yield (none, ())) : Sem _)).run P w = .ok (o, ()) w ∧ (match o with | some r => r | none => true) = r := by
    intro n
    induction n with
    | zero =>
      intro j r hj hq
      refine ⟨none, by simp, ?_⟩
      rw [List.drop_eq_nil_of_le (by omega), List.drop_eq_nil_of_le (by omega)] at hq
      simpa [eqCells] using hq
    | succ n ih =>
      intro j r hj hq
      have hjx : j < xs.length := by omega
      have hjy : j < ys.length := by omega
      rw [List.drop_eq_getElem_cons hjx, List.drop_eq_getElem_cons hjy] at hq
      obtain ⟨k', a, b, r', e1, e2, h1, rfl⟩ := eqCells_cons hq
      have p1 := hp xs j hjx
      have p2 := hp ys j hjy
      have q1 : xs.getD j .junk = .int k' a := by simp [List.getD, hjx, e1]
      have q2 : ys.getD j .junk = .int k' b := by simp [List.getD, hjy, e2]
      rw [q1] at p1
      rw [q2] at p2
      have p3 := run_equalIn_int w d e k' k a b he
      rw [← hD] at p3
      simp only [List.range'_succ, List.forIn_cons, Sem.run_bind, p1, p2, Result.andThen_ok, toV, p3, Sem.run_ite, Sem.run_pure]
      cases hab : (a == b) with
      | false => exact ⟨some false, by simp, by simp⟩
      | true =>
        obtain ⟨o, g1, g2⟩ := ih (j + 1) r' (by omega) h1
        refine ⟨o, ?_, by simpa using g2⟩
        simpa using g1
  obtain ⟨o, g1, g2⟩ := key m 0 r (by omega) (by simpa using hq)
  rw [g1]
  simp only [Result.andThen_ok]
  cases o with
  | none => simp at g2; subst g2; simp
  | some r => simp at g2; subst g2; simp
def arrOk (P : Program) (t n : Nat) : Bool :=
  match P.underlying t with
  | some (.array m e) => Nat.beq m n && ((P.info? e).isSome && (Nat.beq (P.cellsOf e) 1 && match P.underlying e with | some (.int _) => true | _ => false))
  | _ => false
theorem tiok (t : Nat) (ti : TI) (h1 : (P.info? t).map (fun i => (i.size, i.bytes, i.zero.map fun z => z.cells.toList.map ofVal)) = some (ti.size, ti.bytes, some ti.zero))
    (h2 : (P.underlying t).map TyK.of = some ti.k) (h3 : Nat.beq ti.zero.length ti.size = true) (h4 : (ti.agg || Nat.beq ti.size 1) = true) (d : Nat)
    (h5 : (!ti.eq || (!P.eqGuardType P.depth t && (arrOk P t ti.size || (flatOk P d t ti.size && Nat.ble d 10000 && (match P.underlying t with | some (.struct _) => true | _ => false))))) = true) : TIok P t ti := by
  refine ⟨h1, h2, Nat.eq_of_beq_eq_true h3, fun ha => by rw [ha] at h4; exact Nat.eq_of_beq_eq_true (by simpa using h4), fun he w xs ys a b r hl hq ha hb => ?_⟩
  rw [he] at h5
  simp only [Bool.not_true, Bool.false_or, Bool.and_eq_true, Bool.not_eq_true', Bool.or_eq_true] at h5
  obtain ⟨h7, h5⟩ := h5
  refine ⟨?_, h7⟩
  have ea : a = (xs.map toV).toArray := by apply Array.ext'; rw [ha]; simp; intro x _; cases x <;> rfl
  have eb : b = (ys.map toV).toArray := by apply Array.ext'; rw [hb]; simp; intro x _; cases x <;> rfl
  rcases h5 with h5 | h5
  · unfold arrOk at h5
    split at h5
    · rename_i m e hu
      simp only [Bool.and_eq_true] at h5
      obtain ⟨g1, g2, g3, g4⟩ := h5
      have g1 := Nat.eq_of_beq_eq_true g1
      have g3 := Nat.eq_of_beq_eq_true g3
      split at g4
      · rename_i k hk
        rw [ea, eb]
        have := arr_equal (P := P) w (d := 9998) (D := 9999) hu hk g2 g3 (by omega) hq rfl
        simpa [Op.equal, Op.maxDepth] using this
      · cases g4
    · cases h5
  obtain ⟨⟨h6, h8⟩, h9⟩ := h5
  have := flat_equal (P := P) w d 10000 t ti.size xs ys r h6 (Nat.le_of_ble_eq_true h8) hl hq
  cases hu : P.underlying t with
  | none => rw [hu] at h9; cases h9
  | some td =>
    cases td with
    | struct fs =>
      simp only [valueOf, hu] at this
      have ea : a = (xs.map toV).toArray := by apply Array.ext'; rw [ha]; simp; intro x _; cases x <;> rfl
      have eb : b = (ys.map toV).toArray := by apply Array.ext'; rw [hb]; simp; intro x _; cases x <;> rfl
      rw [ea, eb]
      simpa [Op.equal, Op.maxDepth] using this
    | _ => rw [hu] at h9; cases h9

end
end Go.V

/- Part 10: contexts; small helps for what is said of functions. -/
namespace Go.V

def SF (P : Program) (f : Nat) (s : Spec) : Prop := Sound P f s ∧ ∃ fn c, P.funcs[f]? = some fn ∧ (fn.name == "runtime.NumGoroutine") = false ∧ fn.body = some c
def SE (P : Program) (f off : Nat) (e : Eff) : Prop := SoundE P f off e ∧ ∃ fn c, P.funcs[f]? = some fn ∧ (fn.name == "runtime.NumGoroutine") = false ∧ fn.body = some c
def All (P : Program) : List (Nat × Spec) → Prop
  | [] => True
  | x :: l => SF P x.1 x.2 ∧ All P l
def AllE (P : Program) : List (Nat × Nat × Eff) → Prop
  | [] => True
  | x :: l => SE P x.1 x.2.1 x.2.2 ∧ AllE P l

theorem look_of_all {P : Program} : ∀ {l : List (Nat × Spec)}, All P l → ∀ f s, look l f = some s → SF P f s
  | [], _, f, s, h => by cases h
  | (m, a) :: l, ⟨h1, h2⟩, f, s, h => by
    simp only [look] at h
    cases hb : Nat.beq m f with
    | true =>
      rw [hb] at h
      obtain rfl := Nat.eq_of_beq_eq_true hb
      have := Option.some.inj h
      subst this
      exact h1
    | false => rw [hb] at h; exact look_of_all h2 f s h
theorem look_of_allE {P : Program} : ∀ {l : List (Nat × Nat × Eff)}, AllE P l → ∀ f o s, look l f = some (o, s) → SE P f o s
  | [], _, f, o, s, h => by cases h
  | (m, a) :: l, ⟨h1, h2⟩, f, o, s, h => by
    simp only [look] at h
    cases hb : Nat.beq m f with
    | true =>
      rw [hb] at h
      obtain rfl := Nat.eq_of_beq_eq_true hb
      have := Option.some.inj h
      subst this
      exact h1
    | false => rw [hb] at h; exact look_of_allE h2 f o s h
def SI (P : Program) (f s0 o1 o2 : Nat) (I : Iter) : Prop := SoundI P f s0 o1 o2 I ∧ ∃ fn c, P.funcs[f]? = some fn ∧ (fn.name == "runtime.NumGoroutine") = false ∧ fn.body = some c
def AllI (P : Program) : List (Nat × Nat × Nat × Nat × Iter) → Prop
  | [] => True
  | x :: l => SI P x.1 x.2.1 x.2.2.1 x.2.2.2.1 x.2.2.2.2 ∧ AllI P l
theorem look_of_allI {P : Program} : ∀ {l : List (Nat × Nat × Nat × Nat × Iter)}, AllI P l → ∀ f s0 o1 o2 I, look l f = some (s0, o1, o2, I) → SI P f s0 o1 o2 I
  | [], _, f, s0, o1, o2, I, h => by cases h
  | (m, a) :: l, ⟨h1, h2⟩, f, s0, o1, o2, I, h => by
    simp only [look] at h
    cases hb : Nat.beq m f with
    | true =>
      rw [hb] at h
      obtain rfl := Nat.eq_of_beq_eq_true hb
      have := Option.some.inj h
      subst this
      exact h1
    | false => rw [hb] at h; exact look_of_allI h2 f s0 o1 o2 I h
def SFF (P : Program) (f el sz : Nat) (s : Spec) : Prop := SoundF P f el sz s ∧ ∃ fn c, P.funcs[f]? = some fn ∧ (fn.name == "runtime.NumGoroutine") = false ∧ fn.body = some c
def AllF (P : Program) : List (Nat × Nat × Nat × Spec) → Prop
  | [] => True
  | x :: l => SFF P x.1 x.2.1 x.2.2.1 x.2.2.2 ∧ AllF P l
theorem look_of_allF {P : Program} : ∀ {l : List (Nat × Nat × Nat × Spec)}, AllF P l → ∀ f el sz s, look l f = some (el, sz, s) → SFF P f el sz s
  | [], _, f, el, sz, s, h => by cases h
  | (m, a) :: l, ⟨h1, h2⟩, f, el, sz, s, h => by
    simp only [look] at h
    cases hb : Nat.beq m f with
    | true =>
      rw [hb] at h
      obtain rfl := Nat.eq_of_beq_eq_true hb
      have := Option.some.inj h
      subst this
      exact h1
    | false => rw [hb] at h; exact look_of_allF h2 f el sz s h
theorem ctx_ok {P : Program} {ts : List (Nat × TI)} (ht : ∀ t ti, look ts t = some ti → TIok P t ti) {l : List (Nat × Spec)} (hl : All P l) {es : List (Nat × Nat × Eff)} (he : AllE P es) (off : Nat) (mg : Bool := false) (live names : List Nat := []) {its : List (Nat × Nat × Nat × Nat × Iter)} (hi : AllI P its := by exact trivial) (y : Option Yd := none) (rnd : Bool := false) {fr : List (Nat × Nat × Nat × Spec)} (hfr : AllF P fr := by exact trivial) (gh : List (Nat × List Gh) := []) (lits : List Nat := []) : CtxOk P ⟨ts, l, es, off, mg, live, names, its, y, rnd, fr, gh, lits⟩ :=
  ⟨fun f o e h => look_of_allE he f o e h, ht, fun f s0 o1 o2 I h => look_of_allI hi f s0 o1 o2 I h, fun f s h => look_of_all hl f s h, fun f el sz s h => look_of_allF hfr f el sz s h⟩

theorem sf_of {P : Program} {ts : List (Nat × TI)} (ht : ∀ t ti, look ts t = some ti → TIok P t ti) (hm : P.follows .mixedOrders = true) {l : List (Nat × Spec)} (hl : All P l) {es : List (Nat × Nat × Eff)} (he : AllE P es)
    {f : Nat} {fn : Func} {c : Code} {s : Spec} (n : Nat) (hf : P.funcs[f]? = some fn) (hb : fn.body = some c) (hok : (okCode (okOper fn.ntmps) c && Nat.ble n fn.ntmps && !(fn.name == "runtime.NumGoroutine")) = true)
    (h : Meets ⟨ts, l, es, 0, false, [], [], [], none, false, [], [], []⟩ c fn.results.toList n s) : SF P f s := by
  simp only [Bool.and_eq_true, Bool.not_eq_true'] at hok
  exact ⟨sound_of_meets (ctx_ok ht hl he 0) hm hf hb hok.1.1 (Nat.le_of_ble_eq_true hok.1.2) rfl rfl h, fn, c, hf, hok.2, hb⟩

theorem sf_gen {P : Program} {ts : List (Nat × TI)} (ht : ∀ t ti, look ts t = some ti → TIok P t ti) (hm : P.follows .mixedOrders = true) {l : List (Nat × Spec)} (hl : All P l) {es : List (Nat × Nat × Eff)} (he : AllE P es) {its : List (Nat × Nat × Nat × Nat × Iter)} (hi : AllI P its)
    {fr : List (Nat × Nat × Nat × Spec)} (hfr : AllF P fr) (gh : List (Nat × List Gh)) (lits : List Nat) (mg : Bool) (live names : List Nat)
    {f : Nat} {fn : Func} {c : Code} {s : Spec} (n : Nat) (hf : P.funcs[f]? = some fn) (hb : fn.body = some c) (hok : (okCode (okOper fn.ntmps) c && Nat.ble n fn.ntmps && !(fn.name == "runtime.NumGoroutine")) = true)
    (h : Meets ⟨ts, l, es, 0, mg, live, names, its, none, false, fr, gh, lits⟩ c fn.results.toList n s) : SF P f s := by
  simp only [Bool.and_eq_true, Bool.not_eq_true'] at hok
  exact ⟨sound_of_meets (ctx_ok ht hl he 0 mg live names (hi := hi) (hfr := hfr) (gh := gh) (lits := lits)) hm hf hb hok.1.1 (Nat.le_of_ble_eq_true hok.1.2) rfl rfl h, fn, c, hf, hok.2, hb⟩
theorem sf_ofI {P : Program} {ts : List (Nat × TI)} (ht : ∀ t ti, look ts t = some ti → TIok P t ti) (hm : P.follows .mixedOrders = true) {l : List (Nat × Spec)} (hl : All P l) {es : List (Nat × Nat × Eff)} (he : AllE P es) {its : List (Nat × Nat × Nat × Nat × Iter)} (hi : AllI P its)
    {f : Nat} {fn : Func} {c : Code} {s : Spec} (n : Nat) (hf : P.funcs[f]? = some fn) (hb : fn.body = some c) (hok : (okCode (okOper fn.ntmps) c && Nat.ble n fn.ntmps && !(fn.name == "runtime.NumGoroutine")) = true)
    (h : Meets ⟨ts, l, es, 0, false, [], [], its, none, false, [], [], []⟩ c fn.results.toList n s) : SF P f s := sf_gen ht hm hl he hi (fr := []) trivial [] [] false [] [] n hf hb hok h

theorem sf_ofM {P : Program} {ts : List (Nat × TI)} (ht : ∀ t ti, look ts t = some ti → TIok P t ti) (hm : P.follows .mixedOrders = true) {l : List (Nat × Spec)} (hl : All P l) {es : List (Nat × Nat × Eff)} (he : AllE P es)
    {f : Nat} {fn : Func} {c : Code} {s : Spec} (live names : List Nat) (n : Nat) (hf : P.funcs[f]? = some fn) (hb : fn.body = some c) (hok : (okCode (okOper fn.ntmps) c && Nat.ble n fn.ntmps && !(fn.name == "runtime.NumGoroutine")) = true)
    (h : Meets ⟨ts, l, es, 0, true, live, names, [], none, false, [], [], []⟩ c fn.results.toList n s) : SF P f s := sf_gen ht hm hl he (its := []) trivial (fr := []) trivial [] [] true live names n hf hb hok h
theorem sff_of {P : Program} {ts : List (Nat × TI)} (ht : ∀ t ti, look ts t = some ti → TIok P t ti) (hm : P.follows .mixedOrders = true) {l : List (Nat × Spec)} (hl : All P l) {es : List (Nat × Nat × Eff)} (he : AllE P es)
    {f : Nat} {fn : Func} {c : Code} {s : Spec} (n el sz : Nat) (hf : P.funcs[f]? = some fn) (hb : fn.body = some c) (hok : (okCode (okOper fn.ntmps) c && Nat.ble n fn.ntmps && !(fn.name == "runtime.NumGoroutine")) = true)
    (h : MeetsF ⟨ts, l, es, 0, false, [], [], [], none, false, [], [], []⟩ c fn.results.toList n el sz s) : SFF P f el sz s := by
  simp only [Bool.and_eq_true, Bool.not_eq_true'] at hok
  exact ⟨soundF_of_meets (ctx_ok ht hl he 0) hm hf hb hok.1.1 (Nat.le_of_ble_eq_true hok.1.2) rfl rfl h, fn, c, hf, hok.2, hb⟩

theorem se_gen {P : Program} {ts : List (Nat × TI)} (ht : ∀ t ti, look ts t = some ti → TIok P t ti) (hm : P.follows .mixedOrders = true) {l : List (Nat × Spec)} (hl : All P l) {es : List (Nat × Nat × Eff)} (he : AllE P es) {its : List (Nat × Nat × Nat × Nat × Iter)} (hi : AllI P its)
    {fr : List (Nat × Nat × Nat × Spec)} (hfr : AllF P fr) (gh : List (Nat × List Gh)) (lits : List Nat)
    {f : Nat} {fn : Func} {c : Code} (off n : Nat) (hf : P.funcs[f]? = some fn) (hb : fn.body = some c) (hok : (okCode (okOper fn.ntmps) c && Nat.ble n fn.ntmps && !(fn.name == "runtime.NumGoroutine") && Nat.ble fn.results.toList.length 1) = true) :
    SE P f off (fun args bl k => args.length = n ∧ effBody ⟨ts, l, es, off, false, [], [], its, none, false, fr, gh, lits⟩ c fn.results.toList args bl k) := by
  simp only [Bool.and_eq_true, Bool.not_eq_true'] at hok
  refine ⟨?_, fn, c, hf, hok.1.2, hb⟩
  exact soundE_of_body (ctx_ok ht hl he off (hi := hi) (hfr := hfr) (gh := gh) (lits := lits)) hm rfl hf hb hok.1.1.1 (Nat.le_of_ble_eq_true hok.2) (Nat.le_of_ble_eq_true hok.1.1.2)
theorem se_of {P : Program} {ts : List (Nat × TI)} (ht : ∀ t ti, look ts t = some ti → TIok P t ti) (hm : P.follows .mixedOrders = true) {l : List (Nat × Spec)} (hl : All P l) {es : List (Nat × Nat × Eff)} (he : AllE P es)
    {f : Nat} {fn : Func} {c : Code} (off n : Nat) (hf : P.funcs[f]? = some fn) (hb : fn.body = some c) (hok : (okCode (okOper fn.ntmps) c && Nat.ble n fn.ntmps && !(fn.name == "runtime.NumGoroutine") && Nat.ble fn.results.toList.length 1) = true) :
    SE P f off (fun args bl k => args.length = n ∧ effBody ⟨ts, l, es, off, false, [], [], [], none, false, [], [], []⟩ c fn.results.toList args bl k) := se_gen ht hm hl he (its := []) trivial (fr := []) trivial [] [] off n hf hb hok

theorem si_gen {P : Program} {ts : List (Nat × TI)} (ht : ∀ t ti, look ts t = some ti → TIok P t ti) (hm : P.follows .mixedOrders = true) {l : List (Nat × Spec)} (hl : All P l) {es : List (Nat × Nat × Eff)} (he : AllE P es)
    {fr : List (Nat × Nat × Nat × Spec)} (hfr : AllF P fr) (gh : List (Nat × List Gh)) (lits : List Nat) {f : Nat} {fn : Func} {c : Code} (s0 off o2 n : Nat) (hf : P.funcs[f]? = some fn) (hb : fn.body = some c) (hok : (okCode (okOper fn.ntmps) c && Nat.ble n fn.ntmps && !(fn.name == "runtime.NumGoroutine") && Nat.ble fn.results.toList.length 1) = true) :
    SI P f s0 off o2 (iterBody ⟨ts, l, es, off, false, [], [], [], none, false, fr, gh, lits⟩ c fn.results.toList n) := by
  simp only [Bool.and_eq_true, Bool.not_eq_true'] at hok
  refine ⟨?_, fn, c, hf, hok.1.2, hb⟩
  exact soundI_of_body (ctx_ok ht hl he off (hfr := hfr) (gh := gh) (lits := lits)) hm hf hb hok.1.1.1 (Nat.le_of_ble_eq_true hok.2) (Nat.le_of_ble_eq_true hok.1.1.2)

inductive PLeL : List PV → List PV → Prop
  | nil : PLeL [] []
  | cons {x y : PV} {xs ys : List PV} (h : PLe x y) (t : PLeL xs ys) : PLeL (x :: xs) (y :: ys)
theorem PLeL.spec {xs ys : List PV} (h : PLeL xs ys) : xs.length = ys.length ∧ ∀ i, i < xs.length → PLe (xs.getD i .junk) (ys.getD i .junk) := by
  induction h with
  | nil => exact ⟨rfl, fun i hi => by simp at hi⟩
  | cons h _ ih =>
    refine ⟨by simp [ih.1], fun i hi => ?_⟩
    cases i with
    | zero => exact h
    | succ i => exact ih.2 i (by simpa using hi)
theorem PLe.aggL {xs ys : List PV} (h : PLeL xs ys) : PLe (.agg xs) (.agg ys) := .agg _ _ h.spec.1 h.spec.2
theorem PLe.tupL {xs ys : List PV} (h : PLeL xs ys) : PLe (.tup xs) (.tup ys) := .tup _ _ h.spec.1 h.spec.2

theorem w64 {n : Int} (h1 : -9223372036854775808 ≤ n) (h2 : n ≤ 9223372036854775807) : IntKind.i64.wrap n = n := wrap_id h1 h2

inductive BLeL : List Blk → List Blk → Prop
  | nil : BLeL [] []
  | cons {x y : Blk} {xs ys : List Blk} (h : BLe x y) (t : BLeL xs ys) : BLeL (x :: xs) (y :: ys)

theorem look_zip {α : Type} {R : α → α → Prop} (d : α) (hd : R d d) (f : Nat → α) : ∀ (l : List Nat) (vs : List α), l.length = vs.length → (∀ i, i < l.length → R (f (l.getD i 0)) (vs.getD i d)) → ∀ n, R ((look (l.map fun n => (n, f n)) n).getD d) ((look (l.zip vs) n).getD d)
  | [], vs, _, _, n => by simp [look, hd]
  | m :: l, [], h, _, n => by simp at h
  | m :: l, v :: vs, h, hr, n => by
    simp only [List.map_cons, List.zip_cons_cons, look]
    cases hb : Nat.beq m n with
    | true =>
      simp only [cond_true, Option.getD_some]
      exact hr 0 (by simp)
    | false =>
      simp only [cond_false]
      exact look_zip d hd f l vs (by simpa using h) (fun i hi => hr (i + 1) (by simpa using hi)) n

theorem BLeL.spec {xs ys : List Blk} (h : BLeL xs ys) : xs.length = ys.length ∧ ∀ i, i < xs.length → BLe (xs.getD i .none) (ys.getD i .none) := by
  induction h with
  | nil => exact ⟨rfl, fun i hi => by simp at hi⟩
  | cons h _ ih =>
    refine ⟨by simp [ih.1], fun i hi => ?_⟩
    cases i with
    | zero => exact h
    | succ i => exact ih.2 i (by simpa using hi)

theorem sle_head {live keep : List Nat} {st : St} (vals : List PV) (bls : List Blk) (h1 : PLeL (live.map fun n => prune (keepQ 0 keep) (st.slots n)) vals) (h2 : BLeL (keep.map fun s => pruneB (keepQ 0 keep) (st.blocks s)) bls) :
    SLe (clean 0 live keep st) (mkSt (live.zip vals) (keep.zip bls)) := by
  obtain ⟨a1, a2⟩ := h1.spec
  obtain ⟨b1, b2⟩ := h2.spec
  constructor
  · refine look_zip (R := PLe) .junk (.refl _) _ live vals (by simpa using a1) fun i hi => ?_
    have := a2 i (by simpa using hi)
    simpa [List.getD, hi] using this
  · have := look_zip (R := BLe) .none (.refl _) (fun s => pruneB (keepQ 0 keep) (st.blocks s)) keep bls (by simpa using b1) fun i hi => by
      have := b2 i (by simpa using hi)
      simpa [List.getD, hi] using this
    intro s
    have h3 : (bif Nat.blt s 0 then pruneB (keepQ 0 keep) (st.blocks s) else .none) = Blk.none := by
      have : Nat.blt s 0 = false := rfl
      rw [this]; rfl
    show BLe ((look (keep.map fun s => (s, pruneB (keepQ 0 keep) (st.blocks s))) s).getD (bif Nat.blt s 0 then pruneB (keepQ 0 keep) (st.blocks s) else .none)) _
    rw [h3]
    exact this s

theorem app_get {α : Type} (get : Nat → α) (x : α) {len : Nat} (h : x = get len) : ∀ i, i < len + 1 → (bif Nat.blt i len then get i else x) = get i := by
  intro i hi
  by_cases hl : i < len
  · rw [blt_t hl]; rfl
  · have : i = len := by omega
    subst this
    rw [blt_f hl]
    exact h

end Go.V

/- Part 12: 'says no more than', reckoned down to equations on numbers. -/
namespace Go.V

def ple1 (p q : PV) : Prop :=
  match q with
  | .junk => True
  | .int k n => match p with
    | .int k' m => bif kindEq k' k then m = n else False
    | _ => False
  | .bool b => match p with
    | .bool c => c = b
    | .tt => b = true
    | .ff => b = false
    | _ => False
  | .slice none len get => match p with
    | .slice none len' get' => len' = len ∧ ∀ i, i < len' → get' i = get i
    | _ => False
  | .nilp => match p with | .nilp => True | _ => False
  | .nils => match p with | .nils => True | _ => False
  | .tt => match p with | .tt => True | _ => False
  | .ff => match p with | .ff => True | _ => False
  | _ => False
def pleL (f : PV → PV → Prop) : List PV → List PV → Prop
  | [], [] => True
  | p :: ps, q :: qs => f p q ∧ pleL f ps qs
  | _, _ => False
def ple2 (p q : PV) : Prop :=
  match q with
  | .agg ys => match p with
    | .agg xs => pleL ple1 xs ys
    | _ => False
  | q => ple1 p q
def ple (p q : PV) : Prop :=
  match q with
  | .tup ys => match p with
    | .tup xs => pleL ple2 xs ys
    | _ => False
  | q => ple2 p q

theorem ple1_ok {p q : PV} (h : ple1 p q) : PLe p q := by
  unfold ple1 at h
  split at h
  · exact .junk _
  · rename_i k n
    split at h
    · rename_i k' m
      cases hk : kindEq k' k with
      | true =>
        rw [hk] at h
        obtain rfl := kindEq_eq hk
        exact .int _ _ _ h
      | false => rw [hk] at h; exact h.elim
    · exact h.elim
  · split at h
    · exact .bool _ _ h
    · exact .tt _ h
    · exact .ff _ h
    · exact h.elim
  · split at h
    · obtain ⟨rfl, h⟩ := h
      exact .slice _ _ _ _ h
    · exact h.elim
  · split at h
    · exact .refl _
    · exact h.elim
  · split at h
    · exact .refl _
    · exact h.elim
  · split at h
    · exact .refl _
    · exact h.elim
  · split at h
    · exact .refl _
    · exact h.elim
  · exact h.elim
theorem pleL_ok {f : PV → PV → Prop} (hf : ∀ p q, f p q → PLe p q) : ∀ {ps qs : List PV}, pleL f ps qs → PLeL ps qs
  | [], [], _ => .nil
  | _ :: _, _ :: _, h => .cons (hf _ _ h.1) (pleL_ok hf h.2)
  | [], _ :: _, h => h.elim
  | _ :: _, [], h => h.elim
theorem ple2_ok {p q : PV} (h : ple2 p q) : PLe p q := by
  unfold ple2 at h
  split at h
  · split at h
    · exact PLe.aggL (pleL_ok (fun _ _ => ple1_ok) h)
    · exact h.elim
  · exact ple1_ok h
theorem ple_ok {p q : PV} (h : ple p q) : PLe p q := by
  unfold ple at h
  split at h
  · split at h
    · exact PLe.tupL (pleL_ok (fun _ _ => ple2_ok) h)
    · exact h.elim
  · exact ple2_ok h

end Go.V

/- Part 13: what is said of a function, said of weaker arguments. -/
namespace Go.V

theorem sf_args {P : Program} {f : Nat} {s s' : Spec} (h : SF P f s) (hn : ∀ args, (s' args).1.getD True → ∃ args', args.length = args'.length ∧ (∀ i, i < args.length → PLe (args.getD i .junk) (args'.getD i .junk)) ∧ (s args').1.getD True ∧ (s args').2 = (s' args).2) : SF P f s' := by
  refine ⟨?_, h.2⟩
  intro args σ w vals hv hr hσ hp
  obtain ⟨args', hl, hle, hp', he⟩ := hn args hp
  have := h.1 args' σ w vals (hv.trans hl) (fun i hi => RelP.le (hle i (by omega)) (hr i (by omega))) hσ hp'
  rw [he] at this
  exact this
end Go.V

/- What is said of a function, at one argument list after another. -/
namespace Go.V

def atS (args : List PV) (v : PV) : Spec := fun xs => (some (xs = args), v)

theorem sf_at {P : Program} {f : Nat} {s : Spec} (h : SF P f s) {args : List PV} {v : PV} (h1 : (s args).1.getD True) (h2 : (s args).2 = v) : SF P f (atS args v) := by
  refine ⟨?_, h.2⟩
  intro xs σ w vals hs hr hσ hp
  have hp : xs = args := hp
  subst hp
  have := h.1 xs σ w vals hs hr hσ h1
  rw [h2] at this
  exact this

def HasBody (P : Program) (f : Nat) : Prop := ∃ fn c, P.funcs[f]? = some fn ∧ (fn.name == "runtime.NumGoroutine") = false ∧ fn.body = some c

theorem sf_each {P : Program} {f : Nat} {s : Spec} (hb : HasBody P f) (h : ∀ args, (s args).1.getD True → SF P f (atS args (s args).2)) : SF P f s := by
  refine ⟨?_, hb⟩
  intro xs σ w vals hs hr hσ hp
  exact (h xs hp).1 xs σ w vals hs hr hσ rfl
end Go.V

/- Part 16: heads of loops in functions that work on their callers' blocks. -/
namespace Go.V

theorem nb {s n : Nat} (h : s ≠ n) : Nat.beq s n = false := by rw [Bool.eq_false_iff]; intro e; exact h (Nat.eq_of_beq_eq_true e)
theorem nb' {s n : Nat} (h : s ≠ n) : Nat.beq n s = false := nb fun e => h e.symm
theorem BLe.cellsL {xs ys : List PV} (h : PLeL xs ys) : BLe (.cells xs) (.cells ys) := .cells _ _ h.spec.1 h.spec.2
def BN (f g : Nat → Blk) : List Nat → Prop
  | [] => True
  | n :: ns => BLe (f n) (g n) ∧ BN f g ns
def Off (s : Nat) : List Nat → Prop
  | [] => True
  | n :: ns => s ≠ n ∧ Off s ns
theorem bn_all {f g : Nat → Blk} : ∀ (ns : List Nat), BN f g ns → (∀ s, Off s ns → BLe (f s) (g s)) → ∀ s, BLe (f s) (g s)
  | [], _, h, s => h s trivial
  | n :: ns, ⟨h1, h2⟩, h, s => bn_all ns h2 (fun s hs => by
      by_cases e : s = n
      · subst e; exact h1
      · exact h s ⟨e, hs⟩) s
theorem upd_none {f : Nat → Blk} {s n : Nat} {v : Blk} (h : s ≠ n) (hf : f s = .none) : upd f n v s = .none := by
  show (bif Nat.beq s n then v else f s) = .none
  rw [nb h]; exact hf
theorem cut_none {f : Nat → Blk} {s o2 : Nat} (hf : f s = .none) : cutB o2 f s = .none := by
  show (bif Nat.blt s o2 then pruneB (fun s => Nat.blt s o2) (f s) else .none) = .none
  rw [hf]; cases Nat.blt s o2 <;> rfl
theorem cut_none' {f : Nat → Blk} {s o2 : Nat} (hf : s < o2 → f s = .none) : cutB o2 f s = .none := by
  show (bif Nat.blt s o2 then pruneB (fun s => Nat.blt s o2) (f s) else .none) = .none
  cases hb : Nat.blt s o2 with
  | true => rw [hf (Nat.le_of_ble_eq_true hb)]; rfl
  | false => rfl
theorem eb_none {b : Bool} {q : Nat → Bool} {x : Blk} (hf : b = true → x = .none) : (bif b then pruneB q x else .none) = .none := by
  cases b with
  | true => rw [hf rfl]; rfl
  | false => rfl
theorem lt_of_blt {a b : Nat} (h : Nat.blt a b = true) : a < b := Nat.le_of_ble_eq_true h
theorem cl_none {b : Bool} {q : Nat → Bool} {x : Blk} (hf : x = .none) : (bif b then pruneB q x else .none) = .none := by
  rw [hf]; cases b <;> rfl
theorem look_none {s n : Nat} {v : Blk} {l : List (Nat × Blk)} (h : s ≠ n) (hf : (look l s).getD .none = .none) : (look ((n, v) :: l) s).getD .none = .none := by
  show ((bif Nat.beq n s then some v else look l s).getD .none) = .none
  rw [nb' h]; exact hf
theorem ble_none {a b : Blk} (ha : a = .none) (hb : b = .none) : BLe a b := by rw [ha, hb]; exact .refl _
theorem sle_headO (off : Nat) {live : List Nat} {st : St} (vals : List PV) (bls : List (Nat × Blk)) (h1 : PLeL (live.map fun n => prune (keepQ off []) (st.slots n)) vals)
    (h2 : ∀ s, BLe (bif Nat.blt s off then pruneB (keepQ off []) (st.blocks s) else .none) ((look bls s).getD .none)) : SLe (clean off live [] st) (mkSt (live.zip vals) bls) := by
  obtain ⟨a1, a2⟩ := h1.spec
  constructor
  · refine look_zip (R := PLe) .junk (.refl _) _ live vals (by simpa using a1) fun i hi => ?_
    have := a2 i (by simpa using hi)
    simpa [List.getD, hi] using this
  · exact h2
theorem sle_headK (off : Nat) (keep : List Nat) {live : List Nat} {st : St} (vals : List PV) (bls : List (Nat × Blk)) (h1 : PLeL (live.map fun n => prune (keepQ off keep) (st.slots n)) vals)
    (h2 : ∀ s, BLe (bif keepQ off keep s then pruneB (keepQ off keep) (st.blocks s) else .none) ((look bls s).getD .none)) : SLe (clean off live keep st) (mkSt (live.zip vals) bls) := by
  obtain ⟨a1, a2⟩ := h1.spec
  constructor
  · refine look_zip (R := PLe) .junk (.refl _) _ live vals (by simpa using a1) fun i hi => ?_
    have := a2 i (by simpa using hi)
    simpa [List.getD, hi] using this
  · intro s
    have := h2 s
    show BLe ((look (keep.map fun s => (s, pruneB (keepQ off keep) (st.blocks s))) s).getD (bif Nat.blt s off then pruneB (keepQ off keep) (st.blocks s) else .none)) _
    rw [look_map]
    cases hk : has keep s with
    | true =>
      have e : keepQ off keep s = true := by simp only [keepQ, hk, Bool.or_true]
      rw [e] at this
      exact this
    | false =>
      have e : keepQ off keep s = Nat.blt s off := by simp only [keepQ, hk, Bool.or_false]
      rw [e] at this
      exact this
end Go.V
