/- Part 5: regions, whether their order is the text's or open. -/
import Derived.Test.YtiidjohhcappdaaVf
import Derived.TacticsIn
import Derived.OrdersIn
import Derived.RangeFuncCalls
namespace Go.V
open Go.RowKit (Below)

def okOper (N : Nat) (o : Oper) : Bool :=
  (match o.dst with | some d => Nat.blt d N | none => true) && match o.op, o.dst with | .store _ _ _, some _ => false | _, _ => true

section
variable {E : Env} {w : World}
theorem Rel.ok1 {q : Nat → Bool} {p : PV} {v : Value} (hp : ok1 q p = true) (h : Rel E w p v) : Rel (E.only q) w p v := by
  cases h with
  | pure h => exact .pure h
  | agg => cases hp
  | tup => cases hp
  | fn => cases hp
  | ptr s off b sz h => exact .ptr s off b sz (by have hp' : q s = true := hp; simp only [Env.only]; rw [if_pos hp']; exact h)
  | eptr s i off b sz h => exact .eptr s i off b sz (by have hp' : q s = true := hp; simp only [Env.only]; rw [if_pos hp']; exact h)
  | own s len b sz cap h hc => exact .own s len b sz cap (by have hp' : q s = true := hp; simp only [Env.only]; rw [if_pos hp']; exact h) hc
  | tslice s len get a cap h g hh hL hx => exact .tslice s len get a cap h g (by have hp' : q s = true := hp; simp only [Env.only]; rw [if_pos hp']; exact hh) hL hx

theorem Rel.ok1a {q : Nat → Bool} {p : PV} {v : Value} (hp : ok1a q p = true) (h : Rel E w p v) : Rel (E.only q) w p v := by
  cases p with
  | agg cs =>
    obtain ⟨b, rfl, hs, hh⟩ := h.agg_inv
    exact .agg cs b hs fun i hi => (hh i hi).ok1 (all_getD hp i hi)
  | _ => exact h.ok1 hp
theorem Rel.prune {q : Nat → Bool} {p : PV} {v : Value} (h : Rel E w p v) : Rel (E.only q) w (prune q p) v := by
  have one : ∀ (hp : V.prune q p = bif V.ok1 q p then p else .junk), Rel (E.only q) w (V.prune q p) v := by
    intro hp
    rw [hp]
    cases hk : V.ok1 q p with
    | true => exact h.ok1 hk
    | false => exact .pure (.junk _)
  cases p with
  | agg cs =>
    obtain ⟨b, rfl, hs, hh⟩ := h.agg_inv
    simp only [V.prune]
    cases hk : cs.all (V.ok1 q) with
    | true => exact .agg cs b hs fun i hi => (hh i hi).ok1 (all_getD hk i hi)
    | false => exact .pure (.junk _)
  | fn f xs ys =>
    obtain ⟨b, c, rfl, hs, hs', hh, hh'⟩ := h.fn_inv
    simp only [V.prune]
    cases hk : (xs.all (V.ok1a q) && ys.all (V.ok1a q)) with
    | true =>
      simp only [Bool.and_eq_true] at hk
      exact .fn f xs ys b c hs hs' (fun i hi => (hh i hi).ok1a (all_getD hk.1 i hi)) fun i hi => (hh' i hi).ok1a (all_getD hk.2 i hi)
    | false => exact .pure (.junk _)
  | tup vs =>
    cases vs with
    | nil =>
      obtain ⟨b, rfl, hs, _⟩ := h.tup_inv
      exact .pure (.tup [] b hs fun i hi => by simp at hi)
    | cons => exact .pure (.junk _)
  | slice tag len get =>
    cases tag with
    | none => exact one rfl
    | some s =>
      simp only [V.prune]
      cases hk : q s with
      | true => exact h.ok1 hk
      | false =>
        obtain ⟨a, cap, rfl, h'⟩ := h.slice_inv
        exact .pure h'
  | _ => exact one rfl

theorem Env.only_self (E : Env) (q : Nat → Bool) : (E.only q).le E := by
  refine ⟨fun s x hx => ?_, fun _ _ h => h, fun s g hg => ?_⟩
  · simp only [Env.only] at hx
    split at hx
    · exact hx
    · cases hx
  · simp only [Env.only] at hg
    split at hg
    · exact ⟨g, hg, Nat.le_refl _, fun _ => ⟨rfl, rfl⟩⟩
    · cases hg
end

section
variable {P : Program} {C : Ctx} {E : Env} {base : Nat} {w0 : Orig} {w : World} {st : St} {a : Act} {N : Nat} {r : Option Nat}

theorem okOper_dst {o : Oper} (h : okOper N o = true) : ∀ d, o.dst = some d → d < N := by
  intro d hd
  simp only [okOper, hd, Bool.and_eq_true] at h
  exact Nat.le_of_ble_eq_true h.1
theorem okOper_store {o : Oper} (h : okOper N o = true) : ∀ t x y, o.op = .store t x y → o.dst = none := by
  intro t x y ho
  cases hd : o.dst with
  | none => rfl
  | some d => simp [okOper, ho, hd] at h

theorem SR.put (hS : SR E base w0 st a w) {dst : Option Tmp} (hd : ∀ d, dst = some d → d < a.tmps.size) {p : PV} {v : Value} (hv : Rel E w p v) : SR E base w0 (st.put dst p) (a.put dst v) w := by
  cases dst with
  | none => exact hS
  | some d =>
    have hlt := hd d rfl
    refine ⟨hS.dfr, fun n => ?_, hS.blk, hS.inj, hS.σok, hS.bel, hS.bas, hS.σin, hS.σout, hS.fr⟩
    show Rel E w (upd st.slots d p n) ((a.tmps.setIfInBounds d v).getD n undef)
    by_cases hn : n = d
    · subst hn
      rw [upd_same]
      simpa [Array.getD, hlt] using hv
    · rw [upd_ne _ _ hn]
      have := hS.slots n
      by_cases hs : n < a.tmps.size
      · have hdn : d ≠ n := fun e => hn e.symm
        simpa [Array.getD, hs, Array.getElem_setIfInBounds, hdn] using this
      · simpa [Array.getD, hs] using this
theorem SR.set (hS : SR E base w0 st a w) {g : Nat} {p : PV} (hp : Rel E w p (a.tmps.getD g undef)) : SR E base w0 (st.set g p) a w := by
  refine ⟨hS.dfr, fun n => ?_, hS.blk, hS.inj, hS.σok, hS.bel, hS.bas, hS.σin, hS.σout, hS.fr⟩
  show Rel E w (upd st.slots g p n) _
  by_cases hn : n = g
  · subst hn; rw [upd_same]; exact hp
  · rw [upd_ne _ _ hn]; exact hS.slots n
theorem put_size (a : Act) (dst : Option Tmp) (v : Value) : (a.put dst v).tmps.size = a.tmps.size := by cases dst <;> simp [Act.put]

/-- The fence that bars nothing: within a round, or outside of all. -/
abbrev Fc (r : Option Nat) : Fence := { Fence.wide with round := r }
theorem calls_fc {r : Option Nat} {f : FuncId} {args : Array Value} {R : Ending → World → Prop} (h : Calls P f args w R) : CallsIn (Fc r) 0 P f args w R := (callsIn_wide (n := 0)).2 h
theorem in_of_wp {r : Option Nat} {o : Oper} (hd : ∀ c, o.op ≠ .defer c) {next : Act → World → Prop} {Q : Exit → Act → World → Prop} (h : o.wp P a w next fun _ _ _ => False) : o.wpIn (Fc r) 0 P a w next Q := by
  refine ⟨fun _ _ => trivial, ?_⟩
  rw [Oper.semAt_eq _ _ _ hd]
  unfold Oper.wp at h
  generalize (execOp a.eval o).run P w = res at h
  cases res with
  | ok x w' =>
    cases x with
    | value v => exact h
    | skip => exact h
    | defer d => exact h
    | enter f args =>
      refine ⟨(fun h => by cases h), CallsIn.mono (calls_fc h) fun e w'' he => ?_⟩
      cases e with
      | returned v => exact he
      | panicked c => exact he.elim
      | outgrown => obtain ⟨_, _, hf⟩ := he; exact hf.elim
    | row s args =>
      refine ⟨(fun h => by cases h), fun c cs _ => ?_⟩
      obtain ⟨v, w', h1, h2⟩ := h c cs
      exact ⟨v, w', h1, stepsIn_wide.2 h2⟩
    | _ => exact h.elim
  | halt x w' =>
    cases x with
    | panic v => exact h.elim
    | _ => exact h.elim

theorem markOf_inj {b D : Nat} (h : markOf b = markOf D) : b = D := by
  have h1 : Target.collected b = Target.collected D := congrArg Deferred.target h
  cases h1
  rfl
/-- What a call that works on its caller's blocks takes for its beginning. -/
def callO (w0 : Orig) (off : Nat) (hle : w0.off ≤ off) (sl : Nat → PV) (a : Act) (ex : Option (Nat × Nat × Loop)) (hex : ∀ x, ex = some x → x.1 < off ∧ ∀ s r, w0.rc s ≠ some (x.2.1, r)) : Orig where
  w := w0.w
  σ := w0.σ
  off := off
  Φ := fun q p v => w0.Φ q p v ∨ (q = (fun s => Nat.blt s off) ∧ ∃ n, p = prune q (sl n) ∧ v = a.tmps.getD n undef)
  hΦ := by
    rintro q p v (h | ⟨rfl, _⟩) s hs
    · have := w0.hΦ q p v h s hs; omega
    · exact Nat.le_of_ble_eq_true hs
  κ := fun b o => w0.κ b o ∨ (markOf b ∈ a.defers ∧ o = .deferred (some []))
  hκ := by
    rintro b o (h | ⟨_, rfl⟩)
    · exact w0.hκ b o h
    · rfl
  rc := fun s => match ex with
    | some x => if s = x.1 then some x.2 else w0.rc s
    | none => w0.rc s
  hrc := by
    intro s x h
    cases ex with
    | none => have := w0.hrc s x h; omega
    | some y =>
      by_cases hs : s = y.1
      · subst hs; exact (hex y rfl).1
      · have h' : w0.rc s = some x := by simpa [hs] using h
        have := w0.hrc s x h'; omega
  hri := by
    intro s s' l r r' h h'
    cases ex with
    | none => exact w0.hri s s' l r r' h h'
    | some y =>
      by_cases hs : s = y.1 <;> by_cases hs' : s' = y.1
      · rw [hs, hs']
      · simp only [if_pos hs, if_neg hs'] at h h'
        have e := Option.some.inj h
        exact ((hex y rfl).2 s' r' (by rw [h', e])).elim
      · simp only [if_neg hs, if_pos hs'] at h h'
        have e := Option.some.inj h'
        exact ((hex y rfl).2 s r (by rw [h, e])).elim
      · simp only [if_neg hs, if_neg hs'] at h h'
        exact w0.hri s s' l r r' h h'
theorem callO_le {w0 : Orig} {off : Nat} {hle : w0.off ≤ off} {sl : Nat → PV} {a : Act} {ex : Option (Nat × Nat × Loop)} {hex : ∀ x, ex = some x → x.1 < off ∧ ∀ s r, w0.rc s ≠ some (x.2.1, r)} (h : ∀ x, ex = some x → w0.off ≤ x.1) : w0.le (callO w0 off hle sl a ex hex) := by
  refine ⟨rfl, rfl, hle, fun _ _ _ h => .inl h, fun _ _ h => .inl h, fun s x hx => ?_⟩
  cases ex with
  | none => exact hx
  | some y =>
    have hs : s ≠ y.1 := by rintro rfl; have := w0.hrc _ x hx; have := h y rfl; omega
    show (if s = y.1 then some y.2 else w0.rc s) = some x
    rw [if_neg hs]; exact hx
theorem SR.callO (hS : SR E base w0 st a w) {off : Nat} {hle : w0.off ≤ off} {ex : Option (Nat × Nat × Loop)} {hex : ∀ x, ex = some x → x.1 < off ∧ ∀ s r, w0.rc s ≠ some (x.2.1, r)} {bl : Nat → Blk} (hbl : ∀ s, BR E w base s (bl s)) (hj : ∀ s j, st.blocks s = .jmp j → bl s = .jmp j)
    (hx : ∀ x, ex = some x → ∃ j, bl x.1 = .jmp j ∧ w.heap[x.2.1]? = some (.loop (j.loopOf x.2.2))) : SR E base (V.callO w0 off hle st.slots a ex hex) ⟨fun _ => .junk, bl⟩ noAct w := by
  refine ⟨⟨⟨[], rfl, .nil, fun _ h => nomatch h⟩, ?_, ?_⟩, fun n => .pure (.junk _), hbl, hS.inj, hS.σok, hS.bel, hS.bas, hS.σin, hS.σout, ?_⟩
  · rintro b o (h | ⟨h, rfl⟩)
    · exact hS.dfr.kp b o h
    · obtain ⟨Ds, h1, h2, h3⟩ := hS.dfr.dfr
      rw [h1] at h
      obtain ⟨D, hD, he⟩ := List.mem_map.1 h
      obtain rfl := markOf_inj he
      exact (h3 _ hD).2.1
  · intro s l r h
    have plain : w0.rc s = some (l, r) → ∃ j, bl s = .jmp j ∧ w.heap[l]? = some (.loop (j.loopOf r)) := fun h => by
      obtain ⟨j, h1, h2⟩ := hS.dfr.jp s l r h
      exact ⟨j, hj s j h1, h2⟩
    cases ex with
    | none => exact plain h
    | some y =>
      by_cases hs : s = y.1
      · subst hs
        have e : y.2 = (l, r) := by
          have h' : (if y.1 = y.1 then some y.2 else w0.rc y.1) = some (l, r) := h
          rw [if_pos rfl] at h'
          exact Option.some.inj h'
        have := hx y rfl
        rw [e] at this
        exact this
      · have h' : (if s = y.1 then some y.2 else w0.rc s) = some (l, r) := h
        rw [if_neg hs] at h'
        exact plain h'
  · rintro q p v (h | ⟨rfl, n, rfl, rfl⟩)
    · exact hS.fr q p v h
    · exact (hS.slots n).prune
theorem SR.backO {E' : Env} {w' : World} {bl' : Nat → Blk} {off : Nat} {hle : w0.off ≤ off} {a1 : Act} {Ds : List Nat} (hD : a1.defers = Ds.map markOf) (hDn : Ds.Nodup) (hDb : ∀ D ∈ Ds, base ≤ D ∧ ∀ o, ¬ w0.κ D o) {ex : Option (Nat × Nat × Loop)} {hex : ∀ x, ex = some x → x.1 < off ∧ ∀ s r, w0.rc s ≠ some (x.2.1, r)} (hxl : ∀ x, ex = some x → w0.off ≤ x.1)
    (hS' : SR E' base (V.callO w0 off hle st.slots a1 ex hex) ⟨fun _ => .junk, bl'⟩ noAct w') : SR E' base w0 ⟨fun n => prune (fun s => Nat.blt s off) (st.slots n), bl'⟩ a1 w' := by
  have hl : w0.le (V.callO w0 off hle st.slots a1 ex hex) := callO_le hxl
  refine ⟨⟨⟨Ds, hD, hDn, fun D h => ⟨(hDb D h).1, hS'.dfr.kp D _ (.inr ⟨by rw [hD]; exact List.mem_map_of_mem h, rfl⟩), (hDb D h).2⟩⟩, fun b o h => hS'.dfr.kp b o (hl.κ b o h), fun s l r h => hS'.dfr.jp s l r (hl.rc s _ h)⟩,
    fun n => ?_, hS'.blk, hS'.inj, hS'.σok, hS'.bel, hS'.bas, hS'.σin, hS'.σout, fun q p v h => hS'.fr q p v (.inl h)⟩
  have := hS'.fr _ _ _ (.inr ⟨rfl, n, rfl, rfl⟩)
  exact this.mono (Env.only_self _ _) fun _ _ _ => rfl

theorem run0_sound (hC : CtxOk P C) (hS : SR E base w0 st a w) (hN : a.tmps.size = N) {o : Oper} (hok : okOper N o = true) {k : St → Prop} (h : run0 C st o k) {next : Act → World → Prop} {Q : Exit → Act → World → Prop}
    (hn : ∀ E' st' a' w', k st' → SR E' base w0 st' a' w' → a'.tmps.size = N → next a' w') : o.wpIn (Fc r) 0 P a w next Q := by
  have hd : ∀ d, o.dst = some d → d < a.tmps.size := by rw [hN]; exact okOper_dst hok
  rw [run0_eq] at h
  unfold run1s at h
  have key : (evalOp C (V.ev st.slots) st.blocks (o.dst.getD 0 + C.off) o.type o.op).pre.getD True → k ((st.setB (evalOp C (V.ev st.slots) st.blocks (o.dst.getD 0 + C.off) o.type o.op).upd).put o.dst (evalOp C (V.ev st.slots) st.blocks (o.dst.getD 0 + C.off) o.type o.op).val) → o.wpIn (Fc r) 0 P a w next Q := by
    intro hp hk
    refine in_of_wp (fun c hc => by rw [hc] at hp; simp [evalOp, R.bad] at hp) (op_sound hC hS (okOper_store hok) hp next _ fun E' w' v hS' hv => ?_)
    exact hn E' _ _ w' hk (hS'.put hd hv) (by rw [put_size, hN])
  dsimp only at h
  split at h
  · rename_i hp
    exact key (by rw [hp]; trivial) h
  · rename_i p hp
    exact key (by rw [hp]; exact h.1) h.2

theorem frcL2_iff {l : List PV} {k : List PV → Prop} : frcL frc2 l k = k l := frcL_eq frc2_eq l k

theorem run1_sound (hC : CtxOk P C) (hoff : w0.off = C.off) (hY : ∀ y, C.yld = some y → SoundY P base w0 y) (hS : SR E base w0 st a w) (hN : a.tmps.size = N) {o : Oper} (hok : okOper N o = true) {k : St → Prop} (h : run1 C st o k) {next : Act → World → Prop} {Q : Exit → Act → World → Prop}
    (hn : ∀ E' st' a' w', k st' → SR E' base w0 st' a' w' → a'.tmps.size = N → next a' w') : o.wpIn (Fc r) 0 P a w next Q := by
  obtain ⟨Ds, hDs, hDn, hDb⟩ := hS.dfr.dfr
  unfold run1 at h
  cases hyo : yldOf C st o with
  | some x =>
    obtain ⟨l, y, as⟩ := x
    rw [hyo] at h
    simp only [frcL2_iff, frc3_eq] at h
    obtain ⟨hrd, rfl, hle, h⟩ := h
    have hrd : st.blocks y.s = .jmp .ready := by
      split at hrd
      · assumption
      · exact hrd.elim
    have hle' := Nat.le_of_ble_eq_true hle
    unfold yldOf at hyo
    split at hyo
    · rename_i y' hy'
      split at hyo
      · rename_i f args ts ho
        split at hyo
        · rename_i l' hf
          simp only [Option.some.injEq, Prod.mk.injEq] at hyo
          obtain ⟨rfl, rfl, rfl⟩ := hyo
          have hfr := hS.ev f
          rw [hf] at hfr
          have hv := hfr.yld_inv
          have hS0 := hS.callO (off := y'.o2) (hle := by omega) (ex := none) (hex := by intro _ h; cases h) hS.blk (fun _ _ h => h) (by intro _ h; cases h)
          obtain ⟨fn, tmps, assign, body, hrun, hround⟩ := hY y' hy' _ (callO_le (by intro _ h; cases h)) rfl _ _ _ h hrd E w (args.map a.eval) hS0 (by simp) fun i hi => by
            simp at hi
            have := hS.ev args[i]
            simpa [List.getD, Array.getD, hi] using this
          refine ⟨fun _ _ => trivial, ?_⟩
          rw [Oper.semAt_eq _ _ _ fun c hc => by rw [ho] at hc; cases hc]
          have hx : (execOp a.eval o).run P w = .ok (.round y'.l fn tmps assign body) w := by
            simp [execOp, ho, resolve, hv, Deferred.ofValue, invoke, hrun]
          rw [hx]
          refine ⟨(fun h => by cases h), RoundIn.mono (show RoundIn (Fc r) (0 - 1) P y'.l fn tmps assign body w _ from hround) ?_⟩
          rintro e'' w' ⟨v, p, bl', E', rfl, hk, hS', hv'⟩
          exact hn E' _ _ w' hk ((SR.backO hDs hDn (fun D hD => ⟨(hDb D hD).1, (hDb D hD).2.2⟩) (by intro _ h; cases h) hS').put (by rw [hN]; exact okOper_dst hok) hv') (by rw [put_size, hN])
        · cases hyo
      · cases hyo
    · cases hyo
  | none =>
  rw [hyo] at h
  simp only at h
  cases hef : effOf C st o with
  | none => rw [hef] at h; exact run0_sound hC hS hN hok h hn
  | some x =>
    obtain ⟨⟨off, e⟩, as⟩ := x
    rw [hef] at h
    simp only [frcL2_iff, frc3_eq] at h
    obtain ⟨hle, h⟩ := h
    have hle' := Nat.le_of_ble_eq_true hle
    unfold effOf at hef
    split at hef
    · rename_i f args ts ho
      split at hef
      · rename_i g xs ys hf
        split at hef
        · rename_i e' he
          simp only [Option.some.injEq, Prod.mk.injEq] at hef
          obtain ⟨rfl, rfl⟩ := hef
          obtain ⟨hsnd, fn, fc, hfn, hnm, hbd⟩ := hC.effs g off e he
          have hnm' : fn.name ≠ "runtime.NumGoroutine" := by simpa using hnm
          have hfr := hS.ev f
          rw [hf] at hfr
          obtain ⟨va, vb, ev', ha, hb, h1, h2⟩ := hfr.fn_inv
          have hrow : RowR E w (xs ++ (args.toList.map (V.ev st.slots) ++ ys)) (va ++ (args.map a.eval ++ vb)) := by
            refine RowR.append ⟨ha, h1⟩ (RowR.append ⟨by simp, fun i hi => ?_⟩ ⟨hb, h2⟩)
            simp at hi
            have := hS.ev args[i]
            simpa [List.getD, Array.getD, hi] using this
          have hS0 := hS.callO (off := off) (hle := by omega) (ex := none) (hex := by intro _ h; cases h) hS.blk (fun _ _ h => h) (by intro _ h; cases h)
          have hc := hsnd _ _ _ h E base _ w (va ++ (args.map a.eval ++ vb)) rfl hS0 hrow.1 hrow.2
          have hrun : (execOp a.eval o).run P w = .ok (.enter g (va ++ (args.map a.eval ++ vb))) w := by
            simp [execOp, ho, resolve, ev', Deferred.ofValue, invoke, callFunc, hfn, hnm', hbd, Array.append_assoc]
          refine in_of_wp (fun c hc => by rw [ho] at hc; cases hc) ?_
          simp only [Oper.wp, hrun, Oper.upon]
          refine hc.mono ?_
          rintro e'' w' ⟨v, p, bl', E', rfl, hk, hS', hv⟩
          exact hn E' _ _ w' hk ((SR.backO hDs hDn (fun D hD => ⟨(hDb D hD).1, (hDb D hD).2.2⟩) (by intro _ h; cases h) hS').put (by rw [hN]; exact okOper_dst hok) hv) (by rw [put_size, hN])
        · cases hef
      · cases hef
    · cases hef

theorem getD_some {t : Array Value} {g : Nat} {v : Value} (h : t.getD g undef = v) (hv : v ≠ undef) : t[g]? = some v := by
  by_cases hg : g < t.size
  · simp [Array.getD, hg] at h
    simp [hg, h]
  · simp [Array.getD, hg] at h
    exact (hv h.symm).elim
theorem yielded_bool {ops : Array Oper} {t : Array Value} {j g : Nat} {b : Bool} (hg : (ops[j]?).bind Oper.dst = some g) (h : t.getD g undef = .bool b) : yielded ops t j = some b := by
  have := getD_some h (by simp [undef])
  simp [yielded, hg, this]
theorem yielded_und {ops : Array Oper} {t : Array Value} {j g : Nat} (hg : (ops[j]?).bind Oper.dst = some g) (h : t.getD g undef = undef) : yielded ops t j = none := by
  simp only [yielded, hg, Option.bind_some]
  cases hx : t[g]? with
  | none => rfl
  | some v =>
    obtain ⟨hlt, hv⟩ := Array.getElem?_eq_some_iff.1 hx
    simp [Array.getD, hlt] at h
    rw [hv] at h
    subst h
    rfl

theorem evalOps_sound (hC : CtxOk P C) (hoff : w0.off = C.off) (hY : ∀ y, C.yld = some y → SoundY P base w0 y) {ops : Array Oper} {Q : Exit → Act → World → Prop} : ∀ (l : List Oper) (st : St) (E : Env) (a : Act) (w : World) (K : St → Prop), SR E base w0 st a w → a.tmps.size = N → l.all (okOper N) = true →
    evalOps C ops.toList l st K → (∀ E' st' a' w', K st' → SR E' base w0 st' a' w' → a'.tmps.size = N → Q .normal a' w') → wpListIn (Fc r) 0 P ops Q l a w
  | [], st, E, a, w, K, hS, hN, _, h, hn => hn E st a w h hS hN
  | o :: rest, st, E, a, w, K, hS, hN, hok, h, hn => by
    simp only [List.all_cons, Bool.and_eq_true] at hok
    have hops : ∀ j : Nat, ops.toList[j]? = ops[j]? := by simp
    have go : ∀ {st'}, SR E base w0 st' a w → run1 C st' o (fun st => evalOps C ops.toList rest st K) → Region.wanted o (yielded ops a.tmps) = true → wpListIn (Fc r) 0 P ops Q (o :: rest) a w := by
      intro st' hS' hr hw
      unfold wpListIn
      rw [if_pos hw]
      exact (run1_sound hC hoff hY hS' hN hok.1 hr fun E' st' a' w' hk hS' hN' => evalOps_sound hC hoff hY rest st' E' a' w' K hS' hN' hok.2 hk hn)
    have skip : ∀ {st'}, SR E base w0 st' a w → evalOps C ops.toList rest (st'.put o.dst .und) K → Region.wanted o (yielded ops a.tmps) = false → wpListIn (Fc r) 0 P ops Q (o :: rest) a w := by
      intro st' hS' hr hw
      unfold wpListIn
      rw [if_neg (by rw [hw]; simp)]
      exact ⟨fun _ _ => trivial, evalOps_sound hC hoff hY rest _ E _ w K (hS'.put (by rw [hN]; exact okOper_dst hok.1) (.pure .und)) (by rw [put_size, hN]) hok.2 hr hn⟩
    simp only [evalOps, stepO] at h
    cases hg : o.guard with
    | none =>
      rw [hg] at h
      exact go hS h (by simp [Region.wanted, hg])
    | some jw =>
      obtain ⟨j, want⟩ := jw
      rw [hg] at h
      simp only [hops] at h
      cases hgd : (ops[j]?).bind Oper.dst with
      | none => rw [hgd] at h; exact h.elim
      | some g =>
        simp only [hgd] at h
        have hsl := hS.slots g
        have hwant : ∀ b, yielded ops a.tmps j = b → Region.wanted o (yielded ops a.tmps) = (b == some want) := by intro b hb; simp [Region.wanted, hg, hb]
        cases hs : st.slots g with
        | tt =>
          rw [hs] at hsl h
          have hy := hwant _ (yielded_bool hgd hsl.tt_inv)
          cases want with
          | true => exact go hS h (by rw [hy]; rfl)
          | false => exact skip hS h (by rw [hy]; rfl)
        | ff =>
          rw [hs] at hsl h
          have hy := hwant _ (yielded_bool hgd hsl.ff_inv)
          cases want with
          | true => exact skip hS h (by rw [hy]; rfl)
          | false => exact go hS h (by rw [hy]; rfl)
        | und =>
          rw [hs] at hsl h
          have hy := hwant _ (yielded_und hgd hsl.und_inv)
          exact skip hS h (by rw [hy]; rfl)
        | bool b =>
          rw [hs] at hsl h
          have hv := hsl.bool_inv
          have hy := hwant _ (yielded_bool hgd hv)
          by_cases hb : b = want
          · subst hb
            refine go (hS.set (g := g) ?_) (h.1 rfl) (by rw [hy]; simp)
            rw [hv]
            cases b
            · exact .pure .ff
            · exact .pure .tt
          · have hb' : b = !want := by cases b <;> cases want <;> simp_all
            refine skip (hS.set (g := g) ?_) (h.2 hb') (by rw [hy, hb']; cases want <;> rfl)
            rw [hv, hb']
            cases want
            · exact .pure .tt
            · exact .pure .ff
        | _ => rw [hs] at h; exact h.elim

end
end Go.V
