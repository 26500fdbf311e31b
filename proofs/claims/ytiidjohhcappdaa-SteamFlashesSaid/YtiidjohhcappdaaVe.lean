/- Part 3: operations that make or write memory. -/
import Derived.Test.YtiidjohhcappdaaVd
namespace Go.V
open Go.RowKit (Below)
section
variable {P : Program} {C : Ctx} {E E' : Env} {base : Nat} {w0 : Orig} {w w' : World} {st : St} {a : Act}

/-- What an operation owes: the plain state behind it is the machine's. -/
def OpOk (P : Program) (base : Nat) (w0 : Orig) (st : St) (a : Act) (w : World) (o : Oper) (r : R) : Prop :=
  ∀ (next : Act → World → Prop) (Q : Exit → Act → World → Prop), (∀ E' w' v, SR E' base w0 (st.setB r.upd) a w' → Rel E' w' r.val v → next (a.put o.dst v) w') → o.wp P a w next Q

theorem ValOk.op {o : Oper} {r : R} (hS : SR E base w0 st a w) (h : ValOk P E w r (execOp a.eval o)) : OpOk P base w0 st a w o r := by
  intro next Q hn
  obtain ⟨h1, v, h2, h3⟩ := h
  simp only [Oper.wp, h2, Oper.upon]
  exact hn E w v (by rw [h1]; exact hS) h3

theorem BR.keep {s : Nat} {B : Blk} (h : BR E w base s B) (hE : E.le E') (hw : ∀ b o, E.σ b o → w'.cell? ⟨b, o, none⟩ = w.cell? ⟨b, o, none⟩)
    (hρ : E'.ρ s = E.ρ s) (hhd : E'.hd s = E.hd s) (hb : ∀ b, E.at s = some b → w'.heap[b]? = w.heap[b]?) : BR E' w' base s B := by
  cases B with
  | none => exact ⟨hρ.trans h.1, hhd.trans h.2⟩
  | jmp j => exact ⟨hρ.trans h.1, hhd.trans h.2⟩
  | cells l =>
    obtain ⟨h1, b, arr, e, h2, h3, h4, h5, h6⟩ := h
    exact ⟨hhd.trans h1, b, arr, e, hρ.trans h2, h3, (hb b (by simp [Env.at, h2])).trans h4, h5, fun i hi => (h6 i hi).mono hE hw⟩
  | arr len sz get =>
    obtain ⟨h1, b, arr, e, h2, h3, h4, h5, h6⟩ := h
    exact ⟨hhd.trans h1, b, arr, e, hρ.trans h2, h3, (hb b (by simp [Env.at, h2])).trans h4, h5, fun i hi => ⟨(h6 i hi).1, fun j hj => ((h6 i hi).2 j hj).mono hE.σ hw⟩⟩
  | grow L el sz0 =>
    obtain ⟨h1, g, h2, h3, h4, h5, h6⟩ := h
    refine ⟨hρ.trans h1, g, hhd.trans h2, h3, h4, h5, fun b hbo => ?_⟩
    obtain ⟨q1, q2, arr, q3, q4⟩ := h6 b hbo
    exact ⟨q1, q2, arr, (hb b (by simp [Env.at, h1, h2, hbo])).trans q3, q4⟩

theorem cell_of_heap {b o : Nat} (h : w'.heap[b]? = w.heap[b]?) : w'.cell? ⟨b, o, none⟩ = w.cell? ⟨b, o, none⟩ := by simp [World.cell?, h]

theorem upd_same {α : Type} (f : Nat → α) (n : Nat) (v : α) : upd f n v n = v := by simp [upd]
theorem upd_ne {α : Type} (f : Nat → α) {n m : Nat} (v : α) (h : m ≠ n) : upd f n v m = f m := by
  have : Nat.beq m n = false := by rw [Bool.eq_false_iff]; intro e; exact h (Nat.eq_of_beq_eq_true e)
  simp [upd, this]

theorem heap_alloc_lt (w : World) (o : Obj) {b : Nat} (h : b < w.heap.size) : (w.alloc o).heap[b]? = w.heap[b]? := Below.heap_alloc w o b h
theorem heap_alloc_new' (w : World) (o : Obj) : (w.alloc o).heap[w.heap.size]? = some o := by show (w.heap.push o)[w.heap.size]? = some o; simp

theorem SR.at_lt (hS : SR E base w0 st a w) {s b : Nat} (h : E.at s = some b) : b < w.heap.size ∧ base ≤ b := by
  have hb := hS.blk s
  cases hB : st.blocks s with
  | none => rw [hB] at hb; simp [Env.at, hb.1, hb.2] at h
  | jmp j => rw [hB] at hb; simp [Env.at, hb.1, hb.2] at h
  | cells l =>
    rw [hB] at hb
    obtain ⟨_, b', arr, e, h2, h3, h4, _⟩ := hb
    simp [Env.at, h2] at h
    subst h
    exact ⟨(Array.getElem?_eq_some_iff.1 h4).1, h3⟩
  | arr len sz get =>
    rw [hB] at hb
    obtain ⟨_, b', arr, e, h2, h3, h4, _⟩ := hb
    simp [Env.at, h2] at h
    subst h
    exact ⟨(Array.getElem?_eq_some_iff.1 h4).1, h3⟩
  | grow L el sz0 =>
    rw [hB] at hb
    obtain ⟨h1, g, h2, _, _, _, h6⟩ := hb
    simp [Env.at, h1, h2] at h
    obtain ⟨q1, _, arr, q3, _⟩ := h6 b h
    exact ⟨(Array.getElem?_eq_some_iff.1 q3).1, q1⟩

/-- A named block is of cells, and no book. -/
theorem SR.at_cells (hS : SR E base w0 st a w) {s b : Nat} (h : E.at s = some b) : (∃ c e f, w.heap[b]? = some (.cells c e f)) ∧ ∀ j, st.blocks s ≠ .jmp j := by
  have hb := hS.blk s
  cases hB : st.blocks s with
  | none => rw [hB] at hb; simp [Env.at, hb.1, hb.2] at h
  | jmp j => rw [hB] at hb; simp [Env.at, hb.1, hb.2] at h
  | cells l =>
    rw [hB] at hb
    obtain ⟨_, b', arr, e, h2, h3, h4, _⟩ := hb
    simp [Env.at, h2] at h
    subst h
    exact ⟨⟨_, _, _, h4⟩, fun j h => nomatch h⟩
  | arr len sz get =>
    rw [hB] at hb
    obtain ⟨_, b', arr, e, h2, h3, h4, _⟩ := hb
    simp [Env.at, h2] at h
    subst h
    exact ⟨⟨_, _, _, h4⟩, fun j h => nomatch h⟩
  | grow L el sz0 =>
    rw [hB] at hb
    obtain ⟨h1, g, h2, _, _, _, h6⟩ := hb
    simp [Env.at, h1, h2] at h
    obtain ⟨q1, _, arr, q3, _⟩ := h6 b h
    exact ⟨⟨_, _, _, q3⟩, fun j h => nomatch h⟩
theorem upd_jmp {bl : Nat → Blk} {d : Nat} {B : Blk} (hd : ∀ j, bl d ≠ .jmp j) : ∀ s j, bl s = .jmp j → upd bl d B s = .jmp j := fun s j h => by
  have hs : s ≠ d := by rintro rfl; exact hd j h
  rw [upd_ne _ _ hs]; exact h

/-- A new block of the function's own: a variable, or an array. -/
theorem SR.own_new (hS : SR E base w0 st a w) {d : Nat} (hd : st.blocks d = .none) (arr : Array Value) (e : TypeId) (sz : Nat) (B : Blk)
    (hB : ∀ E' w', E.le E' → (∀ b o, E.σ b o → w'.cell? ⟨b, o, none⟩ = w.cell? ⟨b, o, none⟩) → E'.hd d = none → E'.ρ d = some (w.heap.size, sz) → w'.heap[w.heap.size]? = some (.cells arr e (0, 0)) → BR E' w' base d B) :
    ∃ E', E'.ρ d = some (w.heap.size, sz) ∧ SR E' base w0 (st.setB (some (d, B))) a (w.alloc (.cells arr e)) := by
  have hn := hS.blk d
  rw [hd] at hn
  have hlt : ∀ b o, E.σ b o → (w.alloc (.cells arr e)).cell? ⟨b, o, none⟩ = w.cell? ⟨b, o, none⟩ := fun b o h => cell_of_heap (heap_alloc_lt _ _ (hS.σok b o h).1)
  have hE : E.le ⟨fun s => if s = d then some (w.heap.size, sz) else E.ρ s, E.hd, E.σ⟩ := by
    refine ⟨fun s x h => ?_, fun _ _ h => h, fun s g h => ⟨g, h, Nat.le_refl _, fun _ => ⟨rfl, rfl⟩⟩⟩
    show (if s = d then _ else _) = _
    rw [if_neg (by rintro rfl; rw [hn.1] at h; cases h)]
    exact h
  have hat : ∀ s b, Env.at ⟨fun s => if s = d then some (w.heap.size, sz) else E.ρ s, E.hd, E.σ⟩ s = some b → (s = d ∧ b = w.heap.size) ∨ (s ≠ d ∧ E.at s = some b) := by
    intro s b h
    by_cases hs : s = d
    · left; refine ⟨hs, ?_⟩; simp [Env.at, hs] at h; exact h.symm
    · right; refine ⟨hs, ?_⟩; simpa [Env.at, hs] using h
  refine ⟨⟨fun s => if s = d then some (w.heap.size, sz) else E.ρ s, E.hd, E.σ⟩, by simp, ?_⟩
  constructor
  · exact (hS.dfr.heap fun b hb => heap_alloc_lt _ _ hb).step (fun _ _ h _ => h) (upd_jmp fun j h => by rw [hd] at h; cases h)
  · exact fun n => (hS.slots n).mono hE hlt
  · intro s
    show BR _ _ base s (upd st.blocks d B s)
    by_cases hs : s = d
    · subst hs
      have : upd st.blocks s B s = B := upd_same _ _ _
      rw [this]
      exact hB _ _ hE hlt hn.2 (by simp) (heap_alloc_new' _ _)
    · have : upd st.blocks d B s = st.blocks s := upd_ne _ _ hs
      rw [this]
      exact (hS.blk s).keep hE hlt (by simp [hs]) rfl fun b hb => heap_alloc_lt _ _ (hS.at_lt hb).1
  · intro s s' b h h'
    rcases hat s b h with ⟨k1, k2⟩ | ⟨hs, k⟩ <;> rcases hat s' _ h' with ⟨k3, k4⟩ | ⟨hs', k'⟩
    · exact k1.trans k3.symm
    · have := (hS.at_lt k').1; omega
    · have := (hS.at_lt k).1; omega
    · exact hS.inj s s' b k k'
  · intro b o h
    obtain ⟨h1, h2, h3⟩ := hS.σok b o h
    refine ⟨by simp; omega, fun s sz' hx => ?_, h3⟩
    by_cases hs : s = d
    · simp [hs] at hx; omega
    · simp [hs] at hx; exact h2 s sz' hx
  · exact hS.bel.alloc hS.bas _
  · have := hS.bas; simp; omega
  · exact hS.σin
  · exact hS.σout
  · exact fun q p v h => (hS.fr q p v h).mono (Env.only_le hE q) hlt

theorem reps_len (n : Nat) (z : List PV) : (reps n z).length = n * z.length := by simp [reps]
theorem reps_getD (n : Nat) (z : List PV) (i : Nat) (h : i < n * z.length) : (reps n z).getD i .junk = z.getD (i % z.length) .junk := by
  induction n generalizing i with
  | zero => simp at h
  | succ n ih =>
    have hz : 0 < z.length := by
      rcases Nat.eq_zero_or_pos z.length with h0 | h0
      · rw [h0] at h; simp at h
      · exact h0
    have e : reps (n + 1) z = z ++ reps n z := by simp [reps, List.replicate_succ]
    rw [e]
    by_cases hi : i < z.length
    · simp [List.getD, List.getElem?_append_left hi, Nat.mod_eq_of_lt hi]
    · have hi' : z.length ≤ i := by omega
      have := ih (i - z.length) (by rw [Nat.succ_mul] at h; omega)
      simp only [List.getD, List.getElem?_append_right hi'] at this ⊢
      rw [this, Nat.mod_eq_sub_mod hi']

theorem zeros_row {t : Nat} {ti : TI} (ht : TIok P t ti) {z : Value} (hz : RowR E w ti.zero z.cells) (n : Nat) :
    RowR E w (reps n ti.zero) ((Array.range (n * ti.size)).map (z.cells[· % z.cells.size]!)) := by
  have hl := ht.len
  have hs : z.cells.size = ti.size := by rw [hz.1, hl]
  refine ⟨by rw [reps_len, hl]; simp, fun i hi => ?_⟩
  rw [reps_len, hl] at hi
  rw [reps_getD _ _ _ (by rw [hl]; exact hi), hl]
  have hpos : 0 < ti.size := by
    rcases Nat.eq_zero_or_pos ti.size with h0 | h0
    · rw [h0] at hi; simp at hi
    · exact h0
  have hm : i % ti.size < ti.size := Nat.mod_lt _ hpos
  have := hz.2 (i % ti.size) (by rw [hl]; exact hm)
  have e : ((Array.range (n * ti.size)).map (z.cells[· % z.cells.size]!)).getD i undef = z.cells.getD (i % ti.size) undef := by
    have hm' : i % ti.size < z.cells.size := by omega
    have e1 : z.cells.getD (i % ti.size) undef = z.cells[i % ti.size] := by simp [Array.getD, hm']
    rw [e1, ← getElem!_pos z.cells (i % ti.size) hm', ← hs]
    simp [Array.getD, hi, hs]
  rw [e]; exact this

theorem fillParts_len (place : Nat → Option (Nat × Nat)) (e : Operand → PV) : ∀ (ps : List (Nat × Operand)) (l l' : List PV), fillParts place e ps l = some l' → l'.length = l.length
  | [], l, l', h => by simp only [fillParts, Option.some.injEq] at h; rw [h]
  | (i, x) :: ps, l, l', h => by
    simp only [fillParts] at h
    cases hp : place i with
    | none => rw [hp] at h; cases h
    | some os =>
      obtain ⟨off, sz⟩ := os
      rw [hp] at h
      simp only at h
      cases hq : (nj (e x) && (Nat.beq (cellsOf (e x)).length sz && Nat.ble (off + sz) l.length)) with
      | false => rw [hq] at h; cases h
      | true =>
        rw [hq] at h
        simp only [cond_true] at h
        simp only [Bool.and_eq_true] at hq
        obtain ⟨_, h1, h2⟩ := hq
        have e1 := Nat.eq_of_beq_eq_true h1
        have e2 := Nat.le_of_ble_eq_true h2
        rw [fillParts_len place e ps _ l' h, fillL_len (by omega)]

variable (hC : CtxOk P C) (hS : SR E base w0 st a w) {d ty : Nat} {o : Oper}
include hC hS

theorem o_alloc {t : Nat} (ho : o.op = .alloc t) (hp : (evalOp C (V.ev st.slots) st.blocks d ty o.op).pre.getD True) : OpOk P base w0 st a w o (evalOp C (V.ev st.slots) st.blocks d ty o.op) := by
  simp only [ho, evalOp] at hp ⊢
  cases hl : look C.types t with
  | none => rw [hl] at hp; exact hp.elim
  | some ti =>
    cases hd : st.blocks d with
    | none =>
      simp only
      obtain ⟨z, hz, hzr⟩ := zero_row (E := E) (w := w) (hC.types _ _ hl)
      obtain ⟨E', h1, h2⟩ := hS.own_new hd z.cells t 0 (.cells ti.zero) fun E' w' hE hw g1 g2 g3 =>
        ⟨g1, _, _, _, g2, hS.bas, g3, hzr.1, fun i hi => (hzr.2 i hi).mono hE hw⟩
      intro next Q hn
      have hrun : (execOp a.eval o).run P w = .ok (.value (.pointer (some ⟨w.heap.size, 0, none⟩))) (w.alloc (.cells z.cells t)) := by
        simp [execOp, ho, Instr.alloc, hz, newVar, newRow]
      simp only [Oper.wp, hrun, Oper.upon]
      exact hn E' _ _ h2 (.ptr d 0 _ 0 h1)
    | _ => rw [hl, hd] at hp; exact hp.elim

omit hC in
theorem o_box {t : Nat} {x : Operand} (ho : o.op = .box t x) (hp : (evalOp C (V.ev st.slots) st.blocks d ty o.op).pre.getD True) : OpOk P base w0 st a w o (evalOp C (V.ev st.slots) st.blocks d ty o.op) := by
  simp only [ho, evalOp] at hp ⊢
  cases hl : look C.types t with
  | none => rw [hl] at hp; exact hp.elim
  | some ti =>
    cases hd : st.blocks d with
    | none =>
      simp only [hl, hd] at hp ⊢
      cases hj : nj (V.ev st.slots x) with
      | false => rw [hj] at hp; exact hp.elim
      | true =>
        simp only [cond_true]
        have hx := hS.ev x
        have hsz := cells_size hx (by intro h0; rw [h0] at hj; cases hj)
        have hr := part_cells hx rfl hsz
        obtain ⟨E', h1, h2⟩ := hS.own_new hd (a.eval x).cells t 0 (.cells (cellsOf (V.ev st.slots x))) fun E' w' hE hw g1 g2 g3 =>
          ⟨g1, _, _, _, g2, hS.bas, g3, hr.1, fun i hi => (hr.2 i hi).mono hE hw⟩
        intro next Q hn
        have hrun : (execOp a.eval o).run P w = .ok (.value (.pointer (some ⟨w.heap.size, 0, none⟩))) (w.alloc (.cells (a.eval x).cells t)) := by
          simp [execOp, ho, Instr.box, newVar, newRow]
        simp only [Oper.wp, hrun, Oper.upon]
        exact hn E' _ _ h2 (.ptr d 0 _ 0 h1)
    | _ => rw [hl, hd] at hp; exact hp.elim


omit hC in
/-- A new block that will not change any more. -/
theorem SR.view_new (arr : Array Value) (e : TypeId) : ∃ E', E.le E' ∧ (∀ o, E'.σ w.heap.size o) ∧ SR E' base w0 st a (w.alloc (.cells arr e)) ∧ ∀ b o, E.σ b o → (w.alloc (.cells arr e)).cell? ⟨b, o, none⟩ = w.cell? ⟨b, o, none⟩ := by
  have hlt : ∀ b o, E.σ b o → (w.alloc (.cells arr e)).cell? ⟨b, o, none⟩ = w.cell? ⟨b, o, none⟩ := fun b o h => cell_of_heap (heap_alloc_lt _ _ (hS.σok b o h).1)
  have hE : E.le ⟨E.ρ, E.hd, fun b o => E.σ b o ∨ b = w.heap.size⟩ := ⟨fun _ _ h => h, fun _ _ h => .inl h, fun s g h => ⟨g, h, Nat.le_refl _, fun _ => ⟨rfl, rfl⟩⟩⟩
  refine ⟨_, hE, fun _ => .inr rfl, ?_, hlt⟩
  constructor
  · exact hS.dfr.heap fun b hb => heap_alloc_lt _ _ hb
  · exact fun n => (hS.slots n).mono hE hlt
  · exact fun s => (hS.blk s).keep hE hlt rfl rfl fun b hb => heap_alloc_lt _ _ (hS.at_lt hb).1
  · exact hS.inj
  · intro b o h
    rcases h with h | rfl
    · obtain ⟨h1, h2, h3⟩ := hS.σok b o h
      exact ⟨by simp; omega, h2, h3⟩
    · refine ⟨by simp, fun s sz hx => ?_, fun s g hg hb => ?_⟩
      · have hx' : E.ρ s = some (w.heap.size, sz) := hx
        have := (hS.at_lt (s := s) (b := w.heap.size) (by simp [Env.at, hx'])).1
        omega
      · have hg' : E.hd s = some g := hg
        have hbl := hS.blk s
        cases hB : st.blocks s with
        | grow L el sz0 =>
          rw [hB] at hbl
          have := (hS.at_lt (s := s) (b := w.heap.size) (by simp [Env.at, hbl.1, hg', hb])).1
          omega
        | none => rw [hB] at hbl; rw [hbl.2] at hg'; cases hg'
        | jmp j => rw [hB] at hbl; rw [hbl.2] at hg'; cases hg'
        | cells l => rw [hB] at hbl; rw [hbl.1] at hg'; cases hg'
        | arr l s' g' => rw [hB] at hbl; rw [hbl.1] at hg'; cases hg'
  · exact hS.bel.alloc hS.bas _
  · have := hS.bas; simp; omega
  · exact fun b o h => .inl (hS.σin b o h)
  · rintro b o (h | rfl)
    · exact hS.σout b o h
    · exact .inr hS.bas
  · exact fun q p v h => (hS.fr q p v h).mono (Env.only_le hE q) hlt

theorem o_buildSlice {t len : Nat} {ps : Array (Nat × Operand)} (ho : o.op = .buildSlice t len ps) (hp : (evalOp C (V.ev st.slots) st.blocks d ty o.op).pre.getD True) : OpOk P base w0 st a w o (evalOp C (V.ev st.slots) st.blocks d ty o.op) := by
  simp only [ho, evalOp] at hp ⊢
  split at hp
  · rename_i el _ _ _ _ h1
    have hd := und_slice (hC.types _ _ h1).desc
    cases hl : look C.types el with
    | none => rw [hl] at hp; exact hp.elim
    | some te =>
      have ht := hC.types _ _ hl
      simp only [hl] at hp ⊢
      cases hq : (Nat.ble (len * te.size) 16777216 && Nat.ble 1 te.size) with
      | false => rw [hq] at hp; exact hp.elim
      | true =>
        rw [hq] at hp
        simp only [cond_true] at hp ⊢
        simp only [Bool.and_eq_true] at hq
        have q1 := Nat.le_of_ble_eq_true hq.1
        have q2 := Nat.le_of_ble_eq_true hq.2
        cases hf : fillParts (fun i => some (i * te.size, te.size)) (V.ev st.slots) ps.toList (reps len te.zero) with
        | none => rw [hf] at hp; exact hp.elim
        | some l =>
          simp only [hf] at hp ⊢
          cases hpl : l.all plain1 with
          | false => rw [hpl] at hp; exact hp.elim
          | true =>
          simp only [cond_true]
          obtain ⟨z, hz, hzr⟩ := zero_row (E := E) (w := w) ht
          have hz0 := zeros_row ht hzr len
          obtain ⟨c', g1, g2⟩ := fill_sound hS _ ps.toList _ l _ hf hz0
          have hsz : c'.size = len * te.size := by
            rw [g2.1, fillParts_len _ _ _ _ _ hf, reps_len, ht.len]
          obtain ⟨E', hE, hσ, hS', hw⟩ := SR.view_new hS c' el
          intro next Q hn
          have hrun : (execOp a.eval o).run P w = .ok (.value (.slice (some ⟨w.heap.size, 0, none⟩) len len)) (w.alloc (.cells c' el)) := by
            have hps : (ps.map fun (i, x) => (i, a.eval x)).toList = ps.toList.map fun p => (p.1, a.eval p.2) := by simp
            simp only [execOp, ho, Instr.buildSlice, Sem.run_bind, run_und w hd, Result.andThen_ok, ht.run_size, hps]
            rw [if_neg (by omega)]
            have hr0 : Array.range 0 = #[] := rfl
            by_cases h0 : len * te.size = 0
            · simp only [h0, hr0, Array.map_empty] at g1
              rw [if_pos h0]
              simp only [Sem.run_bind, Sem.run_pure, Result.andThen_ok, h0, hr0, Array.map_empty, g1]
              simp [newRow]
            · rw [if_neg h0]
              simp only [Sem.run_bind, Sem.run_pure, Result.andThen_ok, hz, g1]
              simp [newRow]
          simp only [Oper.wp, hrun, Oper.upon]
          refine hn E' _ _ hS' (.pure (.slice _ _ _ _ w.heap.size 0 te.size (fun i j => c'.getD (i * te.size + j) undef) (Nat.le_refl _) (fun _ => rfl) (by intro h; cases h) ?_ ?_ ?_))
          · intro i hi
            have hb : i * te.size + te.size ≤ len * te.size := by rw [← Nat.succ_mul]; exact Nat.mul_le_mul_right _ hi
            have := g2.1
            simp; omega
          · intro i hi j hj
            have hb : i * te.size + te.size ≤ len * te.size := by rw [← Nat.succ_mul]; exact Nat.mul_le_mul_right _ hi
            refine ⟨hσ _, ?_⟩
            simp only [World.cell?, heap_alloc_new', Nat.zero_add]
            simp [Array.getD, show i * te.size + j < c'.size by omega]
          · intro i hi j hj
            have hb : i * te.size + te.size ≤ len * te.size := by rw [← Nat.succ_mul]; exact Nat.mul_le_mul_right _ hi
            rw [getD_take_drop hj]
            have hlt : i * te.size + j < l.length := by rw [← g2.1]; omega
            exact (plain1_relP (all_getD hpl _ hlt) (g2.2 _ hlt)).mono hE.σ hw
  · exact hp.elim


omit hC hS in
theorem wrap_id {n : Int} (h1 : -9223372036854775808 ≤ n) (h2 : n ≤ 9223372036854775807) : IntKind.i64.wrap n = n := by
  simp [IntKind.wrap, IntKind.signed, IntKind.bits]
  omega

omit hC hS in
theorem plain1_or_zero {t : Nat} {ti : TI} (ht : TIok P t ti) (j : Nat) (hj : j < ti.size) {v : Value} (h : Rel E w (ti.zero.getD j .junk) v) : RelP E.σ w (ti.zero.getD j .junk) v := by
  obtain ⟨i, z, h1, h2, h3, h4, h5⟩ := ht.run_info w
  have hlen := ht.len
  have e : ∃ u : Value, ti.zero.getD j .junk = ofVal u := by
    rw [← h5]
    refine ⟨z.cells.toList.getD j undef, ?_⟩
    have : j < z.cells.toList.length := by
      have := congrArg List.length h5
      simp only [List.length_map] at this
      omega
    simp only [List.getD, List.getElem?_map, List.getElem?_eq_getElem this, Option.map_some, Option.getD_some]
  obtain ⟨u, hu⟩ := e
  rw [hu] at h ⊢
  unfold ofVal at h ⊢
  split at h
  all_goals first
    | (rename_i hx; simp only at h ⊢; cases h with | pure h => exact h)
    | (cases h with | pure h => exact h)
    | exact .junk _

theorem o_makeSlice {t : Nat} {x y : Operand} (ho : o.op = .makeSlice t x y) (hp : (evalOp C (V.ev st.slots) st.blocks d ty o.op).pre.getD True) : OpOk P base w0 st a w o (evalOp C (V.ev st.slots) st.blocks d ty o.op) := by
  have hx := hS.ev x
  have hy := hS.ev y
  simp only [ho, evalOp] at hp ⊢
  split at hp
  · rename_i el _ _ _ _ h1
    have hd := und_slice (hC.types _ _ h1).desc
    split at hp
    · rename_i _ _ _ _ te n m h2 h3 h4 h5
      have ht := hC.types _ _ h2
      rw [h3] at hx
      rw [h4] at hy
      have e1 := hx.int_inv
      have e2 := hy.int_inv
      cases hq : Nat.ble 1 te.size with
      | false => rw [hq] at hp; exact hp.elim
      | true =>
        have q1 := Nat.le_of_ble_eq_true hq
        simp only [hq, cond_true, Option.getD_some] at hp ⊢
        obtain ⟨rfl, g1, g2, g3⟩ := hp
        obtain ⟨z, hz, hzr⟩ := zero_row (E := E) (w := w) ht
        have hz0 := zeros_row ht hzr n.toNat
        have hsz : ((Array.range (n.toNat * te.size)).map (z.cells[· % z.cells.size]!)).size = n.toNat * te.size := by simp
        generalize hc' : (Array.range (n.toNat * te.size)).map (z.cells[· % z.cells.size]!) = c' at hz0 hsz
        obtain ⟨E', k1, k2⟩ := hS.own_new h5 c' el te.size (.arr n.toNat te.size fun _ => te.zero) fun E' w' hE hw g1 g2 g3 => by
          refine ⟨g1, _, _, _, g2, hS.bas, g3, hsz, fun i hi => ⟨ht.len, fun j hj => ?_⟩⟩
          have hb : i * te.size + te.size ≤ n.toNat * te.size := by rw [← Nat.succ_mul]; exact Nat.mul_le_mul_right _ hi
          have := hz0.2 (i * te.size + j) (by rw [reps_len, ht.len]; omega)
          rw [reps_getD _ _ _ (by rw [ht.len]; omega), ht.len] at this
          have e : (i * te.size + j) % te.size = j := by rw [Nat.mul_comm, Nat.mul_add_mod, Nat.mod_eq_of_lt hj]
          rw [e] at this
          exact (plain1_or_zero ht j hj this).mono hE.σ hw
        intro next Q hn
        obtain ⟨i0, z0, hi0, hi1, hi2, hi3, _⟩ := ht.run_info w
        have hz1 : (zeroValue el).run P w = .ok z0 w := by simp [zeroValue, hi0, hi3]
        obtain rfl : z0 = z := by rw [hz1] at hz; cases hz; rfl
        have hrun : (execOp a.eval o).run P w = .ok (.value (.slice (some ⟨w.heap.size, 0, none⟩) n.toNat n.toNat)) (w.alloc (.cells c' el)) := by
          have hw : IntKind.i64.wrap n = n := wrap_id (by omega) (by omega)
          have hb : ¬ ((te.bytes : Int) * n > 281474976710656) := by omega
          have hr0 : Array.range 0 = #[] := rfl
          have hai : (asInt (.int .i64 n)).run P w = .ok n w := by simp [asInt, asIntOf]
          simp only [execOp, ho, e1, e2, Instr.makeSlice, Sem.run_bind, run_und w hd, Result.andThen_ok, hai, hi0, hi2, hw]
          have hcond : ((decide (n < 0) || decide ((te.bytes : Int) * n > 2 ^ 48)) || decide (n < 0) || decide (n > n)) = false := by
            simp; omega
          rw [hcond]
          simp only [Bool.false_eq_true, if_false, Sem.run_bind, run_askRoom, Result.andThen_ok, ht.run_size]
          by_cases h0 : n.toNat * te.size = 0
          · simp only [h0, hr0, Array.map_empty] at hc'
            rw [if_pos h0]
            simp [h0, hr0, newRow, ← hc']
          · rw [if_neg h0]
            simp [hz1, newRow, ← hc']
        simp only [Oper.wp, hrun, Oper.upon]
        exact hn E' _ _ k2 (.own d n.toNat _ te.size _ k1 (Nat.le_refl _))
    · exact hp.elim
  · exact hp.elim


omit hC in
/-- A store into a block of the function's own: what is in the others is not touched. -/
theorem SR.write (s b : Nat) (arr' : Array Value) (e : TypeId) (B : Blk) (hat : E.at s = some b) (hρ : ∃ sz, E.ρ s = some (b, sz)) (hw : w'.heap[b]? = some (.cells arr' e (0, 0))) (hoth : ∀ b', b' ≠ b → w'.heap[b']? = w.heap[b']?)
    (hos : w'.os = w.os) (hta : w'.tape = w.tape) (hou : w'.output = w.output) (hsz : w'.heap.size = w.heap.size)
    (hB : (∀ p v, Rel E w p v → Rel E w' p v) → (∀ p v, RelP E.σ w p v → RelP E.σ w' p v) → BR E w' base s B) : SR E base w0 (st.setB (some (s, B))) a w' := by
  have hσ : ∀ b' o, E.σ b' o → w'.cell? ⟨b', o, none⟩ = w.cell? ⟨b', o, none⟩ := by
    intro b' o h
    refine cell_of_heap (hoth b' ?_)
    rintro rfl
    obtain ⟨sz, h2⟩ := hρ
    exact (hS.σok b' o h).2.1 s sz h2
  have hm : ∀ p v, Rel E w p v → Rel E w' p v := fun p v h => h.mono (Env.le_refl E) hσ
  constructor
  · refine hS.dfr.step (fun b' o hb' hn => (hoth b' ?_).trans hb') (upd_jmp (hS.at_cells hat).2)
    rintro rfl
    obtain ⟨c, e, f, hc⟩ := (hS.at_cells hat).1
    rw [hc] at hb'
    exact hn c e f (Option.some.inj hb').symm
  · exact fun n => hm _ _ (hS.slots n)
  · intro s'
    show BR _ _ base s' (upd st.blocks s B s')
    by_cases hs : s' = s
    · subst hs
      rw [upd_same]
      exact hB hm fun p v h => h.mono (fun _ _ h => h) hσ
    · rw [upd_ne _ _ hs]
      refine (hS.blk s').keep (Env.le_refl E) hσ rfl rfl fun b' hb' => hoth b' ?_
      rintro rfl
      exact hs (hS.inj s' s b' hb' hat)
  · exact hS.inj
  · intro b' o h
    obtain ⟨h1, h2, h3⟩ := hS.σok b' o h
    exact ⟨by rw [hsz]; exact h1, h2, h3⟩
  · refine hS.bel.trans ⟨hos, hta, hou, by rw [hsz]; exact Nat.le_refl _, fun k hk => hoth k ?_⟩
    have := (hS.at_lt hat).2
    omega
  · rw [hsz]; exact hS.bas
  · exact hS.σin
  · exact hS.σout
  · exact fun q p v h => (hS.fr q p v h).mono (Env.only_le (Env.le_refl E) q) hσ

omit hC hS in
theorem run_storeCells (b : Nat) (e : TypeId) : ∀ (vs : List Value) (i off : Nat) (w : World) (arr : Array Value), w.heap[b]? = some (.cells arr e (0, 0)) → off + i + vs.length ≤ arr.size → (∀ v ∈ vs, v.oneCell' = true) →
    ∃ w' arr', (storeCells ⟨b, off, none⟩ vs i).run P w = .ok () w' ∧ w'.heap[b]? = some (.cells arr' e (0, 0)) ∧ arr'.size = arr.size ∧ (∀ j, arr'.getD j undef = if off + i ≤ j ∧ j < off + i + vs.length then vs.getD (j - (off + i)) undef else arr.getD j undef) ∧
      (∀ b', b' ≠ b → w'.heap[b']? = w.heap[b']?) ∧ w'.os = w.os ∧ w'.tape = w.tape ∧ w'.output = w.output ∧ w'.heap.size = w.heap.size
  | [], i, off, w, arr, h, _, _ => ⟨w, arr, rfl, h, rfl, fun j => by rw [if_neg (by simp only [List.length_nil]; omega)], fun _ _ => rfl, rfl, rfl, rfl, rfl⟩
  | v :: vs, i, off, w, arr, h, hlen, h1 => by
    simp only [List.length_cons] at hlen
    have hc : w.cell? ⟨b, off + i, none⟩ = some (arr.getD (off + i) undef) := by simp [World.cell?, h, Array.getD, show off + i < arr.size by omega]
    have hf : w.frozen? ⟨b, off + i, none⟩ = false := by simp [World.frozen?, h]
    have hb : b < w.heap.size := (Array.getElem?_eq_some_iff.1 h).1
    have hset : (w.setCell ⟨b, off + i, none⟩ v).heap[b]? = some (.cells (arr.setIfInBounds (off + i) v) e (0, 0)) := by
      simp only [World.setCell, Array.getElem?_modify, if_true, h]
      simp
    obtain ⟨w', arr', g1, g2, g3, g4, g5, g6, g7, g8, g9⟩ := run_storeCells b e vs (i + 1) off (w.setCell ⟨b, off + i, none⟩ v) (arr.setIfInBounds (off + i) v) hset (by simp; omega) fun u hu => h1 u (List.mem_cons_of_mem _ hu)
    refine ⟨w', arr', ?_, g2, by rw [g3]; simp, ?_, fun b' hb' => (g5 b' hb').trans (Below.heap_setCell w ⟨b, off + i, none⟩ v b' hb'), g6, g7, g8, by rw [g9]; simp⟩
    · simp only [storeCells, Sem.run_bind, add_none, run_store P w _ v _ (h1 v (List.mem_cons_self ..)), hc, hf]
      simpa using g1
    · intro j
      rw [g4 j]
      simp only [List.length_cons]
      by_cases hj : j = off + i
      · subst hj
        rw [if_neg (by omega), if_pos (by omega)]
        simp [Array.getD, List.getD, show off + i < arr.size by omega]
      · by_cases hj2 : off + (i + 1) ≤ j ∧ j < off + (i + 1) + vs.length
        · rw [if_pos hj2, if_pos (by omega)]
          have : j - (off + i) = (j - (off + (i + 1))) + 1 := by omega
          rw [this]; simp [List.getD]
        · rw [if_neg hj2, if_neg (by omega)]
          by_cases hs : j < arr.size
          · simp [Array.getD, hs, show ¬ (off + i = j) by omega]
          · simp [Array.getD, hs]


theorem o_store {t : Nat} {x y : Operand} (ho : o.op = .store t x y) (hdst : o.dst = none) (hp : (evalOp C (V.ev st.slots) st.blocks d ty o.op).pre.getD True) : OpOk P base w0 st a w o (evalOp C (V.ev st.slots) st.blocks d ty o.op) := by
  have hx := hS.ev x
  have hy := hS.ev y
  simp only [ho, evalOp] at hp ⊢
  cases hl : look C.types t with
  | none => rw [hl] at hp; exact hp.elim
  | some ti =>
    have ht := hC.types _ _ hl
    simp only [hl] at hp ⊢
    cases hq : (Nat.beq (cellsOf (V.ev st.slots y)).length ti.size && (cellsOf (V.ev st.slots y)).all sc1) with
    | false => rw [hq] at hp; exact hp.elim
    | true =>
      rw [hq] at hp
      simp only [cond_true] at hp ⊢
      simp only [Bool.and_eq_true] at hq
      have q1 := Nat.eq_of_beq_eq_true hq.1
      have hj : V.ev st.slots y ≠ .junk := by
        intro h0
        have := hq.2
        rw [h0] at this
        simp [cellsOf, sc1] at this
      have hsz := cells_size hy hj
      have hr := part_cells hy rfl hsz
      have hone : ∀ v ∈ (a.eval y).cells.toList, v.oneCell' = true := by
        intro v hv
        obtain ⟨i, hi, rfl⟩ := List.getElem_of_mem hv
        have hi' : i < (cellsOf (V.ev st.slots y)).length := by rw [← hsz]; simpa using hi
        have := hr.2 i hi'
        have e : (a.eval y).cells.getD i undef = (a.eval y).cells.toList[i] := by
          simp at hi
          simp [Array.getD, hi]
        rw [e] at this
        exact sc1_one this (all_getD hq.2 i hi')
      have hlen : (a.eval y).cells.toList.length = (cellsOf (V.ev st.slots y)).length := by simpa using hsz
      have hrun : ∀ {b o' : Nat} {w' : World}, a.eval x = .pointer (some ⟨b, o', none⟩) → (storeCells ⟨b, o', none⟩ (a.eval y).cells.toList 0).run P w = .ok () w' → (execOp a.eval o).run P w = .ok .skip w' := by
        intro b o' w' e h
        simp [execOp, ho, e, Instr.storeAt, Instr.sureAddr, storeVar, ht.run_size, hsz, q1, h]
      have hskip : ∀ (next : Act → World → Prop), a.put o.dst undef = a := by intro _; simp [Act.put, hdst]
      cases h : V.ev st.slots x with
      | ptr s off =>
        rw [h] at hx
        obtain ⟨b, sz, hρ, e⟩ := hx.ptr_inv
        simp only [h] at hp ⊢
        have hb := hS.blk s
        cases hbl : st.blocks s with
        | cells l =>
          simp only [hbl] at hp ⊢
          rw [hbl] at hb
          obtain ⟨hhd, b', arr, el, hρ', hbase, hh, hszl, hrl⟩ := hb
          rw [hρ] at hρ'
          simp only [Option.some.injEq, Prod.mk.injEq] at hρ'
          obtain ⟨rfl, rfl⟩ := hρ'
          cases hle : Nat.ble (off + (cellsOf (V.ev st.slots y)).length) l.length with
          | false => rw [hle] at hp; exact hp.elim
          | true =>
            have hle' := Nat.le_of_ble_eq_true hle
            simp only [cond_true]
            obtain ⟨w', arr', g1, g2, g3, g4, g5, g6, g7, g8, g9⟩ := run_storeCells (P := P) b el (a.eval y).cells.toList 0 off w arr hh (by omega) hone
            intro next Q hn
            simp only [Oper.wp, hrun e g1, Oper.upon]
            refine hn E w' undef (SR.write hS s b arr' el _ (by simp [Env.at, hρ]) ⟨0, hρ⟩ g2 g5 g6 g7 g8 g9 fun hm _ => ?_) (.pure .und)
            refine ⟨hhd, b, arr', el, hρ, hbase, g2, by rw [g3, hszl, fillL_len hle'], fun i hi => ?_⟩
            rw [fillL_len hle'] at hi
            rw [fillL_getD hle', g4 i]
            simp only [Nat.add_zero, hlen]
            by_cases hc : off ≤ i ∧ i < off + (cellsOf (V.ev st.slots y)).length
            · rw [if_pos hc, if_pos hc]
              have := hr.2 (i - off) (by omega)
              have e3 : (a.eval y).cells.toList.getD (i - off) undef = (a.eval y).cells.getD (i - off) undef := by
                simp [List.getD, Array.getD, show i - off < (a.eval y).cells.size by omega]
              rw [e3]
              exact hm _ _ this
            · rw [if_neg hc, if_neg hc]
              exact hm _ _ (hrl i hi)
        | _ => rw [hbl] at hp; exact hp.elim
      | eptr s i off =>
        rw [h] at hx
        obtain ⟨b, sz, hρ, e⟩ := hx.eptr_inv
        simp only [h] at hp ⊢
        have hb := hS.blk s
        cases hbl : st.blocks s with
        | arr len sz' get =>
          simp only [hbl] at hp ⊢
          cases hpl : (cellsOf (V.ev st.slots y)).all plain1 with
          | false => rw [hpl] at hp; exact hp.elim
          | true =>
          rw [hpl] at hp
          simp only [cond_true, Option.getD_some] at hp ⊢
          rw [hbl] at hb
          obtain ⟨hhd, b', arr, el, hρ', hbase, hh, hszl, hrl⟩ := hb
          rw [hρ] at hρ'
          simp only [Option.some.injEq, Prod.mk.injEq] at hρ'
          obtain ⟨rfl, rfl⟩ := hρ'
          obtain ⟨p1, p2⟩ := hp
          obtain ⟨hgl, _⟩ := hrl i p1
          have hbound : i * sz + sz ≤ len * sz := by rw [← Nat.succ_mul]; exact Nat.mul_le_mul_right _ p1
          obtain ⟨w', arr', g1, g2, g3, g4, g5, g6, g7, g8, g9⟩ := run_storeCells (P := P) b el (a.eval y).cells.toList 0 (i * sz + off) w arr hh (by omega) hone
          intro next Q hn
          simp only [Oper.wp, hrun e g1, Oper.upon]
          refine hn E w' undef (SR.write hS s b arr' el _ (by simp [Env.at, hρ]) ⟨sz, hρ⟩ g2 g5 g6 g7 g8 g9 fun hm hmp => ?_) (.pure .und)
          refine ⟨hhd, b, arr', el, hρ, hbase, g2, by rw [g3, hszl], fun i' hi' => ?_⟩
          have hbound' : i' * sz + sz ≤ len * sz := by rw [← Nat.succ_mul]; exact Nat.mul_le_mul_right _ hi'
          obtain ⟨r1, r2⟩ := hrl i' hi'
          by_cases hii : i' = i
          · subst hii
            have e5 : Nat.beq i' i' = true := by simp
            simp only [e5, cond_true]
            refine ⟨by rw [fillL_len (by omega)]; exact r1, fun j hj => ?_⟩
            rw [fillL_getD (by omega), g4]
            simp only [Nat.add_zero, hlen]
            by_cases hc : off ≤ j ∧ j < off + (cellsOf (V.ev st.slots y)).length
            · rw [if_pos hc, if_pos (by omega)]
              have := hr.2 (j - off) (by omega)
              have e3 : (a.eval y).cells.toList.getD (i' * sz + j - (i' * sz + off)) undef = (a.eval y).cells.getD (j - off) undef := by
                have : i' * sz + j - (i' * sz + off) = j - off := by omega
                rw [this]
                simp [List.getD, Array.getD, show j - off < (a.eval y).cells.size by omega]
              rw [e3]
              exact hmp _ _ (plain1_relP (all_getD hpl _ (by omega)) this)
            · rw [if_neg hc, if_neg (by omega)]
              exact hmp _ _ (r2 j hj)
          · have e5 : Nat.beq i' i = false := by rw [Bool.eq_false_iff]; intro e; exact hii (Nat.eq_of_beq_eq_true e)
            simp only [e5, cond_false]
            refine ⟨r1, fun j hj => ?_⟩
            rw [g4, if_neg]
            · exact hmp _ _ (r2 j hj)
            · rintro ⟨k1, k2⟩
              simp only [Nat.add_zero, hlen] at k1 k2
              rcases Nat.lt_or_gt_of_ne hii with hlt | hgt
              · have : i' * sz + sz ≤ i * sz := by rw [← Nat.succ_mul]; exact Nat.mul_le_mul_right _ hlt
                omega
              · have : i * sz + sz ≤ i' * sz := by rw [← Nat.succ_mul]; exact Nat.mul_le_mul_right _ hgt
                omega
        | _ => rw [hbl] at hp; exact hp.elim
      | _ => rw [h] at hp; exact hp.elim

end
end Go.V
