/- Part 2: min, max, build. -/
import Derived.Test.YtiidjohhcappdaaVc
namespace Go.V
open Go.RowKit (Below)
section
variable {P : Program} {C : Ctx} {E : Env} {base : Nat} {w0 : Orig} {w : World} {st : St} {a : Act}
variable (hC : CtxOk P C) (hS : SR E base w0 st a w) {d ty : Nat} {o : Oper}
include hS

theorem two_args {args : Array Operand} {x y : PV} (h : args.toList.map (V.ev st.slots) = [x, y]) : ∃ p q, args.toList = [p, q] ∧ V.ev st.slots p = x ∧ V.ev st.slots q = y ∧ Rel E w x (a.eval p) ∧ Rel E w y (a.eval q) := by
  match hl : args.toList, h with
  | [p, q], h =>
    simp only [List.map_cons, List.map_nil, List.cons.injEq, and_true] at h
    exact ⟨p, q, rfl, h.1, h.2, h.1 ▸ hS.ev p, h.2 ▸ hS.ev q⟩

theorem v_max {args : Array Operand} {ts : Array TypeId} (ho : o.op = .call { callee := .builtin .max, args := args, argTypes := ts }) (hp : (evalOp C (V.ev st.slots) st.blocks d ty o.op).pre.getD True) :
    ValOk P E w (evalOp C (V.ev st.slots) st.blocks d ty o.op) (execOp a.eval o) := by
  simp only [ho, evalOp] at hp ⊢
  split at hp
  · rename_i k m k' n h
    cases hk : kindEq k k' with
    | false => rw [hk] at hp; exact hp.elim
    | true =>
      obtain ⟨p, q, h1, _, _, h2, h3⟩ := two_args hS h
      simp only [cond_true]
      refine ⟨rfl, _, ?_, .pure (.int _ _)⟩
      simp [execOp, ho, resolve, invoke, builtin, Builtin.max_, h1, h2.int_inv, h3.int_inv, Builtin.max2]
  · exact hp.elim

theorem v_min {args : Array Operand} {ts : Array TypeId} (ho : o.op = .call { callee := .builtin .min, args := args, argTypes := ts }) (hp : (evalOp C (V.ev st.slots) st.blocks d ty o.op).pre.getD True) :
    ValOk P E w (evalOp C (V.ev st.slots) st.blocks d ty o.op) (execOp a.eval o) := by
  simp only [ho, evalOp] at hp ⊢
  split at hp
  · rename_i k m k' n h
    cases hk : kindEq k k' with
    | false => rw [hk] at hp; exact hp.elim
    | true =>
      obtain ⟨p, q, h1, _, _, h2, h3⟩ := two_args hS h
      simp only [cond_true]
      refine ⟨rfl, _, ?_, .pure (.int _ _)⟩
      simp [execOp, ho, resolve, invoke, builtin, Builtin.min_, h1, h2.int_inv, h3.int_inv, Builtin.min2]
  · exact hp.elim
omit hS

/-- A row of cells, filled from a place on. -/
theorem foldl_set (vs : List Value) : ∀ (k off : Nat) (cs : Array Value), ((vs.zipIdx k).foldl (fun cs (c, j) => cs.setIfInBounds (off + j) c) cs).size = cs.size ∧
    ∀ i, ((vs.zipIdx k).foldl (fun cs (c, j) => cs.setIfInBounds (off + j) c) cs).getD i undef = if off + k ≤ i ∧ i < off + k + vs.length ∧ i < cs.size then vs.getD (i - (off + k)) undef else cs.getD i undef := by
  induction vs with
  | nil => intro k off cs; refine ⟨rfl, fun i => ?_⟩; simp only [List.zipIdx_nil, List.foldl_nil, List.length_nil]; rw [if_neg (by omega)]
  | cons v vs ih =>
    intro k off cs
    simp only [List.zipIdx_cons, List.foldl_cons]
    obtain ⟨h1, h2⟩ := ih (k + 1) off (cs.setIfInBounds (off + k) v)
    refine ⟨by rw [h1]; simp, fun i => ?_⟩
    rw [h2 i]
    simp only [Array.size_setIfInBounds, List.length_cons]
    by_cases hc : off + (k + 1) ≤ i ∧ i < off + (k + 1) + vs.length ∧ i < cs.size
    · rw [if_pos hc, if_pos (by omega)]
      have : i - (off + k) = (i - (off + (k + 1))) + 1 := by omega
      rw [this]; simp [List.getD]
    · rw [if_neg hc]
      by_cases hi : i = off + k
      · subst hi
        by_cases hs : off + k < cs.size
        · rw [if_pos (by omega)]; simp [Array.getD, hs, List.getD]
        · rw [if_neg (by omega)]; simp [Array.getD, hs]
      · rw [if_neg (by omega)]
        by_cases hs : i < cs.size
        · simp [Array.getD, hs, show ¬ (off + k = i) by omega]
        · simp [Array.getD, hs]

theorem fillL_len {l vs : List PV} {off : Nat} (h : off + vs.length ≤ l.length) : (fillL l off vs).length = l.length := by
  simp [fillL]; omega
theorem fillL_getD {l vs : List PV} {off i : Nat} (h : off + vs.length ≤ l.length) : (fillL l off vs).getD i .junk = if off ≤ i ∧ i < off + vs.length then vs.getD (i - off) .junk else l.getD i .junk := by
  simp only [fillL, List.getD]
  by_cases h1 : i < off
  · rw [if_neg (by omega), List.getElem?_append_left (by simp; omega)]
    simp [h1]
  · rw [List.getElem?_append_right (by simp; omega)]
    simp only [List.length_take, show min off l.length = off by omega]
    by_cases h2 : i - off < vs.length
    · rw [if_pos (by omega), List.getElem?_append_left h2]
    · rw [if_neg (by omega), List.getElem?_append_right (by omega), List.getElem?_drop]
      have : off + vs.length + (i - off - vs.length) = i := by omega
      rw [this]

def RowR (E : Env) (w : World) (l : List PV) (c : Array Value) : Prop := c.size = l.length ∧ ∀ i, i < l.length → Rel E w (l.getD i .junk) (c.getD i undef)

/-- Cells of a part: a part of one cell, or of a struct. -/
theorem part_cells {p : PV} {v : Value} (h : Rel E w p v) {n : Nat} (hs : (cellsOf p).length = n) (hc : v.cells.size = n) : RowR E w (cellsOf p) v.cells := by
  refine ⟨by rw [hs, hc], fun i hi => ?_⟩
  by_cases hj : p = .junk
  · subst hj
    have : i = 0 := by simp [cellsOf] at hi; omega
    subst this
    exact .pure (.junk _)
  · by_cases hu : p = .und
    · subst hu
      have hv := h.und_inv
      subst hv
      have : i = 0 := by simp [cellsOf] at hi; omega
      subst this
      exact h
    · by_cases ht : ∃ l, p = .tup l
      · obtain ⟨l, rfl⟩ := ht
        obtain ⟨t, rfl, _, _⟩ := h.tup_inv
        have : i = 0 := by simp [cellsOf] at hi; omega
        subst this
        exact h
      · exact (cells_rel h hj hu (fun l e => ht ⟨l, e⟩)).2 i hi
/-- Where the value is not junk its cells are as many as are said. -/
theorem cells_size {p : PV} {v : Value} (h : Rel E w p v) (hj : p ≠ .junk) : v.cells.size = (cellsOf p).length := by
  by_cases hu : p = .und
  · subst hu; rw [h.und_inv]; rfl
  · by_cases ht : ∃ l, p = .tup l
    · obtain ⟨l, rfl⟩ := ht; obtain ⟨t, rfl, _, _⟩ := h.tup_inv; rfl
    · exact (cells_rel h hj hu (fun l e => ht ⟨l, e⟩)).1

include hS
theorem fill_sound (place : Nat → Option (Nat × Nat)) : ∀ (ps : List (Nat × Operand)) (l l' : List PV) (c : Array Value), fillParts place (V.ev st.slots) ps l = some l' → RowR E w l c →
    ∃ c', Instr.fill place c (ps.map fun p => (p.1, a.eval p.2)) = some c' ∧ RowR E w l' c'
  | [], l, l', c, h, hr => by
    simp only [fillParts, Option.some.injEq] at h
    subst h
    exact ⟨c, rfl, hr⟩
  | (i, x) :: ps, l, l', c, h, hr => by
    simp only [fillParts] at h
    cases hp : place i with
    | none => rw [hp] at h; cases h
    | some os =>
      obtain ⟨off, sz⟩ := os
      rw [hp] at h
      simp only at h
      cases hq : (nj (V.ev st.slots x) && (Nat.beq (cellsOf (V.ev st.slots x)).length sz && Nat.ble (off + sz) l.length)) with
      | false => rw [hq] at h; cases h
      | true =>
        rw [hq] at h
        simp only [cond_true] at h
        simp only [Bool.and_eq_true] at hq
        obtain ⟨hj, hq1, hq2⟩ := hq
        have e1 := Nat.eq_of_beq_eq_true hq1
        have e2 := Nat.le_of_ble_eq_true hq2
        have hx := hS.ev x
        have hsz : (a.eval x).cells.size = sz := by rw [cells_size hx (by intro h0; rw [h0] at hj; cases hj), e1]
        have hpc := part_cells hx e1 hsz
        have hlen : off + (cellsOf (V.ev st.slots x)).length ≤ l.length := by omega
        obtain ⟨g1, g2⟩ := foldl_set (a.eval x).cells.toList 0 off c
        have hz : (a.eval x).cells.zipIdx.foldl (fun cs (c, j) => cs.setIfInBounds (off + j) c) c = ((a.eval x).cells.toList.zipIdx 0).foldl (fun cs (c, j) => cs.setIfInBounds (off + j) c) c := by
          rw [← Array.foldl_toList]; simp
        have hr' : RowR E w (fillL l off (cellsOf (V.ev st.slots x))) ((a.eval x).cells.zipIdx.foldl (fun cs (c, j) => cs.setIfInBounds (off + j) c) c) := by
          rw [hz]
          refine ⟨by rw [g1, fillL_len hlen, hr.1], fun i hi => ?_⟩
          rw [fillL_len hlen] at hi
          rw [g2 i, fillL_getD hlen]
          simp only [Nat.add_zero, Array.length_toList, hsz]
          have hcs := hr.1
          by_cases hc : off ≤ i ∧ i < off + sz
          · rw [if_pos (by omega), if_pos (by omega)]
            have := hpc.2 (i - off) (by omega)
            have hi2 : i - off < (a.eval x).cells.size := by omega
            simpa [Array.getD, List.getD, hi2] using this
          · rw [if_neg (by omega), if_neg (by omega)]
            exact hr.2 i hi
        obtain ⟨c', h1, h2⟩ := fill_sound place ps _ l' _ h hr'
        refine ⟨c', ?_, h2⟩
        simp only [List.map_cons, Instr.fill, hp]
        rw [if_neg ?_]
        · exact h1
        · have := hr.1
          simp [hsz]
          omega


omit hS in
theorem zero_row {t : Nat} {ti : TI} (ht : TIok P t ti) : ∃ z : Value, (zeroValue t).run P w = .ok z w ∧ RowR E w ti.zero z.cells := by
  obtain ⟨i, z, h1, h2, h3, h4, h5⟩ := ht.run_info w
  refine ⟨z, by simp [zeroValue, h1, h4], ?_⟩
  rw [← h5]
  refine ⟨by simp, fun j hj => ?_⟩
  simp at hj
  have : (z.cells.toList.map ofVal).getD j .junk = ofVal (z.cells.getD j undef) := by simp [List.getD, Array.getD, hj]
  rw [this]
  exact .pure (ofVal_rel _ _ _)

omit hS in
theorem mapM_places (fs : List Field) (h : ∀ f ∈ fs, ∃ te, look C.types f.type = some te) (hC : CtxOk P C) : (fs.mapM fun f => (Prod.mk f.offset <$> sizeOf f.type : Sem (Nat × Nat))).run P w = .ok (fs.map fun f => (f.offset, ((look C.types f.type).map (·.size)).getD 0)) w := by
  induction fs with
  | nil => simp
  | cons f fs ih =>
    obtain ⟨te, hte⟩ := h f (List.mem_cons_self ..)
    have := ih fun g hg => h g (List.mem_cons_of_mem _ hg)
    simp only [List.mapM_cons, Sem.run_bind, Sem.run_map, (hC.types _ _ hte).run_size, Result.andThen_ok, Sem.run_pure, List.map_cons, hte, this, Option.map_some, Option.getD_some]

include hC
theorem v_build {t : Nat} {ps : Array (Nat × Operand)} (ho : o.op = .build t ps) (hp : (evalOp C (V.ev st.slots) st.blocks d ty o.op).pre.getD True) :
    ValOk P E w (evalOp C (V.ev st.slots) st.blocks d ty o.op) (execOp a.eval o) := by
  simp only [ho, evalOp] at hp ⊢
  cases hl : look C.types t with
  | none => rw [hl] at hp; exact hp.elim
  | some ti =>
    have ht := hC.types _ _ hl
    simp only [hl] at hp ⊢
    obtain ⟨z, hz, hzr⟩ := zero_row (E := E) (w := w) ht
    have hps : ∀ (e : Operand → Value), (ps.map fun (i, x) => (i, e x)).toList = ps.toList.map fun p => (p.1, e p.2) := by intro e; simp
    cases hk : ti.k with
    | struct fl =>
      have hd := ht.desc
      rw [hk] at hd
      obtain ⟨fs, hfs, hfl⟩ := und_struct hd
      simp only [hk] at hp ⊢
      cases hall : fl.all (fun f => (look C.types f.2).isSome) with
      | false => rw [hall] at hp; exact hp.elim
      | true =>
        rw [hall] at hp
        simp only [cond_true] at hp ⊢
        rw [List.all_eq_true] at hall
        have hsome : ∀ f ∈ fs.toList, ∃ te, look C.types f.type = some te := by
          intro f hf
          have := hall (f.offset, f.type) (by rw [← hfl]; exact List.mem_map_of_mem hf)
          exact Option.isSome_iff_exists.1 this
        have hm := mapM_places (w := w) fs.toList hsome hC
        have hplace : placeOf C fl = fun i => (fs.toList.map fun f => (f.offset, ((look C.types f.type).map (·.size)).getD 0))[i]? := by
          funext i
          rw [← hfl]
          simp only [placeOf, List.getElem?_map]
          cases hi : fs.toList[i]? with
          | none => rfl
          | some f =>
            obtain ⟨te, hte⟩ := hsome f (List.mem_of_getElem? hi)
            simp [hte]
        generalize (fs.toList.map fun f => (f.offset, ((look C.types f.type).map (·.size)).getD 0)) = pl at hm hplace
        rw [hplace] at hp ⊢
        cases hf : fillParts (fun i => pl[i]?) (V.ev st.slots) ps.toList ti.zero with
        | none => rw [hf] at hp; exact hp.elim
        | some l =>
          obtain ⟨c', h1, h2⟩ := fill_sound hS _ ps.toList ti.zero l z.cells hf hzr
          refine ⟨rfl, .agg c', ?_, .agg _ _ h2.1 h2.2⟩
          simp only [execOp, ho, Instr.build, Sem.run_bind, hz, Result.andThen_ok, run_und w hfs, hps]
          simp [Array.mapM_eq_mapM_toList, hm, h1]
    | array n el =>
      have hd := ht.desc
      rw [hk] at hd
      have hfs := und_array hd
      simp only [hk] at hp ⊢
      cases he : look C.types el with
      | none => rw [he] at hp; exact hp.elim
      | some te =>
        simp only [he] at hp ⊢
        cases hf : fillParts (fun i => some (i * te.size, te.size)) (V.ev st.slots) ps.toList ti.zero with
        | none => rw [hf] at hp; exact hp.elim
        | some l =>
          obtain ⟨c', h1, h2⟩ := fill_sound hS _ ps.toList ti.zero l z.cells hf hzr
          refine ⟨rfl, .agg c', ?_, .agg _ _ h2.1 h2.2⟩
          simp [execOp, ho, Instr.build, hz, run_und w hfs, (hC.types _ _ he).run_size, h1]
    | _ => simp only [hk] at hp; exact hp.elim

end
end Go.V
