/- Part 8: code, and functions. -/
import Derived.Test.YtiidjohhcappdaaVr2
namespace Go.V
open Go.RowKit (Below)

theorem has_iff {l : List Nat} {n : Nat} : has l n = true ↔ n ∈ l := by
  simp only [has, List.any_eq_true]
  constructor
  · rintro ⟨m, hm, h⟩
    rw [Nat.eq_of_beq_eq_true h]; exact hm
  · intro h
    exact ⟨n, h, by simp⟩
theorem look_map {α : Type} (f : Nat → α) : ∀ (l : List Nat) (n : Nat), look (l.map fun n => (n, f n)) n = if has l n then some (f n) else none
  | [], n => rfl
  | m :: l, n => by
    simp only [List.map_cons, look]
    cases h : Nat.beq m n with
    | true =>
      obtain rfl := Nat.eq_of_beq_eq_true h
      simp [has]
    | false =>
      simp only [cond_false, look_map f l n]
      have : Nat.beq n m = false := by
        rw [Bool.eq_false_iff] at h ⊢
        intro e
        exact h (by rw [Nat.eq_of_beq_eq_true e]; simp)
      simp [has, this]

section
variable {P : Program} {C : Ctx} {E : Env} {base : Nat} {w0 : Orig} {w : World} {st : St} {a : Act} {N : Nat}

theorem RelP.le {σ : Nat → Nat → Prop} {p q : PV} (h : PLe p q) : ∀ {v : Value}, RelP σ w p v → RelP σ w q v := by
  induction h with
  | refl p => exact fun h => h
  | junk p => exact fun _ => .junk _
  | slice t len get get' hg =>
    intro v h
    cases h with
    | slice _ _ a cap b o sz c hc ha hn hl h1 h2 => exact .slice len get' a cap b o sz c hc ha hn (fun i hi => by rw [← hg i hi]; exact hl i hi) h1 fun i hi j hj => by rw [← hg i hi]; exact h2 i hi j hj
  | bool b c e => subst e; exact fun h => h
  | tt b e => subst e; intro v h; cases h; exact .bool true
  | ff b e => subst e; intro v h; cases h; exact .bool false
  | int k m n e => subst e; exact fun h => h
  | agg xs ys hl _ ih =>
    intro v h
    cases h with
    | agg _ a hs h => exact .agg ys a (by rw [hs, hl]) fun i hi => ih i (by omega) (h i (by omega))
  | tup xs ys hl _ ih =>
    intro v h
    cases h with
    | tup _ a hs h => exact .tup ys a (by rw [hs, hl]) fun i hi => ih i (by omega) (h i (by omega))

theorem Rel.le {p q : PV} (h : PLe p q) : ∀ {v : Value}, Rel E w p v → Rel E w q v := by
  induction h with
  | refl p => exact fun h => h
  | junk p => exact fun _ => .pure (.junk _)
  | slice t len get get' hg =>
    intro v h
    cases h with
    | pure h => exact .pure (h.le (.slice _ _ _ _ hg))
    | tslice s _ _ a cap h g hh hL hx => exact .tslice s len get' a cap (h.le (.slice none _ _ _ hg)) g hh hL hx
  | bool b c e => subst e; exact fun h => h
  | tt b e => subst e; intro v h; rw [h.tt_inv]; exact .pure (.bool true)
  | ff b e => subst e; intro v h; rw [h.ff_inv]; exact .pure (.bool false)
  | int k m n e => subst e; exact fun h => h
  | agg xs ys hl _ ih =>
    intro v h
    obtain ⟨a, rfl, hs, hh⟩ := h.agg_inv
    exact .agg ys a (by rw [hs, hl]) fun i hi => ih i (by omega) (hh i (by omega))
  | tup xs ys hl _ ih =>
    intro v h
    obtain ⟨a, rfl, hs, hh⟩ := h.tup_inv
    exact .tup ys a (by rw [hs, hl]) fun i hi => ih i (by omega) (hh i (by omega))

theorem BR.le {s : Nat} {B B' : Blk} (h : BLe B B') (hb : BR E w base s B) : BR E w base s B' := by
  cases h with
  | refl => exact hb
  | cells xs ys hl h =>
    obtain ⟨h1, b, arr, e, h2, h3, h4, h5, h6⟩ := hb
    exact ⟨h1, b, arr, e, h2, h3, h4, by rw [h5, hl], fun i hi => (h6 i (by omega)).le (h i (by omega))⟩
  | arr len sz get get' h =>
    obtain ⟨h1, b, arr, e, h2, h3, h4, h5, h6⟩ := hb
    exact ⟨h1, b, arr, e, h2, h3, h4, h5, fun i hi => by rw [← h i hi]; exact h6 i hi⟩

theorem SR.le (hS : SR E base w0 st a w) {st' : St} (h : SLe st st') : SR E base w0 st' a w :=
  ⟨hS.dfr.step (fun _ _ h _ => h) fun s j e => by
    have := h.2 s
    rw [e] at this
    revert this
    generalize st'.blocks s = B
    intro this
    cases this
    rfl, fun n => (hS.slots n).le (h.1 n), fun s => (hS.blk s).le (h.2 s), hS.inj, hS.σok, hS.bel, hS.bas, hS.σin, hS.σout, hS.fr⟩

theorem SR.clean' (hS : SR E base w0 st a w) (live keep : List Nat) : SR (E.only (keepQ w0.off keep)) base w0 (clean w0.off live keep st) a w := by
  generalize hq : keepQ w0.off keep = q
  have hat : ∀ s b, (E.only q).at s = some b → E.at s = some b ∧ q s = true := by
    intro s b h
    cases hk : q s with
    | true => simpa [Env.at, Env.only, hk] using h
    | false => simp [Env.at, Env.only, hk] at h
  have hbr : ∀ s, q s = true → BR (E.only q) w base s (pruneB q (st.blocks s)) := by
    intro s hk
    have hb := hS.blk s
    have e1 : (E.only q).ρ s = E.ρ s := by simp [Env.only, hk]
    have e2 : (E.only q).hd s = E.hd s := by simp [Env.only, hk]
    cases hB : st.blocks s with
    | none => rw [hB] at hb; exact ⟨e1.trans hb.1, e2.trans hb.2⟩
    | jmp j => rw [hB] at hb; exact ⟨e1.trans hb.1, e2.trans hb.2⟩
    | cells l =>
      rw [hB] at hb
      obtain ⟨h1, b, arr, e, h2, h3, h4, h5, h6⟩ := hb
      refine ⟨e2.trans h1, b, arr, e, e1.trans h2, h3, h4, by simp [h5], fun i hi => ?_⟩
      simp at hi
      have : (l.map (prune q)).getD i .junk = prune q (l.getD i .junk) := by simp [List.getD, hi]
      rw [this]
      exact (h6 i hi).prune
    | arr len sz get =>
      rw [hB] at hb
      obtain ⟨h1, b, arr, e, h2, h3, h4, h5, h6⟩ := hb
      exact ⟨e2.trans h1, b, arr, e, e1.trans h2, h3, h4, h5, h6⟩
    | grow L el sz =>
      rw [hB] at hb
      obtain ⟨h1, g, h2, h3, h4, h5, h6⟩ := hb
      exact ⟨e1.trans h1, g, e2.trans h2, h3, h4, h5, h6⟩
  have hbook : Book base w0 (V.clean w0.off live keep st).blocks a.defers w := by
    refine ⟨hS.dfr.dfr, hS.dfr.kp, fun s l r h => ?_⟩
    obtain ⟨j, h1, h2⟩ := hS.dfr.jp s l r h
    refine ⟨j, ?_, h2⟩
    show (look (keep.map fun s => (s, pruneB (keepQ w0.off keep) (st.blocks s))) s).getD (bif Nat.blt s w0.off then pruneB (keepQ w0.off keep) (st.blocks s) else .none) = .jmp j
    rw [look_map, h1]
    have hlt : Nat.blt s w0.off = true := Nat.ble_eq_true_of_le (w0.hrc s _ h)
    cases has keep s with
    | true => rfl
    | false => simp only [Bool.false_eq_true, if_false, Option.getD_none, hlt, cond_true]; rfl
  refine ⟨hbook, fun n => ?_, fun s => ?_, ?_, ?_, hS.bel, hS.bas, hS.σin, hS.σout, fun q' p v h => ?_⟩
  · show Rel _ w ((look (live.map fun n => (n, prune (keepQ w0.off keep) (st.slots n))) n).getD .junk) _
    rw [look_map, hq]
    cases hl : has live n with
    | true => simp only [if_true, Option.getD_some]; exact (hS.slots n).prune
    | false => exact .pure (.junk _)
  · show BR _ w base s ((look (keep.map fun s => (s, pruneB (keepQ w0.off keep) (st.blocks s))) s).getD (bif Nat.blt s w0.off then pruneB (keepQ w0.off keep) (st.blocks s) else .none))
    rw [look_map, hq]
    cases hk : has keep s with
    | true =>
      simp only [if_true, Option.getD_some]
      exact hbr s (by rw [← hq]; simp [keepQ, hk])
    | false =>
      simp only [Bool.false_eq_true, if_false, Option.getD_none]
      cases hb : Nat.blt s w0.off with
      | true => exact hbr s (by rw [← hq]; simp [keepQ, hb])
      | false =>
        have : q s = false := by rw [← hq]; simp [keepQ, hb, hk]
        exact ⟨by simp [Env.only, this], by simp [Env.only, this]⟩
  · intro s s' b h h'
    exact hS.inj s s' b (hat s b h).1 (hat s' b h').1
  · intro b o h
    obtain ⟨h1, h2, h3⟩ := hS.σok b o h
    refine ⟨h1, fun s sz hx => ?_, fun s g hg hb => ?_⟩
    · cases hk : q s with
      | true => exact h2 s sz (by simpa [Env.only, hk] using hx)
      | false => simp [Env.only, hk] at hx
    · cases hk : q s with
      | true => exact h3 s g (by simpa [Env.only, hk] using hg) hb
      | false => simp [Env.only, hk] at hg
  · have hin : ∀ s, q' s = true → q s = true := fun s hs => by
      rw [← hq]; simp [keepQ, show Nat.blt s w0.off = true from Nat.ble_eq_true_of_le (w0.hΦ q' p v h s hs)]
    have hle : (E.only q').le ((E.only q).only q') := by
      refine ⟨fun s x hx => ?_, fun _ _ h => h, fun s g hg => ⟨g, ?_, Nat.le_refl _, fun _ => ⟨rfl, rfl⟩⟩⟩
      · simp only [Env.only] at hx ⊢
        split at hx
        · rename_i hq'; rw [if_pos hq', if_pos (hin s hq')]; exact hx
        · cases hx
      · simp only [Env.only] at hg ⊢
        split at hg
        · rename_i hq'; rw [if_pos hq', if_pos (hin s hq')]; exact hg
        · cases hg
    exact (hS.fr q' p v h).mono hle fun _ _ _ => rfl

theorem SR.clean (hS : SR E base w0 st a w) (live keep : List Nat) : ∃ E', SR E' base w0 (clean w0.off live keep st) a w := ⟨_, hS.clean' live keep⟩

theorem clean0 (live keep : List Nat) (st : St) : mkSt (live.zip (live.map fun n => prune (keepQ 0 keep) (st.slots n))) (keep.zip (keep.map fun s => pruneB (keepQ 0 keep) (st.blocks s))) = clean 0 live keep st := by
  have hz : ∀ {α : Type} (f : Nat → α) (l : List Nat), l.zip (l.map f) = l.map fun n => (n, f n) := by
    intro α f l
    induction l with
    | nil => rfl
    | cons a l ih => simp [ih]
  simp only [mkSt, clean, hz]
  congr 1

theorem rebase_sound (hoff : w0.off = C.off) (hS : SR E base w0 st a w) {k : St → Prop} (h : rebase C st k) : ∃ E' st', k st' ∧ SR E' base w0 st' a w := by
  unfold rebase at h
  cases hb : Nat.beq C.off 0 with
  | false => rw [hb] at h; exact ⟨E, st, h, hS⟩
  | true =>
    rw [hb] at h
    simp only [cond_true, frcL_eq frc3_eq, frcL_eq frcB_eq] at h
    have h0 : w0.off = 0 := by rw [hoff]; exact Nat.eq_of_beq_eq_true hb
    obtain ⟨E', hS'⟩ := hS.clean C.live C.names
    rw [h0, ← clean0] at hS'
    exact ⟨E', _, h, hS'⟩

theorem exists_least {p : Nat → Prop} (h : ∃ n, p n) : ∃ n, p n ∧ ∀ m, p m → n ≤ m := by
  obtain ⟨n, hn⟩ := h
  induction n using Nat.strongRecOn with
  | _ n ih =>
    by_cases hm : ∃ m, m < n ∧ p m
    · obtain ⟨m, h1, h2⟩ := hm
      exact ih m h1 h2
    · exact ⟨n, hn, fun m hpm => Nat.le_of_not_lt fun hlt => hm ⟨m, hlt, hpm⟩⟩

/-- What an end of a code's run says of the machine. -/
def OutQ (base : Nat) (w0 : Orig) (N : Nat) (K : Out → Prop) : Exit → Act → World → Prop
  | .normal, a, w => ∃ E st, K (.normal st) ∧ SR E base w0 st a w ∧ a.tmps.size = N
  | .exit n, a, w => ∃ E st, K (.exit n st) ∧ SR E base w0 st a w ∧ a.tmps.size = N
  | .ret, a, w => ∃ E st, K (.ret st) ∧ SR E base w0 st a w ∧ a.tmps.size = N
  | _, _, _ => False

def bareB : Blk → Bool
  | .none | .jmp _ => true
  | _ => false
theorem bare_ok {s : Nat} {B B' : Blk} (h : bareB B = true) (h' : bareB B' = true) (hb : BR E w base s B) : BR E w base s B' := by
  cases B <;> simp [bareB] at h <;> cases B' <;> simp [bareB] at h' <;> exact hb
/-- A step that turns the books alone. -/
theorem SR.books (hS : SR E base w0 st a w) {w' : World} {w1 : Orig} {a' : Act} {bl' : Nat → Blk} (ht : a'.tmps = a.tmps) (hw : w1.w = w0.w) (hσ : w1.σ = w0.σ) (hΦ : ∀ q p v, w1.Φ q p v → w0.Φ q p v)
    (hc : ∀ (b : Nat) c e f, w.heap[b]? = some (.cells c e f) → w'.heap[b]? = some (.cells c e f)) (hcell : ∀ b o, b < w.heap.size → w'.cell? ⟨b, o, none⟩ = w.cell? ⟨b, o, none⟩) (hbel : Below base w w')
    (hbl : ∀ s, bl' s = st.blocks s ∨ (bareB (st.blocks s) = true ∧ bareB (bl' s) = true)) (hbk : Book base w1 bl' a'.defers w') : SR E base w1 ⟨st.slots, bl'⟩ a' w' := by
  have hcσ : ∀ b o, E.σ b o → w'.cell? ⟨b, o, none⟩ = w.cell? ⟨b, o, none⟩ := fun b o h => hcell b o (hS.σok b o h).1
  refine ⟨hbk, fun n => ?_, fun s => ?_, hS.inj, fun b o h => ?_, ?_, ?_, ?_, ?_, fun q p v h => (hS.fr q p v (hΦ q p v h)).mono (E' := E.only q) (Env.le_refl _) hcσ⟩
  · rw [ht]; exact (hS.slots n).mono (Env.le_refl _) hcσ
  · have hk := (hS.blk s).keep (w' := w') (Env.le_refl _) hcσ rfl rfl fun b hb => by
      obtain ⟨⟨c, e, f, h⟩, _⟩ := hS.at_cells hb
      rw [h]; exact hc b c e f h
    rcases hbl s with h | ⟨h1, h2⟩
    · show BR E w' base s (bl' s); rw [h]; exact hk
    · exact bare_ok h1 h2 hk
  · obtain ⟨h1, h2, h3⟩ := hS.σok b o h
    exact ⟨Nat.lt_of_lt_of_le h1 hbel.size, h2, h3⟩
  · rw [hw]; exact hS.bel.trans hbel
  · exact Nat.le_trans hS.bas hbel.size
  · rw [hσ]; exact hS.σin
  · rw [hσ]; exact hS.σout

theorem cell_putObj {l : Nat} {o o0 : Obj} (hl : w.heap[l]? = some o0) (ho0 : NC o0) (ho : NC o) (b k : Nat) : (w.putObj l o).cell? ⟨b, k, none⟩ = w.cell? ⟨b, k, none⟩ := by
  by_cases hb : b = l
  · subst hb
    have h1 := World.putObj_heap_same (o := o) (Array.getElem?_eq_some_iff.1 hl).1
    simp only [World.cell?, h1, hl]
    split
    · rename_i c e f hc; exact (ho c e f (Option.some.inj hc)).elim
    · split
      · rename_i c e f hc; exact (ho0 c e f (Option.some.inj hc)).elim
      · rfl
  · exact cell_of_heap (World.putObj_heap_other hb)
theorem cells_putObj {l : Nat} {o o0 : Obj} (hl : w.heap[l]? = some o0) (ho0 : NC o0) (b : Nat) (c : Array Value) (e : TypeId) (f : Nat × Nat) (h : w.heap[b]? = some (.cells c e f)) : (w.putObj l o).heap[b]? = some (.cells c e f) := by
  refine (World.putObj_heap_other ?_).trans h
  rintro rfl
  rw [hl] at h
  exact ho0 c e f (Option.some.inj h)
theorem below_putObj {l : Nat} {o : Obj} (h : base ≤ l) : Below base w (w.putObj l o) :=
  ⟨rfl, rfl, rfl, by simp, fun k hk => World.putObj_heap_other (by omega)⟩
/-- The books, where one loop's record turns. -/
theorem Book.turn {bl : Nat → Blk} {ds : List Deferred} (h : Book base w0 bl ds w) {s l : Nat} {r : Loop} (hrc : w0.rc s = some (l, r)) (j : JS) : Book base w0 (upd bl s (.jmp j)) ds (w.putObj l (.loop (j.loopOf r))) := by
  obtain ⟨j0, h1, h2⟩ := h.jp s l r hrc
  have hne : ∀ (b : Nat) x, w.heap[b]? = some (.deferred x) → (w.putObj l (.loop (j.loopOf r))).heap[b]? = some (.deferred x) := fun b x hb =>
    (World.putObj_heap_other (by rintro rfl; rw [h2] at hb; cases hb)).trans hb
  refine ⟨?_, fun b o hk => ?_, fun s' l' r' hr => ?_⟩
  · obtain ⟨Ds, g1, g2, g3⟩ := h.dfr
    exact ⟨Ds, g1, g2, fun D hD => ⟨(g3 D hD).1, hne _ _ (g3 D hD).2.1, (g3 D hD).2.2⟩⟩
  · have ho := w0.hκ b o hk
    subst ho
    exact hne _ _ (h.kp b _ hk)
  · by_cases hs : s' = s
    · subst hs
      rw [hrc] at hr
      cases hr
      exact ⟨j, upd_same _ _ _, World.putObj_heap_same (Array.getElem?_eq_some_iff.1 h2).1⟩
    · obtain ⟨j', g1, g2⟩ := h.jp s' l' r' hr
      refine ⟨j', by rw [upd_ne _ _ hs]; exact g1, (World.putObj_heap_other ?_).trans g2⟩
      rintro rfl
      exact hs (w0.hri s' s l' r' r hr hrc)
/-- One loop's record turns. -/
theorem SR.turn (hS : SR E base w0 st a w) {s l : Nat} {r : Loop} (hrc : w0.rc s = some (l, r)) (hbl : base ≤ l) (j : JS) : SR E base w0 ⟨st.slots, upd st.blocks s (.jmp j)⟩ a (w.putObj l (.loop (j.loopOf r))) := by
  obtain ⟨j0, h1, h2⟩ := hS.dfr.jp s l r hrc
  refine hS.books rfl rfl rfl (fun _ _ _ h => h) (cells_putObj h2 (.loop _)) (fun b o _ => cell_putObj h2 (.loop _) (.loop _) b o) (below_putObj hbl) (fun s' => ?_) (hS.dfr.turn hrc j)
  by_cases hs : s' = s
  · subst hs
    exact .inr ⟨by rw [h1]; rfl, by rw [upd_same]; rfl⟩
  · exact .inl (upd_ne _ _ hs)
/-- A round's end: what is the round's own is let go. -/
theorem SR.cut (hS : SR E base w0 st a w) {o2 : Nat} (ho : w0.off = o2) : ∃ E', SR E' base w0 ⟨fun _ => .junk, cutB o2 st.blocks⟩ noAct w := by
  have h := hS.clean' [] []
  have hq : keepQ w0.off [] = fun s => Nat.blt s o2 := by funext s; simp [keepQ, has, ho]
  have hbl : V.clean w0.off [] [] st = ⟨fun _ => .junk, cutB o2 st.blocks⟩ := by
    unfold V.clean cutB
    rw [hq, ho]
    rfl
  rw [hbl] at h
  exact ⟨_, h.dfr.bare, fun _ => .pure (.junk _), h.blk, h.inj, h.σok, h.bel, h.bas, h.σin, h.σout, h.fr⟩

theorem setPs_rel : ∀ (ps : List Nat) (args : List PV) (vals : List Value) (sl : Nat → PV) (tmps : Array Value), (∀ n, Rel E w (sl n) (tmps.getD n undef)) → args.length = ps.length → vals.length = ps.length → (∀ i, i < args.length → Rel E w (args.getD i .junk) (vals.getD i undef)) →
    (∀ q ∈ ps, q < tmps.size) → (∀ n, Rel E w (setPs sl ps args n) (((ps.zip vals).foldl (fun t (p, v) => t.setIfInBounds p v) tmps).getD n undef)) ∧ ((ps.zip vals).foldl (fun t (p, v) => t.setIfInBounds p v) tmps).size = tmps.size
  | [], [], [], sl, tmps, h, _, _, _, _ => ⟨fun n => h n, rfl⟩
  | q :: ps, v :: args, u :: vals, sl, tmps, h, h1, h2, h3, h4 => by
    have hq := h4 q (List.mem_cons_self ..)
    have := setPs_rel ps args vals (upd sl q v) (tmps.setIfInBounds q u) (fun n => by
      by_cases hn : n = q
      · subst hn
        rw [upd_same]
        have := h3 0 (by simp)
        simpa [Array.getD, hq] using this
      · rw [upd_ne _ _ hn]
        have := h n
        by_cases hs : n < tmps.size
        · have hqn : q ≠ n := fun e => hn e.symm
          simpa [Array.getD, hs, Array.getElem_setIfInBounds, hqn] using this
        · simpa [Array.getD, hs] using this) (by simpa using h1) (by simpa using h2) (fun i hi => by simpa using h3 (i + 1) (by simpa using hi)) fun q' hq' => by simpa using h4 q' (List.mem_cons_of_mem _ hq')
    exact ⟨this.1, by simpa using this.2⟩
  | [], [], _ :: _, _, _, _, _, h, _, _ => by simp at h
  | [], _ :: _, _, _, _, _, h, _, _, _ => by simp at h
  | _ :: _, [], _, _, _, _, h, _, _, _ => by simp at h
  | _ :: _, _ :: _, [], _, _, _, _, h, _, _ => by simp at h

theorem ghost_sound : ∀ (gs : List (Nat × Nat × Nat × Nat × Nat)) {st st' : St} {E : Env}, SR E base w0 st a w → ghost st gs = some st' → ∃ E', SR E' base w0 st' a w
  | [], st, st', E, hS, h => by cases h; exact ⟨E, hS⟩
  | (s, i, g, el, sz) :: r, st, st', E, hS, h => by
    simp only [ghost] at h
    split at h
    · rename_i l hs hg
      split at h
      · rename_i hi
        cases hz : Nat.blt 0 sz with
        | false => rw [hz] at h; cases h
        | true =>
        rw [hz] at h
        have hpos : 0 < sz := Nat.le_of_ble_eq_true hz
        have hn := hS.blk g
        rw [hg] at hn
        have hgr : Grew w w el sz none 0 0 0 [] none 0 := ⟨fun _ => ⟨rfl, rfl⟩, (fun b h => nomatch h), fun _ _ _ => rfl, fun _ => ⟨rfl, rfl⟩, rfl, rfl, rfl, Nat.le_refl _⟩
        obtain ⟨E', k1, k2, _, k4, k5⟩ := SR.grew hS hgr hpos (Nat.le_refl _) hn.1 (.inl ⟨hn.2, rfl, rfl⟩) (fun b h => nomatch h) (fun j h => by rw [hg] at h; cases h)
        have hne : s ≠ g := by rintro rfl; rw [hs] at hg; cases hg
        refine ghost_sound r (E := E') ?_ h
        refine ⟨k5.dfr.step (fun _ _ h _ => h) (upd_jmp fun j h => ?_), k5.slots, fun s' => ?_, k5.inj, k5.σok, k5.bel, k5.bas, k5.σin, k5.σout, k5.fr⟩
        · have : upd st.blocks g (.grow 0 el sz) s = .jmp j := h
          rw [upd_ne _ _ hne, hs] at this; cases this
        · show BR E' w base s' (upd (upd st.blocks g (.grow 0 el sz)) s _ s')
          by_cases hs' : s' = s
          · subst hs'
            rw [upd_same]
            have hb := k5.blk s'
            have e : (st.setB (some (g, .grow 0 el sz))).blocks s' = .cells l := by
              show upd st.blocks g (.grow 0 el sz) s' = _
              rw [upd_ne _ _ hne, hs]
            rw [e] at hb
            obtain ⟨h1, b, arr, e, h2, h3, h4, h5, h6⟩ := hb
            refine ⟨h1, b, arr, e, h2, h3, h4, by simpa using h5, fun j hj => ?_⟩
            have hj' : j < l.length := by simpa using hj
            have h7 := h6 j hj'
            by_cases hij : i = j
            · subst hij
              have e1 : l.getD i .junk = .nils := by simp [List.getD, hi]
              rw [e1] at h7
              have e2 : (l.set i (.slice (some g) 0 fun _ => [])).getD i .junk = .slice (some g) 0 fun _ => [] := by simp [List.getD, hj']
              rw [e2, h7.nils_inv]
              exact .tslice g 0 _ none 0 (.slice 0 _ none 0 0 0 0 (fun _ _ => undef) (Nat.le_refl _) (by omega) (fun _ => rfl) (by intro i hi; omega) (by intro i hi; omega) (by intro i hi; omega)) _ k2 (Nat.le_refl _) fun _ => ⟨rfl, rfl⟩
            · have e2 : (l.set i (.slice (some g) 0 fun _ => [])).getD j .junk = l.getD j .junk := by simp [List.getD, List.getElem?_set_ne hij]
              rw [e2]; exact h7
          · rw [upd_ne _ _ hs']; exact k5.blk s'
      · cases h
    · cases h

theorem evalCode_sound (hm : P.follows .mixedOrders = true) : ∀ (c : Code) (C : Ctx) (w0 : Orig) (r : Option Nat), CtxOk P C → w0.off = C.off → (∀ y, C.yld = some y → SoundY P base w0 y) → (C.rnd = false → r = none) → ∀ (st : St) (E : Env) (a : Act) (w : World) (K : Out → Prop), SR E base w0 st a w → a.tmps.size = N → okCode (okOper N) c = true → evalCode C c st K → c.wpIn (Fc r) 0 P (OutQ base w0 N K) a w := by
  intro c
  induction c with
  | skip => intro C w0 r hC hoff hY hr st E a w K hS hN _ h; exact wpIn_skip ⟨E, st, h, hS, hN⟩
  | ret => intro C w0 r hC hoff hY hr st E a w K hS hN _ h; exact wpIn_ret ⟨E, st, h, hS, hN⟩
  | exit n => intro C w0 r hC hoff hY hr st E a w K hS hN _ h; exact wpIn_exit ⟨E, st, h, hS, hN⟩
  | region id ops draw =>
    intro C w0 r hC hoff hY hr st E a w K hS hN hok h
    simp only [okCode, Bool.and_eq_true] at hok
    simp only [evalCode] at h
    cases hmg : C.merge with
    | true =>
      rw [hmg] at h
      simp only [cond_true] at h
      have hreb : ∀ {E' st' a' w'}, rebase C st' (fun st => K (.normal st)) → SR E' base w0 st' a' w' → a'.tmps.size = N → OutQ base w0 N K .normal a' w' := by
        intro E' st' a' w' hk hS' hN'
        obtain ⟨E2, st2, h1, h2⟩ := rebase_sound hoff hS' hk
        exact ⟨E2, st2, h1, h2, hN'⟩
      cases hgd : guarded ops.toList with
      | true =>
        rw [hgd] at h
        simp only [cond_true] at h
        have hR : Real st st [] := ⟨rfl, fun _ _ => rfl, fun _ _ _ h => (by cases h), fun _ _ _ h => (by cases h), fun _ _ _ h => (by cases h), fun _ h => (by cases h)⟩
        obtain ⟨tr', stf, full, h1, h2, h3, h4⟩ := evalM_run _ st st [] [] _ hR h
        have hQ : ∀ E' st' a' w', (∃ st2, SLe st' st2 ∧ rebase C st2 fun st => K (.normal st)) → SR E' base w0 st' a' w' → a'.tmps.size = N → OutQ base w0 N K .normal a' w' := by
          rintro E' st' a' w' ⟨st2, hle, hk⟩ hS' hN'
          exact hreb hk (hS'.le hle) hN'
        cases draw with
        | false =>
          refine wpIn_region_list ?_
          have e : (ops.toList.zipIdx.map fun (o, i) => (i, o)).map Prod.snd = ops.toList := by
            rw [List.map_map]
            exact (List.map_congr_left fun x _ => rfl).trans (List.zipIdx_map_fst 0 ops.toList)
          have := runT_list (r := r) hC (fun st' => ∃ st2, SLe st' st2 ∧ rebase C st2 fun st => K (.normal st)) hQ _ tr' st stf E a w h1 h4 hS hN (by rw [e]; exact hok.1)
          rw [e] at this
          exact this
        | true =>
          have hfit : fitOps ops.toList = true := by simpa using hok.2
          refine wpIn_region_any hm ?_
          have := wpAny_run (r := r) hC hfit hok.1 (fun st' => ∃ st2, SLe st' st2 ∧ rebase C st2 fun st => K (.normal st)) [] (Q := OutQ base w0 N K) (fun E' st' a' w' listed' hk hS' hN' hL' => ⟨List.eq_nil_iff_forall_not_mem.2 fun i hi => by obtain ⟨o, ho, _⟩ := hL'.ancs_done hfit hi; simp at ho, hQ E' st' a' w' hk hS' hN'⟩)
            ops.toList.length _ (Array.replicate ops.size false) tr' st stf E a { w with drawn := w.drawn + 1 } (by simp) (by simpa using left_all ops) (by simp) h1 (calm_filter tr' (calm_sub (by simpa using h3) h2)) h4 (hS.drawn _) hN
          simpa using this
      | false =>
        rw [hgd] at h
        simp only [cond_false] at h
        cases draw with
        | false =>
          simp only [cond_false] at h
          exact wpIn_region_list (evalOps_sound hC hoff hY ops.toList st E a w _ hS hN hok.1 h fun E' st' a' w' hk hS' hN' => hreb hk hS' hN')
        | true =>
          simp only [cond_true] at h
          exact evalDs_sound hC hoff hY hm hS hN (by simpa using hok.2) hok.1 h fun E' st' a' w' hk hS' hN' => hreb hk hS' hN'
    | false =>
    rw [hmg] at h
    simp only [cond_false] at h
    cases draw with
    | false =>
      simp only [cond_false] at h
      exact wpIn_region_list (evalOps_sound hC hoff hY ops.toList st E a w _ hS hN hok.1 h fun E' st' a' w' hk hS' hN' => ⟨E', st', hk, hS', hN'⟩)
    | true =>
      simp only [cond_true] at h
      exact evalDs_sound hC hoff hY hm hS hN (by simpa using hok.2) hok.1 h fun E' st' a' w' hk hS' hN' => ⟨E', st', hk, hS', hN'⟩
  | seq x y ihx ihy =>
    intro C w0 r hC hoff hY hr st E a w K hS hN hok h
    simp only [okCode, Bool.and_eq_true] at hok
    simp only [evalCode] at h
    refine wpIn_seq (wpIn_mono (ihx C w0 r hC hoff hY hr st E a w _ hS hN hok.1 h) fun e a' w' hq => ?_)
    cases e with
    | normal =>
      obtain ⟨E', st', hk, hS', hN'⟩ := hq
      exact ihy C w0 r hC hoff hY hr st' E' a' w' K hS' hN' hok.2 hk
    | _ => exact hq
  | cond c x y ihx ihy =>
    intro C w0 r hC hoff hY hr st E a w K hS hN hok h
    simp only [okCode, Bool.and_eq_true] at hok
    simp only [evalCode] at h
    have hc := hS.ev c
    cases hv : V.ev st.slots c with
    | tt => rw [hv] at h hc; exact wpIn_cond_true hc.tt_inv (ihx C w0 r hC hoff hY hr st E a w K hS hN hok.1 h)
    | ff => rw [hv] at h hc; exact wpIn_cond_false hc.ff_inv (ihy C w0 r hC hoff hY hr st E a w K hS hN hok.2 h)
    | bool b => rw [hv] at h hc; exact wpIn_cond_split hc.bool_inv (fun hb => ihx C w0 r hC hoff hY hr st E a w K hS hN hok.1 (h.1 hb)) fun hb => ihy C w0 r hC hoff hY hr st E a w K hS hN hok.2 (h.2 hb)
    | _ => rw [hv] at h; exact h.elim
  | block id x ih =>
    intro C w0 r hC hoff hY hr st E a w K hS hN hok h
    simp only [okCode] at hok
    simp only [evalCode] at h
    refine wpIn_block (wpIn_mono (ih C w0 r hC hoff hY hr st E a w _ hS hN hok h) fun e a' w' hq => ?_)
    cases e with
    | exit n =>
      obtain ⟨E', st', hk, hS', hN'⟩ := hq
      simp only at hk
      simp only [Exit.inBlock]
      cases hb : Nat.beq n id with
      | true =>
        rw [hb] at hk
        rw [if_pos (Nat.eq_of_beq_eq_true hb)]
        exact ⟨E', st', hk, hS', hN'⟩
      | false =>
        rw [hb] at hk
        rw [if_neg (by rintro rfl; simp at hb)]
        exact ⟨E', st', hk, hS', hN'⟩
    | _ => exact hq
  | loop x ih =>
    intro C w0 r hC hoff hY hr st E a w K hS hN hok h
    simp only [okCode] at hok
    simp only [evalCode] at h
    rw [← hoff] at h
    obtain ⟨live, keep, Inv, μ, ⟨st1, hle, hI⟩, hround⟩ := h.get
    obtain ⟨E1, hS1⟩ := hS.clean live keep
    have hS1 := hS1.le hle
    let Good : Act → World → Nat → Prop := fun a w n => ∃ E st, Inv st ∧ SR E base w0 st a w ∧ a.tmps.size = N ∧ μ st = n
    have hgood : ∀ {a w}, (∃ n, Good a w n) → ∃ n, Good a w n ∧ ∀ m, Good a w m → n ≤ m := fun h => exists_least h
    let ν : Act → World → Nat := fun a w => @Classical.epsilon Nat ⟨0⟩ fun n => Good a w n ∧ ∀ m, Good a w m → n ≤ m
    have hν : ∀ {a w}, (∃ n, Good a w n) → Good a w (ν a w) ∧ ∀ m, Good a w m → ν a w ≤ m := fun h => Classical.epsilon_spec (hgood h)
    refine wpIn_loop (fun a w => ∃ n, Good a w n) ν ⟨_, E1, st1, hI, hS1, hN, rfl⟩ fun a w hg => ?_
    obtain ⟨⟨E2, st2, hI2, hS2, hN2, hμ⟩, _⟩ := hν hg
    refine wpIn_mono (ih C w0 r hC hoff hY hr st2 E2 a w _ hS2 hN2 hok (hround st2 hI2)) fun e a' w' hq => ?_
    cases e with
    | normal =>
      obtain ⟨E', st', hnx, hS', hN'⟩ := hq
      obtain ⟨st3, hle3, hI3, hlt⟩ := hnx.get
      obtain ⟨E3, hS3⟩ := hS'.clean live keep
      have hg3 : Good a' w' (μ st3) := ⟨E3, st3, hI3, hS3.le hle3, hN', rfl⟩
      refine ⟨⟨_, hg3⟩, ?_⟩
      have := (hν ⟨_, hg3⟩).2 _ hg3
      omega
    | _ => exact hq
  | rangeFunc g ps assign body iha ihb =>
    intro C w0 r hC hoff hY hr st E a w K hS hN hok h
    simp only [okCode, Bool.and_eq_true] at hok
    obtain ⟨⟨hok0, hoka⟩, hokb⟩ := hok
    simp only [evalCode] at h
    cases hrd : C.rnd with
    | true => rw [hrd] at h; exact h.elim
    | false =>
    rw [hrd] at h
    obtain rfl := hr hrd
    simp only at h
    obtain ⟨gs, h⟩ := h.get
    cases hgs : ghost st gs with
    | none => rw [hgs] at h; exact h.elim
    | some st2 =>
    rw [hgs] at h
    simp only at h
    obtain ⟨E0, hS⟩ := ghost_sound gs hS hgs
    clear hgs
    generalize st2 = st at hS h
    generalize E0 = E at hS
    have hg := hS.ev g
    split at h
    · rename_i f xs ys hgv
      rw [hgv] at hg
      obtain ⟨va, vb, ev', ha, hb, h1, h2⟩ := hg.fn_inv
      split at h
      · rename_i s0 o1 o2 I hI
        split at h
        · rename_i hnone
          obtain ⟨hbs, h⟩ := h
          simp only [Bool.and_eq_true] at hbs
          have hs0 : w0.off ≤ s0 := by rw [hoff]; exact Nat.le_of_ble_eq_true hbs.1.1
          have hs1 : s0 < o1 := Nat.le_of_ble_eq_true hbs.1.2
          have hs2 : o1 ≤ o2 := Nat.le_of_ble_eq_true hbs.2
          obtain ⟨hsnd, fn', fc, hfn, hnm, hbd⟩ := hC.iters f s0 o1 o2 I hI
          have hnm' : fn'.name ≠ "runtime.NumGoroutine" := by simpa using hnm
          refine wpIn_rangeFunc ?_
          intro fn _
          obtain ⟨rec, hrec⟩ : ∃ rec : Loop, rec = { state := .ready, pending := none, fn, tmps := a.tmps, params := ps, assign, body, defers := w.heap.size } := ⟨_, rfl⟩
          obtain ⟨W1, hW1⟩ : ∃ W1, (w.alloc (.deferred (some []))).alloc (.loop rec) = W1 := ⟨_, rfl⟩
          have hold : ∀ b : Nat, b < w.heap.size → W1.heap[b]? = w.heap[b]? := fun b hb => by
            rw [← hW1]
            exact (heap_alloc_lt _ _ (by simp; omega)).trans (heap_alloc_lt _ _ hb)
          have hL1 : W1.heap[w.heap.size + 1]? = some (.loop rec) := by
            rw [← hW1]; have := World.alloc_heap_new (w.alloc (.deferred (some []))) (.loop rec); rwa [World.size_alloc] at this
          have hK1 : W1.heap[w.heap.size]? = some (.deferred (some [])) := by
            rw [← hW1]; exact (Below.heap_alloc _ _ _ (by simp)).trans (World.alloc_heap_new w _)
          have hbas := hS.bas
          obtain ⟨Ds, hDs, hDn, hDb⟩ := hS.dfr.dfr
          have hDlt : ∀ D ∈ Ds, D < w.heap.size := fun D hD => (Array.getElem?_eq_some_iff.1 (hDb D hD).2.1).1
          have hDs' : markOf w.heap.size :: a.defers = (w.heap.size :: Ds).map markOf := by rw [hDs]; rfl
          have hDn' : (w.heap.size :: Ds).Nodup := List.nodup_cons.2 ⟨fun h => by have := hDlt _ h; omega, hDn⟩
          have hκlt : ∀ b o, w0.κ b o → b < w.heap.size := fun b o hk => (Array.getElem?_eq_some_iff.1 (hS.dfr.kp b o hk)).1
          have hDb' : ∀ D ∈ w.heap.size :: Ds, base ≤ D ∧ ∀ o, ¬ w0.κ D o := by
            intro D hD
            rcases List.mem_cons.1 hD with rfl | hD
            · exact ⟨hbas, fun o hk => by have := hκlt _ o hk; omega⟩
            · exact ⟨(hDb D hD).1, (hDb D hD).2.2⟩
          have hfresh : ∀ s r, w0.rc s ≠ some (w.heap.size + 1, r) := fun s r hx => by
            obtain ⟨j, _, hj⟩ := hS.dfr.jp s _ r hx
            have := (Array.getElem?_eq_some_iff.1 hj).1
            omega
          have hS1 : SR E base w0 ⟨st.slots, st.blocks⟩ { a with defers := markOf w.heap.size :: a.defers } W1 := by
            refine hS.books rfl rfl rfl (fun _ _ _ h => h) (fun b c e f hb => (hold b (Array.getElem?_eq_some_iff.1 hb).1).trans hb) (fun b o hb => cell_of_heap (hold b hb)) ?_ (fun _ => .inl rfl) ⟨⟨w.heap.size :: Ds, hDs', hDn', fun D hD => ⟨(hDb' D hD).1, ?_, (hDb' D hD).2⟩⟩, fun b o hk => (hold b (hκlt b o hk)).trans (hS.dfr.kp b o hk), fun s l r hx => ?_⟩
            · rw [← hW1]; exact ((Below.refl base w).alloc hbas _).alloc (by simp; omega) _
            · rcases List.mem_cons.1 hD with rfl | hD
              · exact hK1
              · exact (hold D (hDlt D hD)).trans (hDb D hD).2.1
            · obtain ⟨j, g1, g2⟩ := hS.dfr.jp s l r hx
              exact ⟨j, g1, (hold l (Array.getElem?_eq_some_iff.1 g2).1).trans g2⟩
          have hrec0 : JS.ready.loopOf rec = rec := by rw [hrec]; rfl
          have hS2 := hS1.callO (off := o1) (hle := by omega) (ex := some (s0, w.heap.size + 1, rec)) (hex := by intro x hx; cases hx; exact ⟨hs1, hfresh⟩) (bl := upd st.blocks s0 (.jmp .ready))
            (fun s => by
              by_cases hs : s = s0
              · subst hs; rw [upd_same]; exact bare_ok (B := .none) rfl rfl (by have := hS1.blk s; rw [show (St.blocks ⟨st.slots, st.blocks⟩) s = .none from hnone] at this; exact this)
              · rw [upd_ne _ _ hs]; exact hS1.blk s) (upd_jmp fun j hj => by rw [show (St.blocks ⟨st.slots, st.blocks⟩) s0 = .none from hnone] at hj; cases hj)
            (by intro x hx; cases hx; exact ⟨.ready, upd_same _ _ _, by rw [hrec0]; exact hL1⟩)
          have hrow : RowR E W1 (xs ++ (.yld (w.heap.size + 1) :: ys)) (va ++ (#[.func (.yield (w.heap.size + 1)) #[] #[]] ++ vb)) := by
            have hm : ∀ {p v}, Rel E w p v → Rel E W1 p v := fun h => h.mono (Env.le_refl _) fun b o hb => cell_of_heap (hold b (hS.σok b o hb).1)
            refine RowR.append ⟨ha, fun i hi => hm (h1 i hi)⟩ (RowR.append (l := [.yld (w.heap.size + 1)]) ⟨rfl, fun i hi => ?_⟩ ⟨hb, fun i hi => hm (h2 i hi)⟩)
            have : i = 0 := by simpa using hi
            subst this
            exact .pure (.yld _)
          have hxl : ∀ x, some (s0, w.heap.size + 1, rec) = some x → w0.off ≤ x.1 := by intro x hx; cases hx; exact hs0
          have hle1 := callO_le (w0 := w0) (off := o1) (hle := by omega) (sl := st.slots) (a := { a with defers := markOf w.heap.size :: a.defers }) (ex := some (s0, w.heap.size + 1, rec)) (hex := by intro x hx; cases hx; exact ⟨hs1, hfresh⟩) hxl
          have hcall := hsnd _ _ _ _ rfl rfl (h (w.heap.size + 1)) E base _ W1 (va ++ (#[.func (.yield (w.heap.size + 1)) #[] #[]] ++ vb)) rfl hS2 ?_ hrow.1 hrow.2
          refine ⟨w.heap.size + 1, [markOf w.heap.size], W1, { target := .fn (.func f) vb, args := va ++ #[.func (.yield (w.heap.size + 1)) #[] #[]] }, W1, f, va ++ #[.func (.yield (w.heap.size + 1)) #[] #[]] ++ vb, W1, ?_, ?_, fun _ _ => trivial, ?_, (fun h => by cases h), ?_⟩
          · rw [← hW1, hrec]; exact run_enterLoop_outer _ _ _ _ _
          · simp [resolve, ev', Deferred.ofValue]
            rfl
          · simp [invoke, callFunc, hfn, hnm', hbd]
          · have hcall := calls_fc (r := none) hcall
            rw [← Array.append_assoc] at hcall
            refine CallsIn.mono hcall ?_
            rintro e w' ⟨v, p, bl', E', rfl, hk, hS', hv⟩
            have hrc : (callO w0 o1 (by omega) st.slots { a with defers := markOf w.heap.size :: a.defers } (some (s0, w.heap.size + 1, rec)) (by intro x hx; cases hx; exact ⟨hs1, hfresh⟩)).rc s0 = some (w.heap.size + 1, rec) := if_pos rfl
            obtain ⟨j, hj1, hj2⟩ := hS'.dfr.jp s0 _ _ hrc
            have hj1 : bl' s0 = .jmp j := hj1
            have hSb := SR.backO hDs' hDn' hDb' hxl hS'
            have hback : ∀ o : Loop, SR E' base w0 ⟨fun n => prune (fun s => Nat.blt s o1) (st.slots n), upd bl' s0 .none⟩ { a with defers := markOf w.heap.size :: a.defers } (w'.putObj (w.heap.size + 1) (.loop o)) := by
              intro o
              have hne : ∀ (b : Nat) x, w'.heap[b]? = some (.deferred x) → (w'.putObj (w.heap.size + 1) (.loop o)).heap[b]? = some (.deferred x) := fun b x hb =>
                (World.putObj_heap_other (by rintro rfl; rw [hj2] at hb; cases hb)).trans hb
              refine hSb.books rfl rfl rfl (fun _ _ _ h => h) (cells_putObj hj2 (.loop _)) (fun b o _ => cell_putObj hj2 (.loop _) (.loop _) b o) (below_putObj (by omega)) (fun s' => ?_) ⟨?_, fun b o hk => ?_, fun s l r hx => ?_⟩
              · by_cases hs : s' = s0
                · subst hs; exact .inr ⟨by show bareB (bl' s') = true; rw [hj1]; rfl, by rw [upd_same]; rfl⟩
                · exact .inl (upd_ne _ _ hs)
              · obtain ⟨Ds2, g1, g2, g3⟩ := hSb.dfr.dfr
                exact ⟨Ds2, g1, g2, fun D hD => ⟨(g3 D hD).1, hne _ _ (g3 D hD).2.1, (g3 D hD).2.2⟩⟩
              · have ho := w0.hκ b o hk
                subst ho
                exact hne _ _ (hSb.dfr.kp b _ hk)
              · obtain ⟨j', g1, g2⟩ := hSb.dfr.jp s l r hx
                have hs : s ≠ s0 := by rintro rfl; have := w0.hrc _ _ hx; omega
                refine ⟨j', by rw [upd_ne _ _ hs]; exact g1, (World.putObj_heap_other ?_).trans g2⟩
                rintro rfl
                exact hfresh s r hx
            rw [hj1] at hk
            cases j with
            | busy => exact hk.elim
            | ready =>
              refine ⟨none, _, by have := run_endLoop (P := P) hj2 (by simp [JS.loopOf]); exact this, ?_⟩
              exact ⟨E', _, hk, hback _, hN⟩
            | done e =>
              cases e with
              | none =>
                refine ⟨some .ret, _, by have := run_endLoop (P := P) hj2 (by simp [JS.loopOf]); exact this, ?_⟩
                exact wpIn_ret ⟨E', _, hk, hback _, hN⟩
              | some n =>
                refine ⟨some (.exit n), _, by have := run_endLoop (P := P) hj2 (by simp [JS.loopOf]); exact this, ?_⟩
                exact wpIn_exit ⟨E', _, hk, hback _, hN⟩
          · -- one round
            intro w1 hle hoff1 args bl K' hy hrdy E1 W vals hS3 hsz hrel
            obtain ⟨hlen, hy⟩ := hy
            have hlen : args.length = ps.size := Nat.eq_of_beq_eq_true hlen
            have hrc : w1.rc s0 = some (w.heap.size + 1, rec) := hle.rc _ _ (if_pos rfl)
            obtain ⟨j, hj1, hj2⟩ := hS3.dfr.jp s0 _ _ hrc
            have hj : j = .ready := by have hrdy : bl s0 = .jmp .ready := hrdy; rw [show (St.blocks ⟨fun _ => .junk, bl⟩) s0 = bl s0 from rfl, hrdy] at hj1; cases hj1; rfl
            subst hj
            have hrun := run_yield (P := P) (args := vals) hj2 (by rw [hsz, hlen, hrec]; rfl)
            rw [hrec0, hrec] at hrun
            have hpl : ps.toList.length = ps.size := by simp
            have hvl : vals.toList.length = ps.size := by simp [hsz, hlen]
            obtain ⟨hset, hset2⟩ := setPs_rel (E := E1) (w := W) ps.toList args vals.toList (fun n => prune (fun s => Nat.blt s o1) (st.slots n)) a.tmps (fun n => (hS3.fr _ _ _ (hle.Φ _ _ _ (.inr ⟨rfl, n, rfl, rfl⟩))).mono (Env.only_self _ _) fun _ _ _ => rfl) (by omega) (by omega)
              (fun i hi => by have := hrel i hi; simpa [Array.getD, List.getD, show i < vals.size by omega] using this) fun q hq => by
                rw [hN]
                have := List.all_eq_true.1 hok0 q hq
                exact okOper_dst this q rfl
            have hfold : (ps.zip vals).foldl (fun tmps (t, a) => tmps.setIfInBounds t a) a.tmps = (ps.toList.zip vals.toList).foldl (fun t (p, v) => t.setIfInBounds p v) a.tmps := by
              rw [← Array.toList_zip, Array.foldl_toList]
            rw [← hfold] at hset hset2
            refine ⟨fn, _, assign, body, hrun, roundIn_of_wpIn trivial ?_⟩
            have hS4 : SR E1 base w1 ⟨setPs (fun n => prune (fun s => Nat.blt s o1) (st.slots n)) ps.toList args, bl⟩ { tmps := (ps.zip vals).foldl (fun tmps (t, a) => tmps.setIfInBounds t a) a.tmps, defers := [] } W :=
              ⟨hS3.dfr, hset, hS3.blk, hS3.inj, hS3.σok, hS3.bel, hS3.bas, hS3.σin, hS3.σout, hS3.fr⟩
            have hC1 : CtxOk P { C with off := o2, rnd := true } := ⟨hC.effs, hC.types, hC.iters, hC.specs⟩
            have hY1 : ∀ y, C.yld = some y → SoundY P base w1 y := fun y hy => (hY y hy).le (hle1.trans hle)
            refine wpIn_mono (iha { C with off := o2, rnd := true } w1 (some (w.heap.size + 1)) hC1 hoff1 hY1 (fun h => by cases h) _ E1 _ W _ hS4 (by rw [hset2, hN]) hoka hy) ?_
            rintro e a1 Wa hq
            cases e with
            | normal =>
              obtain ⟨E2, st1, hk, hS5, hN1⟩ := hq
              obtain ⟨hrd2, hk⟩ := hk
              obtain ⟨j2, hj3, hj4⟩ := hS5.dfr.jp s0 _ _ hrc
              rw [hj3] at hrd2
              have hj5 : j2 = .ready := by
                cases j2 with
                | ready => rfl
                | busy => exact hrd2.elim
                | done _ => exact hrd2.elim
              subst hj5
              refine ⟨_, run_beginRound hj4 (by simp [JS.loopOf]), ?_⟩
              have hS6 := hS5.turn hrc (by omega) .busy
              refine wpIn_mono (ihb { C with off := o2, rnd := true } w1 (some (w.heap.size + 1)) hC1 hoff1 hY1 (fun h => by cases h) _ E2 _ _ _ hS6 hN1 hokb hk) ?_
              have fin : ∀ {E3 st2 a3 W3} (j : JS), SR E3 base w1 st2 a3 W3 → ∃ E4, SR E4 base w1 ⟨fun _ => .junk, cutB o2 (upd st2.blocks s0 (.jmp j))⟩ noAct (W3.putObj (w.heap.size + 1) (.loop (j.loopOf rec))) := fun j hS7 => (hS7.turn hrc (by omega) j).cut hoff1
              have fin2 : ∀ {E3 st2 a3 W3} (jump : Option Code), SR E3 base w1 st2 a3 W3 → (Instr.endRound (w.heap.size + 1) jump).run P W3 = .ok (.bool jump.isNone) (W3.putObj (w.heap.size + 1) (.loop { rec with state := if jump.isNone then .ready else .done, pending := jump })) := by
                intro E3 st2 a3 W3 jump hS7
                obtain ⟨j3, g1, g2⟩ := hS7.dfr.jp s0 _ _ hrc
                have := run_endRound (P := P) jump g2
                have e : { j3.loopOf rec with state := if jump.isNone then .ready else .done, pending := jump } = { rec with state := if jump.isNone then .ready else .done, pending := jump } := by
                  cases j3 with
                  | done e => cases e <;> rfl
                  | _ => rfl
                rw [e] at this
                exact this
              rintro e a3 W3 hq
              cases e with
              | normal =>
                obtain ⟨E3, st2, hk, hS7, _⟩ := hq
                obtain ⟨E4, hS8⟩ := fin .ready hS7
                exact ⟨_, _, fin2 none hS7, _, _, _, E4, rfl, hk, hS8, .pure .tt⟩
              | ret =>
                obtain ⟨E3, st2, hk, hS7, _⟩ := hq
                obtain ⟨E4, hS8⟩ := fin (.done none) hS7
                exact ⟨_, _, fin2 (some .ret) hS7, _, _, _, E4, rfl, hk, hS8, .pure .ff⟩
              | exit n =>
                obtain ⟨E3, st2, hk, hS7, _⟩ := hq
                obtain ⟨E4, hS8⟩ := fin (.done (some n)) hS7
                exact ⟨_, _, fin2 (some (.exit n)) hS7, _, _, _, E4, rfl, hk, hS8, .pure .ff⟩
              | _ => exact hq.elim
            | exit n => obtain ⟨_, _, hk, _⟩ := hq; exact hk.elim
            | ret => obtain ⟨_, _, hk, _⟩ := hq; exact hk.elim
            | _ => exact hq.elim
        · exact h.elim
      · exact h.elim
    · exact h.elim
  | _ => intro C w0 r _ _ _ _ st E a w K _ _ hok _; simp [okCode] at hok


theorem resOf_sound (hC : CtxOk P C) (hS : SR E base w0 st a w) (r : ResultVar) (hne : resOf C st r ≠ .junk) : ∃ v, (match r with | .tmp t => (Pure.pure (a.tmps.getD t undef) : Sem Value) | .cell x t => (do loadVar t (← asAddr (a.tmps.getD x undef)))).run P w = .ok v w ∧ Rel E w (resOf C st r) v := by
  cases r with
  | tmp t => exact ⟨_, rfl, hS.slots t⟩
  | cell x t =>
    simp only [resOf] at hne ⊢
    have hx := hS.slots x
    cases hv : st.slots x with
    | ptr s off =>
      rw [hv] at hx
      simp only [hv] at hne ⊢
      obtain ⟨b, sz, hρ, e⟩ := hx.ptr_inv
      cases hl : look C.types t with
      | none => simp only [hl] at hne; exact (hne rfl).elim
      | some ti =>
        have ht := hC.types _ _ hl
        simp only [hl] at hne ⊢
        have hb := hS.blk s
        cases hB : st.blocks s with
        | cells l =>
          rw [hB] at hb
          simp only [hB] at hne ⊢
          obtain ⟨_, b', arr, el, hρ', _, hh, hsz, hr⟩ := hb
          rw [hρ] at hρ'
          simp only [Option.some.injEq, Prod.mk.injEq] at hρ'
          obtain ⟨rfl, _⟩ := hρ'
          cases hle : Nat.ble (off + ti.size) l.length with
          | false => rw [hle] at hne; exact (hne rfl).elim
          | true =>
            simp only [cond_true]
            have hle' := Nat.le_of_ble_eq_true hle
            obtain ⟨v, h1, h2⟩ := load_sound (E := E) (w := w) ht (b := b) (o := off) (cs := (l.drop off).take ti.size) (c := fun j => arr.getD (off + j) undef) (by simp; omega)
              (fun j hj => by simp [World.cell?, hh, show off + j < arr.size by omega]) (fun j hj => by rw [getD_take_drop hj]; exact hr _ (by omega))
            refine ⟨v, ?_, h2⟩
            simp only [Instr.loadAt, Instr.sureAddr, pure_bind] at h1
            simp [e, asAddr, h1]
        | _ => simp only [hB] at hne; exact (hne rfl).elim
    | _ => simp only [hv] at hne; exact (hne rfl).elim


def resSem (a : Act) (r : ResultVar) : Sem Value :=
  match r with
  | .tmp t => Pure.pure (a.tmps.getD t undef)
  | .cell x t => do loadVar t (← asAddr (a.tmps.getD x undef))

/-- The cells of arrays and variables that are not written any more. -/
def Frozen (E : Env) (st : St) (q : Nat → Bool) (b o : Nat) : Prop := E.σ b o ∨ ∃ s, q s = false ∧ ((∃ len sz get, st.blocks s = .arr len sz get ∧ E.ρ s = some (b, sz) ∧ o < len * sz) ∨ ∃ l sz, st.blocks s = .cells l ∧ E.ρ s = some (b, sz) ∧ o < l.length)

theorem own_frozen (hS : SR E base w0 st a w) {s len : Nat} {v : Value} (h : Rel E w (.own s len) v) {len' sz : Nat} {get : Nat → List PV} (hB : st.blocks s = .arr len' sz get) (hl : len ≤ len') {q : Nat → Bool} (hq : q s = false) :
    RelP (Frozen E st q) w (.slice none len get) v := by
  obtain ⟨b, sz', cap, hρ, hc, rfl⟩ := h.own_inv
  have hb := hS.blk s
  rw [hB] at hb
  obtain ⟨_, b', arr, e, hρ', hbase, hh, hsz, hr⟩ := hb
  rw [hρ] at hρ'
  simp only [Option.some.injEq, Prod.mk.injEq] at hρ'
  obtain ⟨rfl, rfl⟩ := hρ'
  have hlt : ∀ i, i < len → ∀ j, j < sz' → i * sz' + j < len' * sz' := by
    intro i hi j hj
    have : (i + 1) * sz' ≤ len' * sz' := Nat.mul_le_mul_right _ (by omega)
    rw [Nat.succ_mul] at this
    omega
  refine .slice len get (some ⟨b, 0, none⟩) cap b 0 sz' (fun i j => arr.getD (i * sz' + j) undef) hc (fun _ => rfl) (fun h => by cases h) (fun i hi => (hr i (by omega)).1) (fun i hi j hj => ?_) (fun i hi j hj => ((hr i (by omega)).2 j hj).mono (fun _ _ h => .inl h) fun _ _ _ => rfl)
  have hlt := hlt i hi j hj
  refine ⟨.inr ⟨s, hq, .inl ⟨len', sz', get, hB, hρ, by omega⟩⟩, ?_⟩
  simp [World.cell?, hh, show i * sz' + j < arr.size by omega]

theorem ptr_frozen (hS : SR E base w0 st a w) {s off : Nat} {v : Value} (h : Rel E w (.ptr s off) v) {l : List PV} (hB : st.blocks s = .cells l) (hp : (l.map toView).all plain1 = true) {q : Nat → Bool} (hq : q s = false) :
    RelP (Frozen E st q) w (.cptr ((l.map toView).drop off)) v := by
  obtain ⟨b, sz', hρ, rfl⟩ := h.ptr_inv
  have hb := hS.blk s
  rw [hB] at hb
  obtain ⟨_, b', arr, e, hρ', hbase, hh, hsz, hr⟩ := hb
  rw [hρ] at hρ'
  simp only [Option.some.injEq, Prod.mk.injEq] at hρ'
  obtain ⟨rfl, _⟩ := hρ'
  have hgd : ∀ j, ((l.map toView).drop off).getD j .junk = (l.map toView).getD (off + j) .junk := fun j => by simp [List.getD, List.getElem?_drop]
  refine .cptr _ b off (fun j => arr.getD (off + j) undef) (fun j hj => ?_) fun j hj => ?_
  · simp at hj
    refine ⟨.inr ⟨s, hq, .inr ⟨l, sz', hB, hρ, by omega⟩⟩, ?_⟩
    simp [World.cell?, hh, show off + j < arr.size by omega]
  · simp at hj
    have hlt : off + j < l.length := by omega
    have h1 := hr (off + j) hlt
    have e1 : (l.map toView).getD (off + j) .junk = toView (l.getD (off + j) .junk) := by simp [List.getD, hlt]
    rw [hgd, e1]
    have h2 := all_getD hp (off + j) (by simpa using hlt)
    rw [e1] at h2
    exact (plain1_relP h2 (toView_rel h1)).mono (fun _ _ h => .inl h) fun _ _ _ => rfl

theorem frz1_rel (hS : SR E base w0 st a w) {p : PV} {v : Value} (h : Rel E w p v) (hp : plain1a (frz1 st.blocks p) = true) : RelP (Frozen E st fun _ => false) w (frz1 st.blocks p) v := by
  have plain : frz1 st.blocks p = toView p → RelP (Frozen E st fun _ => false) w (frz1 st.blocks p) v := fun e => by
    rw [e] at hp ⊢
    exact (plain1a_relP hp (toView_rel h)).mono (fun _ _ h => .inl h) fun _ _ _ => rfl
  cases p with
  | own s len =>
    simp only [frz1] at hp ⊢
    cases hB : st.blocks s with
    | arr len' sz get =>
      simp only [hB] at hp ⊢
      cases hle : Nat.ble len len' with
      | true => exact own_frozen hS h hB (Nat.le_of_ble_eq_true hle) rfl
      | false => rw [hle] at hp; cases hp
    | _ => simp only [hB] at hp; cases hp
  | ptr s off =>
    simp only [frz1] at hp ⊢
    cases hB : st.blocks s with
    | cells l =>
      simp only [hB] at hp ⊢
      cases hle : (l.map toView).all plain1 with
      | true => exact ptr_frozen hS h hB hle rfl
      | false => rw [hle] at hp; cases hp
    | _ => simp only [hB] at hp; cases hp
  | _ => exact plain rfl

theorem frz_rel (hS : SR E base w0 st a w) {p : PV} {v : Value} (h : Rel E w p v) (hp : plain2 (frz st.blocks p) = true) : RelP (Frozen E st fun _ => false) w (frz st.blocks p) v := by
  have plain : frz st.blocks p = toView p → RelP (Frozen E st fun _ => false) w (frz st.blocks p) v := fun e => by
    rw [e] at hp ⊢
    exact (plain2_relP hp (toView_rel h)).mono (fun _ _ h => .inl h) fun _ _ _ => rfl
  cases p with
  | own s len =>
    simp only [frz] at hp ⊢
    cases hB : st.blocks s with
    | arr len' sz get =>
      simp only [hB] at hp ⊢
      cases hle : Nat.ble len len' with
      | true => exact own_frozen hS h hB (Nat.le_of_ble_eq_true hle) rfl
      | false => rw [hle] at hp; cases hp
    | _ => simp only [hB] at hp; cases hp
  | fn f xs ys =>
    obtain ⟨va, vb, rfl, ha, hb, h1, h2⟩ := h.fn_inv
    simp only [frz, plain2, Bool.and_eq_true] at hp ⊢
    have hl : ∀ (l : List PV) i, i < l.length → (l.map (frz1 st.blocks)).getD i .junk = frz1 st.blocks (l.getD i .junk) := fun l i hi => by simp [List.getD, hi]
    refine .fn f _ _ va vb (by simp [ha]) (by simp [hb]) (fun i hi => ?_) fun i hi => ?_
    · have hi' : i < xs.length := by simpa using hi
      rw [hl xs i hi']
      exact frz1_rel hS (h1 i hi') (by rw [← hl xs i hi']; exact all_getD hp.1 i hi)
    · have hi' : i < ys.length := by simpa using hi
      rw [hl ys i hi']
      exact frz1_rel hS (h2 i hi') (by rw [← hl ys i hi']; exact all_getD hp.2 i hi)
  | _ => exact plain rfl

theorem Frozen.where' (hS : SR E base w0 st a w) {q : Nat → Bool} {b o : Nat} (h : Frozen E st q b o) : E.σ b o ∨ (base ≤ b ∧ b < w.heap.size ∧ (∀ s sz, E.ρ s = some (b, sz) → q s = false) ∧ ∀ s g, E.hd s = some g → g.bo = some b → False) := by
  rcases h with h | ⟨s, hq, h⟩
  · exact .inl h
  · refine .inr ?_
    obtain ⟨sz, hρ⟩ : ∃ sz, E.ρ s = some (b, sz) := by
      rcases h with ⟨_, sz, _, _, hρ, _⟩ | ⟨_, sz, _, hρ, _⟩
      · exact ⟨sz, hρ⟩
      · exact ⟨sz, hρ⟩
    have hat : E.at s = some b := by simp [Env.at, hρ]
    obtain ⟨hlt, hbase⟩ := hS.at_lt hat
    refine ⟨hbase, hlt, fun s' sz' h' => ?_, fun s' g h' hg => ?_⟩
    · have : s' = s := hS.inj s' s b (by simp [Env.at, h']) hat
      rw [this]; exact hq
    · have hb' := hS.blk s'
      have h1 : E.ρ s' = none := by
        cases hB' : st.blocks s' with
        | none => rw [hB'] at hb'; exact hb'.1
        | jmp j => rw [hB'] at hb'; exact hb'.1
        | cells l => rw [hB'] at hb'; have := hb'.1; rw [h'] at this; cases this
        | arr _ _ _ => rw [hB'] at hb'; have := hb'.1; rw [h'] at this; cases this
        | grow _ _ _ => rw [hB'] at hb'; exact hb'.1
      have : s' = s := hS.inj s' s b (by simp [Env.at, h1, h', hg]) hat
      subst this
      rw [h1] at hρ
      cases hρ

theorem results_list (hC : CtxOk P C) (hS : SR E base w0 st a w) : ∀ (rs : List ResultVar), (∀ r ∈ rs, plain2 (frz st.blocks (resOf C st r)) = true) →
    ∃ vs : List Value, (rs.mapM (resSem a)).run P w = .ok vs w ∧ vs.length = rs.length ∧ ∀ i, i < rs.length → RelP (Frozen E st fun _ => false) w ((rs.map fun r => frz st.blocks (resOf C st r)).getD i .junk) (vs.getD i undef)
  | [], _ => ⟨[], by simp, rfl, fun i hi => by simp at hi⟩
  | r :: rs, h => by
    obtain ⟨vs, h1, h2, h3⟩ := results_list hC hS rs fun r hr => h r (List.mem_cons_of_mem _ hr)
    have hr := h r (List.mem_cons_self ..)
    obtain ⟨v, g1, g2⟩ := resOf_sound hC hS r (by intro e; rw [e] at hr; cases hr)
    have g1' : (resSem a r).run P w = .ok v w := by cases r <;> exact g1
    refine ⟨v :: vs, ?_, by simp [h2], fun i hi => ?_⟩
    · simp only [List.mapM_cons, Sem.run_bind, g1', Result.andThen_ok, h1, Sem.run_pure]
    · cases i with
      | zero => exact frz_rel hS g2 hr
      | succ i => exact h3 i (by simpa using hi)

theorem results_sound (hC : CtxOk P C) (hS : SR E base w0 st a w) (fn : Func) (hp : fn.results.toList.all (fun r => plain2 (frz st.blocks (resOf C st r))) = true) : ∃ v, (results fn a.tmps).run P w = .ok v w ∧ RelP (Frozen E st fun _ => false) w (results1 C fn.results.toList st) v := by
  have hall : ∀ r ∈ fn.results.toList, plain2 (frz st.blocks (resOf C st r)) = true := List.all_eq_true.1 hp
  obtain ⟨vs, h1, h2, h3⟩ := results_list hC hS fn.results.toList hall
  have hm : (fn.results.mapM (resSem a)).run P w = .ok vs.toArray w := by
    simp [Array.mapM_eq_mapM_toList, h1]
  have hres : (results fn a.tmps).run P w = .ok (if h : vs.toArray.size = 1 then vs.toArray[0] else .tuple vs.toArray) w := by
    have : results fn a.tmps = (do let vs ← fn.results.mapM (resSem a); Pure.pure (if h : vs.size = 1 then vs[0] else .tuple vs) : Sem Value) := by
      unfold results
      congr 1
    rw [this]
    simp only [Sem.run_bind, hm, Result.andThen_ok, Sem.run_pure]
  refine ⟨_, hres, ?_⟩
  match hl : fn.results.toList, vs, h2, h3 with
  | [r], [v], _, h3 => simpa [results1] using h3 0 (by simp)
  | [], [], _, h3 => exact .tup _ _ (by simp) fun i hi => by simp at hi
  | r1 :: r2 :: rs, v1 :: v2 :: vs, h2, h3 =>
    have e1 : results1 C (r1 :: r2 :: rs) st = .tup ((r1 :: r2 :: rs).map fun r => frz st.blocks (resOf C st r)) := rfl
    rw [e1]
    have e2 : (if h : (v1 :: v2 :: vs).toArray.size = 1 then (v1 :: v2 :: vs).toArray[0] else Value.tuple (v1 :: v2 :: vs).toArray) = .tuple (v1 :: v2 :: vs).toArray := by simp
    rw [e2]
    refine .tup _ _ (by simpa using h2) fun i hi => ?_
    rw [toArray_getD]
    exact h3 i (by simpa using hi)

/-- More cells that do not change any more. -/
theorem SR.moreσ (hS : SR E base w0 st a w) (σ' : Nat → Nat → Prop) (h1 : ∀ b o, E.σ b o → σ' b o) (h2 : ∀ b o, σ' b o → E.σ b o ∨ (base ≤ b ∧ b < w.heap.size ∧ (∀ s sz, E.ρ s ≠ some (b, sz)) ∧ ∀ s g, E.hd s = some g → g.bo ≠ some b)) : SR ⟨E.ρ, E.hd, σ'⟩ base w0 st a w := by
  have hle : E.le ⟨E.ρ, E.hd, σ'⟩ := ⟨fun _ _ h => h, h1, fun _ g h => ⟨g, h, Nat.le_refl _, fun _ => ⟨rfl, rfl⟩⟩⟩
  have hc : ∀ b o, E.σ b o → w.cell? ⟨b, o, none⟩ = w.cell? ⟨b, o, none⟩ := fun _ _ _ => rfl
  refine ⟨hS.dfr, fun n => (hS.slots n).mono hle hc, fun s => (hS.blk s).keep hle hc rfl rfl fun _ _ => rfl, hS.inj, fun b o h => ?_, hS.bel, hS.bas, fun b o h => h1 _ _ (hS.σin b o h), fun b o h => ?_, fun q p v h => (hS.fr q p v h).mono (Env.only_le hle q) hc⟩
  · rcases h2 b o h with h | ⟨g1, g2, g3, g4⟩
    · exact hS.σok b o h
    · exact ⟨g2, g3, fun s g h h' => (g4 s g h h').elim⟩
  · rcases h2 b o h with h | ⟨g1, _⟩
    · exact hS.σout b o h
    · exact .inr g1

/-- The blocks for deferred calls, shut. -/
def shut : List Nat → World → World
  | [], w => w
  | D :: Ds, w => shut Ds (w.putObj D (.deferred none))
theorem leaves_marks {fn : Func} {tmps : Array Value} {R : Ending → World → Prop} : ∀ (Ds : List Nat) (w : World), Ds.Nodup → (∀ D ∈ Ds, w.heap[D]? = some (.deferred (some []))) →
    (∃ v, (results fn tmps).run P (shut Ds w) = .ok v (shut Ds w) ∧ R (.returned v) (shut Ds w)) → LeavesInM (Fc none) 0 P fn tmps R (Ds.map markOf) .returning w
  | [], w, _, _, h => h
  | D :: Ds, w, hn, hd, h => by
    have hD := List.nodup_cons.1 hn
    refine ⟨(fun h => by cases h), .inl ⟨D, _, rfl, run_takeDeferred (hd D (List.mem_cons_self ..)), leaves_marks Ds _ hD.2 (fun D' h' => ?_) h⟩⟩
    exact (World.putObj_heap_other (by rintro rfl; exact hD.1 h')).trans (hd D' (List.mem_cons_of_mem _ h'))
theorem SR.shut : ∀ (Ds : List Nat) {a : Act} {w : World}, SR E base w0 st a w → a.defers = Ds.map markOf → Ds.Nodup → SR E base w0 st { a with defers := [] } (V.shut Ds w)
  | [], a, w, hS, hd, _ => ⟨hS.dfr.bare, hS.slots, hS.blk, hS.inj, hS.σok, hS.bel, hS.bas, hS.σin, hS.σout, hS.fr⟩
  | D :: Ds, a, w, hS, hd, hn => by
    have hD := List.nodup_cons.1 hn
    obtain ⟨Ds0, g1, g2, g3⟩ := hS.dfr.dfr
    have g4 : ∀ D' ∈ D :: Ds, base ≤ D' ∧ w.heap[D']? = some (.deferred (some [])) ∧ ∀ o, ¬ w0.κ D' o := by
      intro D' h'
      have : markOf D' ∈ Ds0.map markOf := by rw [← g1, hd]; exact List.mem_map_of_mem h'
      obtain ⟨D2, h2, e⟩ := List.mem_map.1 this
      obtain rfl := markOf_inj e
      exact g3 _ h2
    obtain ⟨k1, k2, k3⟩ := g4 D (List.mem_cons_self ..)
    have hoth : ∀ (b : Nat), b ≠ D → (w.putObj D (.deferred none)).heap[b]? = w.heap[b]? := fun b hb => World.putObj_heap_other hb
    have hS2 : SR E base w0 ⟨st.slots, st.blocks⟩ { a with defers := Ds.map markOf } (w.putObj D (.deferred none)) := by
      refine hS.books rfl rfl rfl (fun _ _ _ h => h) (cells_putObj k2 (.deferred _)) (fun b o _ => cell_putObj k2 (.deferred _) (.deferred _) b o) (below_putObj k1) (fun _ => .inl rfl) ⟨⟨Ds, rfl, hD.2, fun D' h' => ?_⟩, fun b o hk => ?_, fun s l r hr => ?_⟩
      · have := g4 D' (List.mem_cons_of_mem _ h')
        exact ⟨this.1, (hoth D' (by rintro rfl; exact hD.1 h')).trans this.2.1, this.2.2⟩
      · exact (hoth b (by rintro rfl; exact k3 o hk)).trans (hS.dfr.kp b o hk)
      · obtain ⟨j, h1, h2⟩ := hS.dfr.jp s l r hr
        exact ⟨j, h1, (hoth l (by rintro rfl; rw [k2] at h2; cases h2)).trans h2⟩
    exact SR.shut Ds (a := { a with defers := Ds.map markOf }) hS2 rfl hD.2

/-- What meets what is said of it in plain values, does so in the machine. -/
theorem sound_of_meets (hC : CtxOk P C) (hm : P.follows .mixedOrders = true) {f : Nat} {fn : Func} {c : Code} {s : Spec} {n : Nat} (hf : P.funcs[f]? = some fn) (hb : fn.body = some c) (hok : okCode (okOper fn.ntmps) c = true) (hn : n ≤ fn.ntmps)
    (hoff : C.off = 0) (hyld : C.yld = none) (h : Meets C c fn.results.toList n s) : Sound P f s := by
  intro args σ w vals hsz hrel hσ hpre
  obtain ⟨hlen, hev⟩ := h args hpre
  have hS : SR ⟨fun _ => none, fun _ => none, σ⟩ w.heap.size { w := w, σ := σ } (start args) { tmps := vals ++ Array.replicate (fn.ntmps - vals.size) undef, defers := [] } w := by
    refine ⟨⟨⟨[], rfl, .nil, fun _ h => nomatch h⟩, fun _ _ h => h.elim, fun _ _ _ h => nomatch h⟩, fun k => ?_, fun s => ⟨rfl, rfl⟩, ?_, ?_, Below.refl _ _, Nat.le_refl _, fun _ _ h => h, fun _ _ h => .inl h, fun _ _ _ h => h.elim⟩
    · show Rel _ w (args.getD k .junk) _
      by_cases hk : k < args.length
      · have := hrel k hk
        have hk' : k < vals.size := by omega
        have e : (vals ++ Array.replicate (fn.ntmps - vals.size) undef).getD k undef = vals.getD k undef := by
          have hk2 : k < (vals ++ Array.replicate (fn.ntmps - vals.size) undef).size := by simp; omega
          simp only [Array.getD, hk2, hk', dif_pos]
          exact Array.getElem_append_left hk'
        rw [e]
        exact .pure this
      · have : args.getD k .junk = .junk := by simp [List.getD, List.getElem?_eq_none (Nat.le_of_not_lt hk)]
        rw [this]
        exact .pure (.junk _)
    · intro s s' b h; simp [Env.at] at h
    · intro b o h
      exact ⟨hσ b o h, (fun s sz hx => nomatch hx), (fun s g hg _ => nomatch hg)⟩
  have hN : (vals ++ Array.replicate (fn.ntmps - vals.size) undef).size = fn.ntmps := by simp; omega
  refine (callsIn_wide (n := 0)).1 (callsIn_of_wp_marks (F := Fc none) hf hb trivial (wpIn_mono (evalCode_sound hm c C _ none hC hoff.symm (fun y hy => by rw [hyld] at hy; cases hy) (fun _ => rfl) _ _ _ w _ hS hN hok hev) fun e a' w' hq => ?_))
  have fin : ∀ {E' st'}, (fn.results.toList.all (fun r => plain2 (frz st'.blocks (resOf C st' r))) = true ∧ PLe (results1 C fn.results.toList st') (s args).2) → SR E' w.heap.size { w := w, σ := σ } st' a' w' →
      LeavesInM (Fc none) 0 P fn a'.tmps (fun e w' => ∃ v σ', e = Ending.returned v ∧ Below w.heap.size w w' ∧ (∀ b o, σ b o → σ' b o) ∧ (∀ b o, σ' b o → b < w'.heap.size ∧ (¬ σ b o → w.heap.size ≤ b)) ∧ RelP σ' w' (s args).2 v) a'.defers .returning w' := by
    rintro E' st' ⟨h1, h2⟩ hS'
    obtain ⟨Ds, g1, g2, g3⟩ := hS'.dfr.dfr
    rw [g1]
    have hS' := hS'.shut Ds g1 g2
    refine leaves_marks Ds w' g2 (fun D hD => (g3 D hD).2.1) ?_
    obtain ⟨v, h3, h4⟩ := results_sound hC hS' fn h1
    refine ⟨v, h3, v, Frozen E' st' fun _ => false, rfl, hS'.bel, fun b o h => .inl (hS'.σin b o h), fun b o h => ?_, h4.le h2⟩
    rcases h.where' hS' with h | ⟨g1, g2, _⟩
    · exact ⟨(hS'.σok b o h).1, fun hn => (hS'.σout b o h).resolve_left hn⟩
    · exact ⟨g2, fun _ => g1⟩
  cases e with
  | normal => obtain ⟨E', st', hk, hS', _⟩ := hq; exact fin hk hS'
  | ret => obtain ⟨E', st', hk, hS', _⟩ := hq; exact fin hk hS'
  | exit k => obtain ⟨E', st', hk, _⟩ := hq; exact hk.elim
  | _ => exact hq.elim


/-- A function that works on its caller's blocks, by its text. -/
theorem eff_run (hC : CtxOk P C) (hm : P.follows .mixedOrders = true) {f : Nat} {fn : Func} {c : Code} (hf : P.funcs[f]? = some fn) (hb : fn.body = some c) (hok : okCode (okOper fn.ntmps) c = true) (hres : fn.results.toList.length ≤ 1)
    {n : Nat} (hn : n ≤ fn.ntmps) {args : List PV} {bl : Nat → Blk} {K : PV → (Nat → Blk) → Prop} (hlen0 : args.length = n) (he : effBody C c fn.results.toList args bl K) (hoff : w0.off = C.off) (hY : ∀ y, C.yld = some y → SoundY P base w0 y)
    (hS : SR E base w0 ⟨fun _ => .junk, bl⟩ noAct w) {vals : Array Value} (hsz : vals.size = args.length) (hrel : ∀ i, i < args.length → Rel E w (args.getD i .junk) (vals.getD i undef)) :
    Calls P f vals w fun e' w' => ∃ v p bl' E', e' = .returned v ∧ K p bl' ∧ SR E' base w0 ⟨fun _ => .junk, bl'⟩ noAct w' ∧ Rel E' w' p v := by
  have hlen : args.length ≤ fn.ntmps := by omega
  have hS1 : SR E base w0 ⟨(start args).slots, bl⟩ { tmps := vals ++ Array.replicate (fn.ntmps - vals.size) undef, defers := [] } w := by
    refine ⟨hS.dfr, fun k => ?_, hS.blk, hS.inj, hS.σok, hS.bel, hS.bas, hS.σin, hS.σout, hS.fr⟩
    show Rel _ w (args.getD k .junk) _
    by_cases hk : k < args.length
    · have := hrel k hk
      have hk' : k < vals.size := by omega
      have e : (vals ++ Array.replicate (fn.ntmps - vals.size) undef).getD k undef = vals.getD k undef := by
        have hk2 : k < (vals ++ Array.replicate (fn.ntmps - vals.size) undef).size := by simp; omega
        simp only [Array.getD, hk2, hk', dif_pos]
        exact Array.getElem_append_left hk'
      rw [e]
      exact this
    · have : args.getD k .junk = .junk := by simp [List.getD, List.getElem?_eq_none (Nat.le_of_not_lt hk)]
      rw [this]
      exact .pure (.junk _)
  have hN : (vals ++ Array.replicate (fn.ntmps - vals.size) undef).size = fn.ntmps := by simp; omega
  refine (callsIn_wide (n := 0)).1 (callsIn_of_wp_marks (F := Fc none) hf hb trivial (wpIn_mono (evalCode_sound hm c C _ none hC hoff hY (fun _ => rfl) _ _ _ w _ hS1 hN hok he) fun e a' w' hq => ?_))
  have fin : ∀ {E' st'}, (fn.results.toList.all (fun r => nj (resOf C st' r)) = true ∧ K (prune (fun s => Nat.blt s C.off) (match fn.results.toList with | [] => .tup [] | [r] => frzE C.off st'.blocks (resOf C st' r) | _ => .junk)) (fun s => bif Nat.blt s C.off then pruneB (fun s => Nat.blt s C.off) (st'.blocks s) else .none)) → SR E' base w0 st' a' w' →
      LeavesInM (Fc none) 0 P fn a'.tmps (fun e w' => ∃ v' p bl' E', e = Ending.returned v' ∧ K p bl' ∧ SR E' base w0 ⟨fun _ => .junk, bl'⟩ noAct w' ∧ Rel E' w' p v') a'.defers .returning w' := by
    rintro E' st' ⟨hnj, hk⟩ hS'
    obtain ⟨Ds, q1, q2, q3⟩ := hS'.dfr.dfr
    rw [q1]
    have hS' := hS'.shut Ds q1 q2
    refine leaves_marks Ds w' q2 (fun D hD => (q3 D hD).2.1) ?_
    generalize V.shut Ds w' = w' at hS'
    have hS2 := hS'.clean' [] []
    have hq : keepQ w0.off [] = fun s => Nat.blt s C.off := by funext s; simp [keepQ, has, hoff]
    have hbl : clean w0.off [] [] st' = ⟨fun _ => .junk, fun s => bif Nat.blt s C.off then pruneB (fun s => Nat.blt s C.off) (st'.blocks s) else .none⟩ := by
      unfold clean
      rw [hq, hoff]
      rfl
    rw [hbl, hq] at hS2
    generalize hqd : (fun s => Nat.blt s C.off) = q at *
    have hS3 : SR (E'.only q) base w0 ⟨fun _ => .junk, fun s => bif q s then pruneB q (st'.blocks s) else .none⟩ noAct w' :=
      ⟨by subst hqd; exact hS2.dfr.bare, fun _ => .pure (.junk _), by subst hqd; exact hS2.blk, hS2.inj, hS2.σok, hS2.bel, hS2.bas, hS2.σin, hS2.σout, hS2.fr⟩
    have hS4 := hS3.moreσ (Frozen E' st' q) (fun b o h => .inl h) fun b o h => by
      rcases h.where' hS' with h | ⟨g1, g2, g3, g4⟩
      · exact .inl h
      · refine .inr ⟨g1, g2, fun s sz hx => ?_, fun s g hg hb => ?_⟩
        · simp only [Env.only] at hx
          split at hx
          · rename_i hqs; rw [g3 s sz hx] at hqs; cases hqs
          · cases hx
        · simp only [Env.only] at hg
          split at hg
          · exact g4 s g hg hb
          · cases hg
    have hle : (E'.only q).le ⟨(E'.only q).ρ, (E'.only q).hd, Frozen E' st' q⟩ := ⟨fun _ _ h => h, fun _ _ h => .inl h, fun _ g h => ⟨g, h, Nat.le_refl _, fun _ => ⟨rfl, rfl⟩⟩⟩
    have hrs : fn.results = fn.results.toList.toArray := by simp
    match hl : fn.results.toList, hres, hnj, hk with
    | [], _, _, hk =>
      rw [hl] at hrs
      subst hqd
      exact ⟨.tuple #[], by simp [results, hrs], _, _, _, _, rfl, hk, hS4, .pure (.tup [] #[] rfl fun i hi => by simp at hi)⟩
    | [r], _, hnj, hk =>
      rw [hl] at hrs
      obtain ⟨v, h1, h2⟩ := resOf_sound hC hS' r (by intro e; simp [e, nj] at hnj)
      have hrun : (results fn a'.tmps).run P w' = .ok v w' := by
        cases r <;> simp [results, hrs] at h1 ⊢ <;> simp [h1]
      have hfin : Rel ⟨(E'.only q).ρ, (E'.only q).hd, Frozen E' st' q⟩ w' (prune q (frzE C.off st'.blocks (resOf C st' r))) v := by
        by_cases ho : ∃ s len len' sz get, resOf C st' r = .own s len ∧ q s = false ∧ st'.blocks s = .arr len' sz get ∧ len ≤ len'
        · obtain ⟨s, len, len', sz, get, e, hqs, hB, hlen⟩ := ho
          rw [e] at h2 ⊢
          have e2 : frzE C.off st'.blocks (.own s len) = .slice none len get := by
            simp only [frzE, hB]
            have : Nat.blt s C.off = false := by rw [← hqs, ← hqd]
            rw [this, Nat.ble_eq_true_of_le hlen]
            rfl
          rw [e2]
          exact .pure (own_frozen hS' h2 hB hlen hqs)
        · have hor : frzE C.off st'.blocks (resOf C st' r) = resOf C st' r ∨ frzE C.off st'.blocks (resOf C st' r) = .junk := by
            cases hr : resOf C st' r with
            | own s len =>
              simp only [frzE]
              cases hqs : Nat.blt s C.off with
              | true => exact .inl rfl
              | false =>
                simp only [cond_false]
                cases hB : st'.blocks s with
                | arr len' sz get =>
                  cases hle : Nat.ble len len' with
                  | true => exact (ho ⟨s, len, len', sz, get, hr, by rw [← hqd]; exact hqs, hB, Nat.le_of_ble_eq_true hle⟩).elim
                  | false => exact .inr (by simp only [hle, cond_false])
                | _ => exact .inr rfl
            | _ => exact .inl rfl
          rcases hor with e | e
          · rw [e]; exact h2.prune.mono hle fun _ _ _ => rfl
          · rw [e]; exact .pure (.junk _)
      subst hqd
      exact ⟨v, hrun, _, _, _, _, rfl, hk, hS4, hfin⟩
  cases e with
  | normal => obtain ⟨E', st', hk, hS', _⟩ := hq; exact fin hk hS'
  | ret => obtain ⟨E', st', hk, hS', _⟩ := hq; exact fin hk hS'
  | exit k => obtain ⟨E', st', hk, _⟩ := hq; exact hk.elim
  | _ => exact hq.elim

/-- A function that works on its caller's blocks, by its text. -/
theorem soundE_of_body (hC : CtxOk P C) (hm : P.follows .mixedOrders = true) (hyld : C.yld = none) {f : Nat} {fn : Func} {c : Code} (hf : P.funcs[f]? = some fn) (hb : fn.body = some c) (hok : okCode (okOper fn.ntmps) c = true) (hres : fn.results.toList.length ≤ 1)
    {n : Nat} (hn : n ≤ fn.ntmps) : SoundE P f C.off (fun args bl k => args.length = n ∧ effBody C c fn.results.toList args bl k) :=
  fun _ _ _ ⟨hlen, he⟩ _ _ _ _ _ hoff hS hsz hrel => eff_run hC hm hf hb hok hres hn hlen he hoff (fun y hy => by rw [hyld] at hy; cases hy) hS hsz hrel
/-- A function that is ranged over, by its text. -/
theorem soundI_of_body (hC : CtxOk P C) (hm : P.follows .mixedOrders = true) {f : Nat} {fn : Func} {c : Code} (hf : P.funcs[f]? = some fn) (hb : fn.body = some c) (hok : okCode (okOper fn.ntmps) c = true) (hres : fn.results.toList.length ≤ 1)
    {n s0 o2 : Nat} (hn : n ≤ fn.ntmps) : SoundI P f s0 C.off o2 (iterBody C c fn.results.toList n) :=
  fun _ _ y _ _ _ ⟨hlen, he⟩ _ _ _ _ _ hoff hS hY hsz hrel => eff_run (C := { C with yld := some y }) ⟨hC.effs, hC.types, hC.iters, hC.specs⟩ hm hf hb hok hres hn hlen he hoff (fun y' hy => by cases hy; exact hY) hS hsz hrel

end
end Go.V
