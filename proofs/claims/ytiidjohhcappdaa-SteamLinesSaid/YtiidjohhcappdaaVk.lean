/- Part 8: code, and functions. -/
import Derived.Test.YtiidjohhcappdaaVr2
namespace Go.V
open Go.RowKit (Below)

theorem has_iff {l : List Nat} {n : Nat} : has l n = true ↔ n ∈ l := by
  simp only [has, List.any_eq_true]
  constructor
  · rintro ⟨m, hm, h⟩
    rw [Nat.eq_of_beq_eq_true h]; exact hm
  · intro h
    exact ⟨n, h, by simp⟩
theorem look_map {α : Type} (f : Nat → α) : ∀ (l : List Nat) (n : Nat), look (l.map fun n => (n, f n)) n = if has l n then some (f n) else none
  | [], n => rfl
  | m :: l, n => by
    simp only [List.map_cons, look]
    cases h : Nat.beq m n with
    | true =>
      obtain rfl := Nat.eq_of_beq_eq_true h
      simp [has]
    | false =>
      simp only [cond_false, look_map f l n]
      have : Nat.beq n m = false := by
        rw [Bool.eq_false_iff] at h ⊢
        intro e
        exact h (by rw [Nat.eq_of_beq_eq_true e]; simp)
      simp [has, this]

section
variable {P : Program} {C : Ctx} {E : Env} {base : Nat} {w0 : Orig} {w : World} {st : St} {a : Act} {N : Nat}

theorem RelP.le {σ : Nat → Nat → Prop} {p q : PV} (h : PLe p q) : ∀ {v : Value}, RelP σ w p v → RelP σ w q v := by
  induction h with
  | refl p => exact fun h => h
  | junk p => exact fun _ => .junk _
  | slice t len get get' hg =>
    intro v h
    cases h with
    | slice _ _ a cap b o sz c hc ha hn hl h1 h2 => exact .slice len get' a cap b o sz c hc ha hn (fun i hi => by rw [← hg i hi]; exact hl i hi) h1 fun i hi j hj => by rw [← hg i hi]; exact h2 i hi j hj
  | bool b c e => subst e; exact fun h => h
  | tt b e => subst e; intro v h; cases h; exact .bool true
  | ff b e => subst e; intro v h; cases h; exact .bool false
  | int k m n e => subst e; exact fun h => h
  | agg xs ys hl _ ih =>
    intro v h
    cases h with
    | agg _ a hs h => exact .agg ys a (by rw [hs, hl]) fun i hi => ih i (by omega) (h i (by omega))
  | tup xs ys hl _ ih =>
    intro v h
    cases h with
    | tup _ a hs h => exact .tup ys a (by rw [hs, hl]) fun i hi => ih i (by omega) (h i (by omega))

theorem Rel.le {p q : PV} (h : PLe p q) : ∀ {v : Value}, Rel E w p v → Rel E w q v := by
  induction h with
  | refl p => exact fun h => h
  | junk p => exact fun _ => .pure (.junk _)
  | slice t len get get' hg =>
    intro v h
    cases h with
    | pure h => exact .pure (h.le (.slice _ _ _ _ hg))
    | tslice s _ _ a cap h g hh hL hx => exact .tslice s len get' a cap (h.le (.slice none _ _ _ hg)) g hh hL hx
  | bool b c e => subst e; exact fun h => h
  | tt b e => subst e; intro v h; rw [h.tt_inv]; exact .pure (.bool true)
  | ff b e => subst e; intro v h; rw [h.ff_inv]; exact .pure (.bool false)
  | int k m n e => subst e; exact fun h => h
  | agg xs ys hl _ ih =>
    intro v h
    obtain ⟨a, rfl, hs, hh⟩ := h.agg_inv
    exact .agg ys a (by rw [hs, hl]) fun i hi => ih i (by omega) (hh i (by omega))
  | tup xs ys hl _ ih =>
    intro v h
    obtain ⟨a, rfl, hs, hh⟩ := h.tup_inv
    exact .tup ys a (by rw [hs, hl]) fun i hi => ih i (by omega) (hh i (by omega))

theorem BR.le {s : Nat} {B B' : Blk} (h : BLe B B') (hb : BR E w base s B) : BR E w base s B' := by
  cases h with
  | refl => exact hb
  | cells xs ys hl h =>
    obtain ⟨h1, b, arr, e, h2, h3, h4, h5, h6⟩ := hb
    exact ⟨h1, b, arr, e, h2, h3, h4, by rw [h5, hl], fun i hi => (h6 i (by omega)).le (h i (by omega))⟩
  | arr len sz get get' h =>
    obtain ⟨h1, b, arr, e, h2, h3, h4, h5, h6⟩ := hb
    exact ⟨h1, b, arr, e, h2, h3, h4, h5, fun i hi => by rw [← h i hi]; exact h6 i hi⟩

theorem SR.le (hS : SR E base w0 st a w) {st' : St} (h : SLe st st') : SR E base w0 st' a w :=
  ⟨hS.dfr, fun n => (hS.slots n).le (h.1 n), fun s => (hS.blk s).le (h.2 s), hS.inj, hS.σok, hS.bel, hS.bas, hS.σin, hS.σout, hS.fr⟩

theorem SR.clean' (hS : SR E base w0 st a w) (live keep : List Nat) : SR (E.only (keepQ w0.off keep)) base w0 (clean w0.off live keep st) a w := by
  generalize hq : keepQ w0.off keep = q
  have hat : ∀ s b, (E.only q).at s = some b → E.at s = some b ∧ q s = true := by
    intro s b h
    cases hk : q s with
    | true => simpa [Env.at, Env.only, hk] using h
    | false => simp [Env.at, Env.only, hk] at h
  have hbr : ∀ s, q s = true → BR (E.only q) w base s (pruneB q (st.blocks s)) := by
    intro s hk
    have hb := hS.blk s
    have e1 : (E.only q).ρ s = E.ρ s := by simp [Env.only, hk]
    have e2 : (E.only q).hd s = E.hd s := by simp [Env.only, hk]
    cases hB : st.blocks s with
    | none => rw [hB] at hb; exact ⟨e1.trans hb.1, e2.trans hb.2⟩
    | cells l =>
      rw [hB] at hb
      obtain ⟨h1, b, arr, e, h2, h3, h4, h5, h6⟩ := hb
      refine ⟨e2.trans h1, b, arr, e, e1.trans h2, h3, h4, by simp [h5], fun i hi => ?_⟩
      simp at hi
      have : (l.map (prune q)).getD i .junk = prune q (l.getD i .junk) := by simp [List.getD, hi]
      rw [this]
      exact (h6 i hi).prune
    | arr len sz get =>
      rw [hB] at hb
      obtain ⟨h1, b, arr, e, h2, h3, h4, h5, h6⟩ := hb
      exact ⟨e2.trans h1, b, arr, e, e1.trans h2, h3, h4, h5, h6⟩
    | grow L el sz =>
      rw [hB] at hb
      obtain ⟨h1, g, h2, h3, h4, h5, h6⟩ := hb
      exact ⟨e1.trans h1, g, e2.trans h2, h3, h4, h5, h6⟩
  refine ⟨hS.dfr, fun n => ?_, fun s => ?_, ?_, ?_, hS.bel, hS.bas, hS.σin, hS.σout, fun q' p v h => ?_⟩
  · show Rel _ w ((look (live.map fun n => (n, prune (keepQ w0.off keep) (st.slots n))) n).getD .junk) _
    rw [look_map, hq]
    cases hl : has live n with
    | true => simp only [if_true, Option.getD_some]; exact (hS.slots n).prune
    | false => exact .pure (.junk _)
  · show BR _ w base s ((look (keep.map fun s => (s, pruneB (keepQ w0.off keep) (st.blocks s))) s).getD (bif Nat.blt s w0.off then pruneB (keepQ w0.off keep) (st.blocks s) else .none))
    rw [look_map, hq]
    cases hk : has keep s with
    | true =>
      simp only [if_true, Option.getD_some]
      exact hbr s (by rw [← hq]; simp [keepQ, hk])
    | false =>
      simp only [Bool.false_eq_true, if_false, Option.getD_none]
      cases hb : Nat.blt s w0.off with
      | true => exact hbr s (by rw [← hq]; simp [keepQ, hb])
      | false =>
        have : q s = false := by rw [← hq]; simp [keepQ, hb, hk]
        exact ⟨by simp [Env.only, this], by simp [Env.only, this]⟩
  · intro s s' b h h'
    exact hS.inj s s' b (hat s b h).1 (hat s' b h').1
  · intro b o h
    obtain ⟨h1, h2, h3⟩ := hS.σok b o h
    refine ⟨h1, fun s sz hx => ?_, fun s g hg hb => ?_⟩
    · cases hk : q s with
      | true => exact h2 s sz (by simpa [Env.only, hk] using hx)
      | false => simp [Env.only, hk] at hx
    · cases hk : q s with
      | true => exact h3 s g (by simpa [Env.only, hk] using hg) hb
      | false => simp [Env.only, hk] at hg
  · have hin : ∀ s, q' s = true → q s = true := fun s hs => by
      rw [← hq]; simp [keepQ, show Nat.blt s w0.off = true from Nat.ble_eq_true_of_le (w0.hΦ q' p v h s hs)]
    have hle : (E.only q').le ((E.only q).only q') := by
      refine ⟨fun s x hx => ?_, fun _ _ h => h, fun s g hg => ⟨g, ?_, Nat.le_refl _, fun _ => ⟨rfl, rfl⟩⟩⟩
      · simp only [Env.only] at hx ⊢
        split at hx
        · rename_i hq'; rw [if_pos hq', if_pos (hin s hq')]; exact hx
        · cases hx
      · simp only [Env.only] at hg ⊢
        split at hg
        · rename_i hq'; rw [if_pos hq', if_pos (hin s hq')]; exact hg
        · cases hg
    exact (hS.fr q' p v h).mono hle fun _ _ _ => rfl

theorem SR.clean (hS : SR E base w0 st a w) (live keep : List Nat) : ∃ E', SR E' base w0 (clean w0.off live keep st) a w := ⟨_, hS.clean' live keep⟩

theorem clean0 (live keep : List Nat) (st : St) : mkSt (live.zip (live.map fun n => prune (keepQ 0 keep) (st.slots n))) (keep.zip (keep.map fun s => pruneB (keepQ 0 keep) (st.blocks s))) = clean 0 live keep st := by
  have hz : ∀ {α : Type} (f : Nat → α) (l : List Nat), l.zip (l.map f) = l.map fun n => (n, f n) := by
    intro α f l
    induction l with
    | nil => rfl
    | cons a l ih => simp [ih]
  simp only [mkSt, clean, hz]
  congr 1

theorem rebase_sound (hoff : w0.off = C.off) (hS : SR E base w0 st a w) {k : St → Prop} (h : rebase C st k) : ∃ E' st', k st' ∧ SR E' base w0 st' a w := by
  unfold rebase at h
  cases hb : Nat.beq C.off 0 with
  | false => rw [hb] at h; exact ⟨E, st, h, hS⟩
  | true =>
    rw [hb] at h
    simp only [cond_true, frcL_eq frc3_eq, frcL_eq frcB_eq] at h
    have h0 : w0.off = 0 := by rw [hoff]; exact Nat.eq_of_beq_eq_true hb
    obtain ⟨E', hS'⟩ := hS.clean C.live C.names
    rw [h0, ← clean0] at hS'
    exact ⟨E', _, h, hS'⟩

theorem exists_least {p : Nat → Prop} (h : ∃ n, p n) : ∃ n, p n ∧ ∀ m, p m → n ≤ m := by
  obtain ⟨n, hn⟩ := h
  induction n using Nat.strongRecOn with
  | _ n ih =>
    by_cases hm : ∃ m, m < n ∧ p m
    · obtain ⟨m, h1, h2⟩ := hm
      exact ih m h1 h2
    · exact ⟨n, hn, fun m hpm => Nat.le_of_not_lt fun hlt => hm ⟨m, hlt, hpm⟩⟩

/-- What an end of a code's run says of the machine. -/
def OutQ (base : Nat) (w0 : Orig) (N : Nat) (K : Out → Prop) : Exit → Act → World → Prop
  | .normal, a, w => ∃ E st, K (.normal st) ∧ SR E base w0 st a w ∧ a.tmps.size = N
  | .exit n, a, w => ∃ E st, K (.exit n st) ∧ SR E base w0 st a w ∧ a.tmps.size = N
  | .ret, a, w => ∃ E st, K (.ret st) ∧ SR E base w0 st a w ∧ a.tmps.size = N
  | _, _, _ => False

theorem evalCode_sound (hC : CtxOk P C) (hm : P.follows .mixedOrders = true) (hoff : w0.off = C.off) : ∀ (c : Code) (st : St) (E : Env) (a : Act) (w : World) (K : Out → Prop), SR E base w0 st a w → a.tmps.size = N → okCode (okOper N) c = true → evalCode C c st K → c.wp P (OutQ base w0 N K) a w := by
  intro c
  induction c with
  | skip => intro st E a w K hS hN _ h; exact wp_skip ⟨E, st, h, hS, hN⟩
  | ret => intro st E a w K hS hN _ h; exact wp_ret ⟨E, st, h, hS, hN⟩
  | exit n => intro st E a w K hS hN _ h; exact wp_exit ⟨E, st, h, hS, hN⟩
  | region id ops draw =>
    intro st E a w K hS hN hok h
    simp only [okCode, Bool.and_eq_true] at hok
    simp only [evalCode] at h
    cases hmg : C.merge with
    | true =>
      rw [hmg] at h
      simp only [cond_true] at h
      have hreb : ∀ {E' st' a' w'}, rebase C st' (fun st => K (.normal st)) → SR E' base w0 st' a' w' → a'.tmps.size = N → OutQ base w0 N K .normal a' w' := by
        intro E' st' a' w' hk hS' hN'
        obtain ⟨E2, st2, h1, h2⟩ := rebase_sound hoff hS' hk
        exact ⟨E2, st2, h1, h2, hN'⟩
      cases hgd : guarded ops.toList with
      | true =>
        rw [hgd] at h
        simp only [cond_true] at h
        have hR : Real st st [] := ⟨rfl, fun _ _ => rfl, fun _ _ _ h => (by cases h), fun _ _ _ h => (by cases h), fun _ _ _ h => (by cases h), fun _ h => (by cases h)⟩
        obtain ⟨tr', stf, full, h1, h2, h3, h4⟩ := evalM_run _ st st [] [] _ hR h
        have hQ : ∀ E' st' a' w', (∃ st2, SLe st' st2 ∧ rebase C st2 fun st => K (.normal st)) → SR E' base w0 st' a' w' → a'.tmps.size = N → OutQ base w0 N K .normal a' w' := by
          rintro E' st' a' w' ⟨st2, hle, hk⟩ hS' hN'
          exact hreb hk (hS'.le hle) hN'
        cases draw with
        | false =>
          refine wp_region_list ?_
          have e : (ops.toList.zipIdx.map fun (o, i) => (i, o)).map Prod.snd = ops.toList := by
            rw [List.map_map]
            exact (List.map_congr_left fun x _ => rfl).trans (List.zipIdx_map_fst 0 ops.toList)
          have := runT_list hC (fun st' => ∃ st2, SLe st' st2 ∧ rebase C st2 fun st => K (.normal st)) hQ _ tr' st stf E a w h1 h4 hS hN (by rw [e]; exact hok.1)
          rw [e] at this
          exact this
        | true =>
          have hfit : fitOps ops.toList = true := by simpa using hok.2
          refine wp_region_any hm ?_
          have := wpAny_run hC hfit hok.1 (fun st' => ∃ st2, SLe st' st2 ∧ rebase C st2 fun st => K (.normal st)) [] (Q := OutQ base w0 N K) (fun E' st' a' w' listed' hk hS' hN' hL' => ⟨List.eq_nil_iff_forall_not_mem.2 fun i hi => by obtain ⟨o, ho, _⟩ := hL'.ancs_done hfit hi; simp at ho, hQ E' st' a' w' hk hS' hN'⟩)
            ops.toList.length _ (Array.replicate ops.size false) tr' st stf E a { w with drawn := w.drawn + 1 } (by simp) (by simpa using left_all ops) (by simp) h1 (calm_filter tr' (calm_sub (by simpa using h3) h2)) h4 (hS.drawn _) hN
          simpa using this
      | false =>
        rw [hgd] at h
        simp only [cond_false] at h
        cases draw with
        | false =>
          simp only [cond_false] at h
          exact wp_region_list (evalOps_sound hC hoff ops.toList st E a w _ hS hN hok.1 h fun E' st' a' w' hk hS' hN' => hreb hk hS' hN')
        | true =>
          simp only [cond_true] at h
          exact evalDs_sound hC hoff hm hS hN (by simpa using hok.2) hok.1 h fun E' st' a' w' hk hS' hN' => hreb hk hS' hN'
    | false =>
    rw [hmg] at h
    simp only [cond_false] at h
    cases draw with
    | false =>
      simp only [cond_false] at h
      exact wp_region_list (evalOps_sound hC hoff ops.toList st E a w _ hS hN hok.1 h fun E' st' a' w' hk hS' hN' => ⟨E', st', hk, hS', hN'⟩)
    | true =>
      simp only [cond_true] at h
      exact evalDs_sound hC hoff hm hS hN (by simpa using hok.2) hok.1 h fun E' st' a' w' hk hS' hN' => ⟨E', st', hk, hS', hN'⟩
  | seq x y ihx ihy =>
    intro st E a w K hS hN hok h
    simp only [okCode, Bool.and_eq_true] at hok
    simp only [evalCode] at h
    refine wp_seq (wp_mono (ihx st E a w _ hS hN hok.1 h) fun e a' w' hq => ?_)
    cases e with
    | normal =>
      obtain ⟨E', st', hk, hS', hN'⟩ := hq
      exact ihy st' E' a' w' K hS' hN' hok.2 hk
    | _ => exact hq
  | cond c x y ihx ihy =>
    intro st E a w K hS hN hok h
    simp only [okCode, Bool.and_eq_true] at hok
    simp only [evalCode] at h
    have hc := hS.ev c
    cases hv : V.ev st.slots c with
    | tt => rw [hv] at h hc; exact wp_cond_true hc.tt_inv (ihx st E a w K hS hN hok.1 h)
    | ff => rw [hv] at h hc; exact wp_cond_false hc.ff_inv (ihy st E a w K hS hN hok.2 h)
    | bool b => rw [hv] at h hc; exact wp_cond_split hc.bool_inv (fun hb => ihx st E a w K hS hN hok.1 (h.1 hb)) fun hb => ihy st E a w K hS hN hok.2 (h.2 hb)
    | _ => rw [hv] at h; exact h.elim
  | block id x ih =>
    intro st E a w K hS hN hok h
    simp only [okCode] at hok
    simp only [evalCode] at h
    refine wp_block (wp_mono (ih st E a w _ hS hN hok h) fun e a' w' hq => ?_)
    cases e with
    | exit n =>
      obtain ⟨E', st', hk, hS', hN'⟩ := hq
      simp only at hk
      simp only [Exit.inBlock]
      cases hb : Nat.beq n id with
      | true =>
        rw [hb] at hk
        rw [if_pos (Nat.eq_of_beq_eq_true hb)]
        exact ⟨E', st', hk, hS', hN'⟩
      | false =>
        rw [hb] at hk
        rw [if_neg (by rintro rfl; simp at hb)]
        exact ⟨E', st', hk, hS', hN'⟩
    | _ => exact hq
  | loop x ih =>
    intro st E a w K hS hN hok h
    simp only [okCode] at hok
    simp only [evalCode] at h
    rw [← hoff] at h
    obtain ⟨live, keep, Inv, μ, ⟨st1, hle, hI⟩, hround⟩ := h.get
    obtain ⟨E1, hS1⟩ := hS.clean live keep
    have hS1 := hS1.le hle
    let Good : Act → World → Nat → Prop := fun a w n => ∃ E st, Inv st ∧ SR E base w0 st a w ∧ a.tmps.size = N ∧ μ st = n
    have hgood : ∀ {a w}, (∃ n, Good a w n) → ∃ n, Good a w n ∧ ∀ m, Good a w m → n ≤ m := fun h => exists_least h
    let ν : Act → World → Nat := fun a w => @Classical.epsilon Nat ⟨0⟩ fun n => Good a w n ∧ ∀ m, Good a w m → n ≤ m
    have hν : ∀ {a w}, (∃ n, Good a w n) → Good a w (ν a w) ∧ ∀ m, Good a w m → ν a w ≤ m := fun h => Classical.epsilon_spec (hgood h)
    refine wp_loop (fun a w => ∃ n, Good a w n) ν ⟨_, E1, st1, hI, hS1, hN, rfl⟩ fun a w hg => ?_
    obtain ⟨⟨E2, st2, hI2, hS2, hN2, hμ⟩, _⟩ := hν hg
    refine wp_mono (ih st2 E2 a w _ hS2 hN2 hok (hround st2 hI2)) fun e a' w' hq => ?_
    cases e with
    | normal =>
      obtain ⟨E', st', hnx, hS', hN'⟩ := hq
      obtain ⟨st3, hle3, hI3, hlt⟩ := hnx.get
      obtain ⟨E3, hS3⟩ := hS'.clean live keep
      have hg3 : Good a' w' (μ st3) := ⟨E3, st3, hI3, hS3.le hle3, hN', rfl⟩
      refine ⟨⟨_, hg3⟩, ?_⟩
      have := (hν ⟨_, hg3⟩).2 _ hg3
      omega
    | _ => exact hq
  | _ => intro st E a w K _ _ hok _; simp [okCode] at hok


theorem resOf_sound (hC : CtxOk P C) (hS : SR E base w0 st a w) (r : ResultVar) (hne : resOf C st r ≠ .junk) : ∃ v, (match r with | .tmp t => (Pure.pure (a.tmps.getD t undef) : Sem Value) | .cell x t => (do loadVar t (← asAddr (a.tmps.getD x undef)))).run P w = .ok v w ∧ Rel E w (resOf C st r) v := by
  cases r with
  | tmp t => exact ⟨_, rfl, hS.slots t⟩
  | cell x t =>
    simp only [resOf] at hne ⊢
    have hx := hS.slots x
    cases hv : st.slots x with
    | ptr s off =>
      rw [hv] at hx
      simp only [hv] at hne ⊢
      obtain ⟨b, sz, hρ, e⟩ := hx.ptr_inv
      cases hl : look C.types t with
      | none => simp only [hl] at hne; exact (hne rfl).elim
      | some ti =>
        have ht := hC.types _ _ hl
        simp only [hl] at hne ⊢
        have hb := hS.blk s
        cases hB : st.blocks s with
        | cells l =>
          rw [hB] at hb
          simp only [hB] at hne ⊢
          obtain ⟨_, b', arr, el, hρ', _, hh, hsz, hr⟩ := hb
          rw [hρ] at hρ'
          simp only [Option.some.injEq, Prod.mk.injEq] at hρ'
          obtain ⟨rfl, _⟩ := hρ'
          cases hle : Nat.ble (off + ti.size) l.length with
          | false => rw [hle] at hne; exact (hne rfl).elim
          | true =>
            simp only [cond_true]
            have hle' := Nat.le_of_ble_eq_true hle
            obtain ⟨v, h1, h2⟩ := load_sound (E := E) (w := w) ht (b := b) (o := off) (cs := (l.drop off).take ti.size) (c := fun j => arr.getD (off + j) undef) (by simp; omega)
              (fun j hj => by simp [World.cell?, hh, show off + j < arr.size by omega]) (fun j hj => by rw [getD_take_drop hj]; exact hr _ (by omega))
            refine ⟨v, ?_, h2⟩
            simp only [Instr.loadAt, Instr.sureAddr, pure_bind] at h1
            simp [e, asAddr, h1]
        | _ => simp only [hB] at hne; exact (hne rfl).elim
    | _ => simp only [hv] at hne; exact (hne rfl).elim


def resSem (a : Act) (r : ResultVar) : Sem Value :=
  match r with
  | .tmp t => Pure.pure (a.tmps.getD t undef)
  | .cell x t => do loadVar t (← asAddr (a.tmps.getD x undef))

/-- The cells of arrays that are not written any more. -/
def Frozen (E : Env) (st : St) (q : Nat → Bool) (b o : Nat) : Prop := E.σ b o ∨ ∃ s len sz get, q s = false ∧ st.blocks s = .arr len sz get ∧ E.ρ s = some (b, sz) ∧ o < len * sz

theorem own_frozen (hS : SR E base w0 st a w) {s len : Nat} {v : Value} (h : Rel E w (.own s len) v) {len' sz : Nat} {get : Nat → List PV} (hB : st.blocks s = .arr len' sz get) (hl : len ≤ len') {q : Nat → Bool} (hq : q s = false) :
    RelP (Frozen E st q) w (.slice none len get) v := by
  obtain ⟨b, sz', cap, hρ, hc, rfl⟩ := h.own_inv
  have hb := hS.blk s
  rw [hB] at hb
  obtain ⟨_, b', arr, e, hρ', hbase, hh, hsz, hr⟩ := hb
  rw [hρ] at hρ'
  simp only [Option.some.injEq, Prod.mk.injEq] at hρ'
  obtain ⟨rfl, rfl⟩ := hρ'
  have hlt : ∀ i, i < len → ∀ j, j < sz' → i * sz' + j < len' * sz' := by
    intro i hi j hj
    have : (i + 1) * sz' ≤ len' * sz' := Nat.mul_le_mul_right _ (by omega)
    rw [Nat.succ_mul] at this
    omega
  refine .slice len get (some ⟨b, 0, none⟩) cap b 0 sz' (fun i j => arr.getD (i * sz' + j) undef) hc (fun _ => rfl) (fun h => by cases h) (fun i hi => (hr i (by omega)).1) (fun i hi j hj => ?_) (fun i hi j hj => ((hr i (by omega)).2 j hj).mono (fun _ _ h => .inl h) fun _ _ _ => rfl)
  have hlt := hlt i hi j hj
  refine ⟨.inr ⟨s, len', sz', get, hq, hB, hρ, by omega⟩, ?_⟩
  simp [World.cell?, hh, show i * sz' + j < arr.size by omega]

theorem frz_rel (hS : SR E base w0 st a w) {p : PV} {v : Value} (h : Rel E w p v) (hp : plain2 (frz st.blocks p) = true) : RelP (Frozen E st fun _ => false) w (frz st.blocks p) v := by
  by_cases ho : ∃ s len, p = .own s len
  · obtain ⟨s, len, rfl⟩ := ho
    simp only [frz] at hp ⊢
    cases hB : st.blocks s with
    | arr len' sz get =>
      simp only [hB] at hp ⊢
      cases hle : Nat.ble len len' with
      | true => exact own_frozen hS h hB (Nat.le_of_ble_eq_true hle) rfl
      | false => rw [hle] at hp; cases hp
    | _ => simp only [hB] at hp; cases hp
  · have e : frz st.blocks p = toView p := by
      cases p with
      | own s len => exact (ho ⟨s, len, rfl⟩).elim
      | _ => rfl
    rw [e] at hp ⊢
    exact (plain2_relP hp (toView_rel h)).mono (fun _ _ h => .inl h) fun _ _ _ => rfl

theorem Frozen.where' (hS : SR E base w0 st a w) {q : Nat → Bool} {b o : Nat} (h : Frozen E st q b o) : E.σ b o ∨ (base ≤ b ∧ b < w.heap.size ∧ (∀ s sz, E.ρ s = some (b, sz) → q s = false) ∧ ∀ s g, E.hd s = some g → g.bo = some b → False) := by
  rcases h with h | ⟨s, len, sz, get, hq, hB, hρ, ho⟩
  · exact .inl h
  · refine .inr ?_
    have hb := hS.blk s
    rw [hB] at hb
    obtain ⟨_, b', arr, e, hρ', hbase, hh, _⟩ := hb
    rw [hρ] at hρ'
    simp only [Option.some.injEq, Prod.mk.injEq] at hρ'
    obtain ⟨rfl, _⟩ := hρ'
    have hat : E.at s = some b := by simp [Env.at, hρ]
    refine ⟨hbase, (Array.getElem?_eq_some_iff.1 hh).1, fun s' sz' h' => ?_, fun s' g h' hg => ?_⟩
    · have : s' = s := hS.inj s' s b (by simp [Env.at, h']) hat
      rw [this]; exact hq
    · have hb' := hS.blk s'
      have h1 : E.ρ s' = none := by
        cases hB' : st.blocks s' with
        | none => rw [hB'] at hb'; exact hb'.1
        | cells l => rw [hB'] at hb'; have := hb'.1; rw [h'] at this; cases this
        | arr _ _ _ => rw [hB'] at hb'; have := hb'.1; rw [h'] at this; cases this
        | grow _ _ _ => rw [hB'] at hb'; exact hb'.1
      have : s' = s := hS.inj s' s b (by simp [Env.at, h1, h', hg]) hat
      subst this
      rw [h1] at hρ
      cases hρ

theorem results_list (hC : CtxOk P C) (hS : SR E base w0 st a w) : ∀ (rs : List ResultVar), (∀ r ∈ rs, plain2 (frz st.blocks (resOf C st r)) = true) →
    ∃ vs : List Value, (rs.mapM (resSem a)).run P w = .ok vs w ∧ vs.length = rs.length ∧ ∀ i, i < rs.length → RelP (Frozen E st fun _ => false) w ((rs.map fun r => frz st.blocks (resOf C st r)).getD i .junk) (vs.getD i undef)
  | [], _ => ⟨[], by simp, rfl, fun i hi => by simp at hi⟩
  | r :: rs, h => by
    obtain ⟨vs, h1, h2, h3⟩ := results_list hC hS rs fun r hr => h r (List.mem_cons_of_mem _ hr)
    have hr := h r (List.mem_cons_self ..)
    obtain ⟨v, g1, g2⟩ := resOf_sound hC hS r (by intro e; rw [e] at hr; cases hr)
    have g1' : (resSem a r).run P w = .ok v w := by cases r <;> exact g1
    refine ⟨v :: vs, ?_, by simp [h2], fun i hi => ?_⟩
    · simp only [List.mapM_cons, Sem.run_bind, g1', Result.andThen_ok, h1, Sem.run_pure]
    · cases i with
      | zero => exact frz_rel hS g2 hr
      | succ i => exact h3 i (by simpa using hi)

theorem results_sound (hC : CtxOk P C) (hS : SR E base w0 st a w) (fn : Func) (hp : fn.results.toList.all (fun r => plain2 (frz st.blocks (resOf C st r))) = true) : ∃ v, (results fn a.tmps).run P w = .ok v w ∧ RelP (Frozen E st fun _ => false) w (results1 C fn.results.toList st) v := by
  have hall : ∀ r ∈ fn.results.toList, plain2 (frz st.blocks (resOf C st r)) = true := List.all_eq_true.1 hp
  obtain ⟨vs, h1, h2, h3⟩ := results_list hC hS fn.results.toList hall
  have hm : (fn.results.mapM (resSem a)).run P w = .ok vs.toArray w := by
    simp [Array.mapM_eq_mapM_toList, h1]
  have hres : (results fn a.tmps).run P w = .ok (if h : vs.toArray.size = 1 then vs.toArray[0] else .tuple vs.toArray) w := by
    have : results fn a.tmps = (do let vs ← fn.results.mapM (resSem a); Pure.pure (if h : vs.size = 1 then vs[0] else .tuple vs) : Sem Value) := by
      unfold results
      congr 1
    rw [this]
    simp only [Sem.run_bind, hm, Result.andThen_ok, Sem.run_pure]
  refine ⟨_, hres, ?_⟩
  match hl : fn.results.toList, vs, h2, h3 with
  | [r], [v], _, h3 => simpa [results1] using h3 0 (by simp)
  | [], [], _, h3 => exact .tup _ _ (by simp) fun i hi => by simp at hi
  | r1 :: r2 :: rs, v1 :: v2 :: vs, h2, h3 =>
    have e1 : results1 C (r1 :: r2 :: rs) st = .tup ((r1 :: r2 :: rs).map fun r => frz st.blocks (resOf C st r)) := rfl
    rw [e1]
    have e2 : (if h : (v1 :: v2 :: vs).toArray.size = 1 then (v1 :: v2 :: vs).toArray[0] else Value.tuple (v1 :: v2 :: vs).toArray) = .tuple (v1 :: v2 :: vs).toArray := by simp
    rw [e2]
    refine .tup _ _ (by simpa using h2) fun i hi => ?_
    rw [toArray_getD]
    exact h3 i (by simpa using hi)

/-- More cells that do not change any more. -/
theorem SR.moreσ (hS : SR E base w0 st a w) (σ' : Nat → Nat → Prop) (h1 : ∀ b o, E.σ b o → σ' b o) (h2 : ∀ b o, σ' b o → E.σ b o ∨ (base ≤ b ∧ b < w.heap.size ∧ (∀ s sz, E.ρ s ≠ some (b, sz)) ∧ ∀ s g, E.hd s = some g → g.bo ≠ some b)) : SR ⟨E.ρ, E.hd, σ'⟩ base w0 st a w := by
  have hle : E.le ⟨E.ρ, E.hd, σ'⟩ := ⟨fun _ _ h => h, h1, fun _ g h => ⟨g, h, Nat.le_refl _, fun _ => ⟨rfl, rfl⟩⟩⟩
  have hc : ∀ b o, E.σ b o → w.cell? ⟨b, o, none⟩ = w.cell? ⟨b, o, none⟩ := fun _ _ _ => rfl
  refine ⟨hS.dfr, fun n => (hS.slots n).mono hle hc, fun s => (hS.blk s).keep hle hc rfl rfl fun _ _ => rfl, hS.inj, fun b o h => ?_, hS.bel, hS.bas, fun b o h => h1 _ _ (hS.σin b o h), fun b o h => ?_, fun q p v h => (hS.fr q p v h).mono (Env.only_le hle q) hc⟩
  · rcases h2 b o h with h | ⟨g1, g2, g3, g4⟩
    · exact hS.σok b o h
    · exact ⟨g2, g3, fun s g h h' => (g4 s g h h').elim⟩
  · rcases h2 b o h with h | ⟨g1, _⟩
    · exact hS.σout b o h
    · exact .inr g1

/-- What meets what is said of it in plain values, does so in the machine. -/
theorem sound_of_meets (hC : CtxOk P C) (hm : P.follows .mixedOrders = true) {f : Nat} {fn : Func} {c : Code} {s : Spec} {n : Nat} (hf : P.funcs[f]? = some fn) (hb : fn.body = some c) (hok : okCode (okOper fn.ntmps) c = true) (hn : n ≤ fn.ntmps)
    (hoff : C.off = 0) (h : Meets C c fn.results.toList n s) : Sound P f s := by
  intro args σ w vals hsz hrel hσ hpre
  obtain ⟨hlen, hev⟩ := h args hpre
  have hS : SR ⟨fun _ => none, fun _ => none, σ⟩ w.heap.size { w := w, σ := σ } (start args) { tmps := vals ++ Array.replicate (fn.ntmps - vals.size) undef, defers := [] } w := by
    refine ⟨rfl, fun k => ?_, fun s => ⟨rfl, rfl⟩, ?_, ?_, Below.refl _ _, Nat.le_refl _, fun _ _ h => h, fun _ _ h => .inl h, fun _ _ _ h => h.elim⟩
    · show Rel _ w (args.getD k .junk) _
      by_cases hk : k < args.length
      · have := hrel k hk
        have hk' : k < vals.size := by omega
        have e : (vals ++ Array.replicate (fn.ntmps - vals.size) undef).getD k undef = vals.getD k undef := by
          have hk2 : k < (vals ++ Array.replicate (fn.ntmps - vals.size) undef).size := by simp; omega
          simp only [Array.getD, hk2, hk', dif_pos]
          exact Array.getElem_append_left hk'
        rw [e]
        exact .pure this
      · have : args.getD k .junk = .junk := by simp [List.getD, List.getElem?_eq_none (Nat.le_of_not_lt hk)]
        rw [this]
        exact .pure (.junk _)
    · intro s s' b h; simp [Env.at] at h
    · intro b o h
      exact ⟨hσ b o h, (fun s sz hx => nomatch hx), (fun s g hg _ => nomatch hg)⟩
  have hN : (vals ++ Array.replicate (fn.ntmps - vals.size) undef).size = fn.ntmps := by simp; omega
  refine calls_of_wp hf hb (wp_mono (evalCode_sound hC hm hoff.symm c _ _ _ w _ hS hN hok hev) fun e a' w' hq => ?_)
  have fin : ∀ {E' st'}, (fn.results.toList.all (fun r => plain2 (frz st'.blocks (resOf C st' r))) = true ∧ PLe (results1 C fn.results.toList st') (s args).2) → SR E' w.heap.size { w := w, σ := σ } st' a' w' → a'.defers = [] ∧ ∃ v, (results fn a'.tmps).run P w' = .ok v w' ∧
      ∃ v' σ', Ending.returned v = Ending.returned v' ∧ Below w.heap.size w w' ∧ (∀ b o, σ b o → σ' b o) ∧ (∀ b o, σ' b o → b < w'.heap.size ∧ (¬ σ b o → w.heap.size ≤ b)) ∧ RelP σ' w' (s args).2 v' := by
    rintro E' st' ⟨h1, h2⟩ hS'
    obtain ⟨v, h3, h4⟩ := results_sound hC hS' fn h1
    refine ⟨hS'.dfr, v, h3, v, Frozen E' st' fun _ => false, rfl, hS'.bel, fun b o h => .inl (hS'.σin b o h), fun b o h => ?_, h4.le h2⟩
    rcases h.where' hS' with h | ⟨g1, g2, _⟩
    · exact ⟨(hS'.σok b o h).1, fun hn => (hS'.σout b o h).resolve_left hn⟩
    · exact ⟨g2, fun _ => g1⟩
  cases e with
  | normal => obtain ⟨E', st', hk, hS', _⟩ := hq; exact fin hk hS'
  | ret => obtain ⟨E', st', hk, hS', _⟩ := hq; exact fin hk hS'
  | exit k => obtain ⟨E', st', hk, _⟩ := hq; exact hk.elim
  | _ => exact hq.elim


/-- A function that works on its caller's blocks, by its text. -/
theorem soundE_of_body (hC : CtxOk P C) (hm : P.follows .mixedOrders = true) {f : Nat} {fn : Func} {c : Code} (hf : P.funcs[f]? = some fn) (hb : fn.body = some c) (hok : okCode (okOper fn.ntmps) c = true) (hres : fn.results.toList.length ≤ 1)
    {n : Nat} (hn : n ≤ fn.ntmps) : SoundE P f C.off (fun args bl k => args.length = n ∧ effBody C c fn.results.toList args bl k) := by
  intro args bl K ⟨hlen0, he⟩ E base w0 w vals hoff hS hsz hrel
  have hlen : args.length ≤ fn.ntmps := by omega
  have hS1 : SR E base w0 ⟨(start args).slots, bl⟩ { tmps := vals ++ Array.replicate (fn.ntmps - vals.size) undef, defers := [] } w := by
    refine ⟨rfl, fun k => ?_, hS.blk, hS.inj, hS.σok, hS.bel, hS.bas, hS.σin, hS.σout, hS.fr⟩
    show Rel _ w (args.getD k .junk) _
    by_cases hk : k < args.length
    · have := hrel k hk
      have hk' : k < vals.size := by omega
      have e : (vals ++ Array.replicate (fn.ntmps - vals.size) undef).getD k undef = vals.getD k undef := by
        have hk2 : k < (vals ++ Array.replicate (fn.ntmps - vals.size) undef).size := by simp; omega
        simp only [Array.getD, hk2, hk', dif_pos]
        exact Array.getElem_append_left hk'
      rw [e]
      exact this
    · have : args.getD k .junk = .junk := by simp [List.getD, List.getElem?_eq_none (Nat.le_of_not_lt hk)]
      rw [this]
      exact .pure (.junk _)
  have hN : (vals ++ Array.replicate (fn.ntmps - vals.size) undef).size = fn.ntmps := by simp; omega
  refine calls_of_wp hf hb (wp_mono (evalCode_sound hC hm hoff c _ _ _ w _ hS1 hN hok he) fun e a' w' hq => ?_)
  have fin : ∀ {E' st'}, (fn.results.toList.all (fun r => nj (resOf C st' r)) = true ∧ K (prune (fun s => Nat.blt s C.off) (match fn.results.toList with | [] => .tup [] | [r] => frzE C.off st'.blocks (resOf C st' r) | _ => .junk)) (fun s => bif Nat.blt s C.off then pruneB (fun s => Nat.blt s C.off) (st'.blocks s) else .none)) → SR E' base w0 st' a' w' →
      a'.defers = [] ∧ ∃ v, (results fn a'.tmps).run P w' = .ok v w' ∧ ∃ v' p bl' E', Ending.returned v = Ending.returned v' ∧ K p bl' ∧ SR E' base w0 ⟨fun _ => .junk, bl'⟩ noAct w' ∧ Rel E' w' p v' := by
    rintro E' st' ⟨hnj, hk⟩ hS'
    refine ⟨hS'.dfr, ?_⟩
    have hS2 := hS'.clean' [] []
    have hq : keepQ w0.off [] = fun s => Nat.blt s C.off := by funext s; simp [keepQ, has, hoff]
    have hbl : clean w0.off [] [] st' = ⟨fun _ => .junk, fun s => bif Nat.blt s C.off then pruneB (fun s => Nat.blt s C.off) (st'.blocks s) else .none⟩ := by
      unfold clean
      rw [hq, hoff]
      rfl
    rw [hbl, hq] at hS2
    generalize hqd : (fun s => Nat.blt s C.off) = q at *
    have hS3 : SR (E'.only q) base w0 ⟨fun _ => .junk, fun s => bif q s then pruneB q (st'.blocks s) else .none⟩ noAct w' :=
      ⟨rfl, fun _ => .pure (.junk _), by subst hqd; exact hS2.blk, hS2.inj, hS2.σok, hS2.bel, hS2.bas, hS2.σin, hS2.σout, hS2.fr⟩
    have hS4 := hS3.moreσ (Frozen E' st' q) (fun b o h => .inl h) fun b o h => by
      rcases h.where' hS' with h | ⟨g1, g2, g3, g4⟩
      · exact .inl h
      · refine .inr ⟨g1, g2, fun s sz hx => ?_, fun s g hg hb => ?_⟩
        · simp only [Env.only] at hx
          split at hx
          · rename_i hqs; rw [g3 s sz hx] at hqs; cases hqs
          · cases hx
        · simp only [Env.only] at hg
          split at hg
          · exact g4 s g hg hb
          · cases hg
    have hle : (E'.only q).le ⟨(E'.only q).ρ, (E'.only q).hd, Frozen E' st' q⟩ := ⟨fun _ _ h => h, fun _ _ h => .inl h, fun _ g h => ⟨g, h, Nat.le_refl _, fun _ => ⟨rfl, rfl⟩⟩⟩
    have hrs : fn.results = fn.results.toList.toArray := by simp
    match hl : fn.results.toList, hres, hnj, hk with
    | [], _, _, hk =>
      rw [hl] at hrs
      subst hqd
      exact ⟨.tuple #[], by simp [results, hrs], _, _, _, _, rfl, hk, hS4, .pure (.tup [] #[] rfl fun i hi => by simp at hi)⟩
    | [r], _, hnj, hk =>
      rw [hl] at hrs
      obtain ⟨v, h1, h2⟩ := resOf_sound hC hS' r (by intro e; simp [e, nj] at hnj)
      have hrun : (results fn a'.tmps).run P w' = .ok v w' := by
        cases r <;> simp [results, hrs] at h1 ⊢ <;> simp [h1]
      have hfin : Rel ⟨(E'.only q).ρ, (E'.only q).hd, Frozen E' st' q⟩ w' (prune q (frzE C.off st'.blocks (resOf C st' r))) v := by
        by_cases ho : ∃ s len len' sz get, resOf C st' r = .own s len ∧ q s = false ∧ st'.blocks s = .arr len' sz get ∧ len ≤ len'
        · obtain ⟨s, len, len', sz, get, e, hqs, hB, hlen⟩ := ho
          rw [e] at h2 ⊢
          have e2 : frzE C.off st'.blocks (.own s len) = .slice none len get := by
            simp only [frzE, hB]
            have : Nat.blt s C.off = false := by rw [← hqs, ← hqd]
            rw [this, Nat.ble_eq_true_of_le hlen]
            rfl
          rw [e2]
          exact .pure (own_frozen hS' h2 hB hlen hqs)
        · have hor : frzE C.off st'.blocks (resOf C st' r) = resOf C st' r ∨ frzE C.off st'.blocks (resOf C st' r) = .junk := by
            cases hr : resOf C st' r with
            | own s len =>
              simp only [frzE]
              cases hqs : Nat.blt s C.off with
              | true => exact .inl rfl
              | false =>
                simp only [cond_false]
                cases hB : st'.blocks s with
                | arr len' sz get =>
                  cases hle : Nat.ble len len' with
                  | true => exact (ho ⟨s, len, len', sz, get, hr, by rw [← hqd]; exact hqs, hB, Nat.le_of_ble_eq_true hle⟩).elim
                  | false => exact .inr (by simp only [hle, cond_false])
                | _ => exact .inr rfl
            | _ => exact .inl rfl
          rcases hor with e | e
          · rw [e]; exact h2.prune.mono hle fun _ _ _ => rfl
          · rw [e]; exact .pure (.junk _)
      subst hqd
      exact ⟨v, hrun, _, _, _, _, rfl, hk, hS4, hfin⟩
  cases e with
  | normal => obtain ⟨E', st', hk, hS', _⟩ := hq; exact fin hk hS'
  | ret => obtain ⟨E', st', hk, hS', _⟩ := hq; exact fin hk hS'
  | exit k => obtain ⟨E', st', hk, _⟩ := hq; exact hk.elim
  | _ => exact hq.elim

end
end Go.V
