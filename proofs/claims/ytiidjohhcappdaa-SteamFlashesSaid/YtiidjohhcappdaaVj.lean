/- Part 7: a region whose order is open does what it does in the order of the text. -/
import Derived.Test.YtiidjohhcappdaaVi
namespace Go.V
open Go.RowKit (Below)

def ancOf (acc : List Nat) (o : Oper) : Nat := (deps o).foldl (fun m k => m ||| (1 <<< k ||| acc.getD k 0)) 0
theorem anc_bit (acc : List Nat) : ∀ (l : List Nat) (m0 k : Nat), Nat.testBit (l.foldl (fun m k => m ||| (1 <<< k ||| acc.getD k 0)) m0) k = true → Nat.testBit m0 k = true ∨ k ∈ l ∨ ∃ m ∈ l, Nat.testBit (acc.getD m 0) k = true
  | [], m0, k, h => .inl h
  | a :: l, m0, k, h => by
    rcases anc_bit acc l _ k h with h | h | ⟨m, hm, h⟩
    · rw [Nat.testBit_or, Nat.testBit_or, Bool.or_eq_true, Bool.or_eq_true] at h
      rcases h with h | h | h
      · exact .inl h
      · refine .inr (.inl ?_)
        rw [Nat.one_shiftLeft, Nat.testBit_two_pow] at h
        have : a = k := by simpa using h
        exact this ▸ List.mem_cons_self ..
      · exact .inr (.inr ⟨a, List.mem_cons_self .., h⟩)
    · exact .inr (.inl (List.mem_cons_of_mem _ h))
    · exact .inr (.inr ⟨m, List.mem_cons_of_mem _ hm, h⟩)
theorem ancs_pre : ∀ (ops : List Oper) (acc : List Nat), ∃ r, ancs ops acc = acc ++ r
  | [], acc => ⟨[], by simp [ancs]⟩
  | o :: ops, acc => by
    obtain ⟨r, hr⟩ := ancs_pre ops (acc ++ [ancOf acc o])
    exact ⟨_, by rw [ancs]; show ancs ops (acc ++ [ancOf acc o]) = _; rw [hr, List.append_assoc]⟩
theorem ancs_at : ∀ (ops : List Oper) (acc : List Nat) (i : Nat) (o : Oper), ops[i]? = some o → (∀ k ∈ deps o, k < acc.length + i) →
    ∀ k, hasA (ancs ops acc) (acc.length + i) k = true → k ∈ deps o ∨ ∃ m ∈ deps o, hasA (ancs ops acc) m k = true
  | [], acc, i, o, h, _, _, _ => by simp at h
  | p :: ops, acc, 0, o, h, hd, k, hk => by
    simp at h
    subst h
    obtain ⟨r, hr⟩ := ancs_pre ops (acc ++ [ancOf acc p])
    have hr : ancs (p :: ops) acc = acc ++ [ancOf acc p] ++ r := hr
    have e : (ancs (p :: ops) acc).getD (acc.length + 0) 0 = ancOf acc p := by
      rw [hr]
      simp [List.getD]
    unfold hasA at hk
    rw [e] at hk
    rcases anc_bit acc (deps p) 0 k hk with hk | hk | ⟨m, hm, hk⟩
    · simp at hk
    · exact .inl hk
    · refine .inr ⟨m, hm, ?_⟩
      have hlt := hd m hm
      have e2 : (ancs (p :: ops) acc).getD m 0 = acc.getD m 0 := by
        rw [hr, List.append_assoc]
        simp [List.getD, List.getElem?_append_left (show m < acc.length by omega)]
      unfold hasA
      rw [e2]; exact hk
  | p :: ops, acc, i + 1, o, h, hd, k, hk => by
    have hl : (acc ++ [ancOf acc p]).length = acc.length + 1 := by simp
    have := ancs_at ops (acc ++ [ancOf acc p]) i o (by simpa using h) (by intro k hk; have := hd k hk; rw [hl]; omega) k
    have er : ancs (p :: ops) acc = ancs ops (acc ++ [ancOf acc p]) := rfl
    rw [er] at hk ⊢
    refine this ?_
    have e : (acc ++ [ancOf acc p]).length + i = acc.length + (i + 1) := by rw [hl]; omega
    rw [e]; exact hk

theorem fit_spec {ops : List Oper} (h : fitOps ops = true) {i : Nat} {o : Oper} (hi : ops[i]? = some o) :
    (∀ k ∈ deps o, k < i) ∧ ∀ k p, k < i → ops[k]? = some p → hasA (ancs ops []) i k = true ∨ slotApart ops p o = true := by
  simp only [fitOps, List.all_eq_true] at h
  have := h (o, i) (List.mem_zipIdx_iff_getElem?.2 (by simpa using hi))
  simp only [Bool.and_eq_true, List.all_eq_true] at this
  refine ⟨fun k hk => Nat.le_of_ble_eq_true (this.1 k hk), fun k p hk hp => ?_⟩
  have hm : (p, k) ∈ (ops.take i).zipIdx := List.mem_zipIdx_iff_getElem?.2 (by simp [hk, hp])
  have := this.2 (p, k) hm
  simpa [Bool.or_eq_true] using this

theorem calm_mid {an : List Nat} : ∀ (l1 : Trace) (i : Nat) (t : Option Nat × Bool) (l2 : Trace), calm an (l1 ++ (i, t) :: l2) = true → calm an (l1 ++ l2) = true ∧ ∀ k ∈ l1, hasA an i k.1 = true ∨ apart k.2 t = true
  | [], i, t, l2, h => by
    simp only [List.nil_append, calm, Bool.and_eq_true] at h
    exact ⟨h.2, fun k hk => by simp at hk⟩
  | (j, u) :: l1, i, t, l2, h => by
    simp only [List.cons_append, calm, Bool.and_eq_true, List.all_append, List.all_cons, Bool.or_eq_true] at h ⊢
    obtain ⟨⟨h1, h2, h3⟩, h4⟩ := h
    obtain ⟨g1, g2⟩ := calm_mid l1 i t l2 h4
    refine ⟨⟨⟨h1, h3⟩, g1⟩, fun k hk => ?_⟩
    rcases List.mem_cons.1 hk with rfl | hk
    · rcases h2 with h2 | h2
      · exact .inr h2
      · exact .inl (by simpa using h2)
    · exact g2 k hk

section
variable {P : Program} {C : Ctx} {E : Env} {base : Nat} {w0 : Orig} {w : World} {st : St} {a : Act} {N : Nat} {r : Option Nat}

theorem SR.drawn (hS : SR E base w0 st a w) (n : Nat) : SR E base w0 st a { w with drawn := n } := by
  have hc : ∀ b o, E.σ b o → World.cell? { w with drawn := n } ⟨b, o, none⟩ = w.cell? ⟨b, o, none⟩ := fun _ _ _ => rfl
  refine ⟨hS.dfr.heap fun _ _ => rfl, fun n => (hS.slots n).mono (Env.le_refl E) hc, fun s => (hS.blk s).keep (Env.le_refl E) hc rfl rfl fun _ _ => rfl, hS.inj, hS.σok, ?_, hS.bas, hS.σin, hS.σout, fun q p v h => (hS.fr q p v h).mono (Env.only_le (Env.le_refl E) q) hc⟩
  exact ⟨hS.bel.os, hS.bel.tape, hS.bel.output, hS.bel.size, hS.bel.block⟩

theorem active_wanted {ops : Array Oper} (hS : SR E base w0 st a w) {o : Oper} {b : Bool} (h : active ops.toList st o = some b) : Region.wanted o (yielded ops a.tmps) = b := by
  unfold active at h
  cases hg : o.guard with
  | none => rw [hg] at h; simp at h; simp [Region.wanted, hg, h]
  | some jw =>
    obtain ⟨j, want⟩ := jw
    rw [hg] at h
    have hops : ops.toList[j]? = ops[j]? := by simp
    simp only [hops] at h
    cases hgd : (ops[j]?).bind Oper.dst with
    | none => simp [hgd] at h
    | some g =>
      simp only [hgd] at h
      have hsl := hS.slots g
      have hwant : ∀ b, yielded ops a.tmps j = b → Region.wanted o (yielded ops a.tmps) = (b == some want) := by intro b hb; simp [Region.wanted, hg, hb]
      cases hs : st.slots g with
      | tt =>
        rw [hs] at hsl h
        rw [hwant _ (yielded_bool hgd hsl.tt_inv)]
        simp at h; subst h; cases want <;> rfl
      | ff =>
        rw [hs] at hsl h
        rw [hwant _ (yielded_bool hgd hsl.ff_inv)]
        simp only [Option.some.injEq] at h; subst h; cases want <;> rfl
      | und =>
        rw [hs] at hsl h
        rw [hwant _ (yielded_und hgd hsl.und_inv)]
        simp at h; subst h; rfl
      | bool c =>
        rw [hs] at hsl h
        rw [hwant _ (yielded_bool hgd hsl.bool_inv)]
        simp at h; subst h; cases c <;> cases want <;> rfl
      | _ => rw [hs] at h; cases h

/-- One operation of such a region, whenever its turn comes. -/
theorem stepT_sound (hC : CtxOk P C) {ops : Array Oper} {Q : Exit → Act → World → Prop} (hS : SR E base w0 st a w) (hN : a.tmps.size = N) {i : Nat} {o : Oper} (hi : ops[i]? = some o) (hok : okOper N o = true) {t : Option Nat × Bool} {st1 : St}
    (h : StepT C ops.toList o st t st1) {next : Act → World → Prop} (hn : ∀ E' a' w', SR E' base w0 st1 a' w' → a'.tmps.size = N → next a' w') : wpOpIn (Fc r) 0 P ops Q i next a w := by
  unfold wpOpIn
  rw [hi]
  dsimp only
  rcases h with ⟨h1, h2, _, h4⟩ | ⟨h1, _, h3⟩
  · rw [if_pos (active_wanted hS h1)]
    refine in_of_wp (fun c hc => by rw [hc] at h2; simp [evalOp, R.bad] at h2) (op_sound hC hS (okOper_store hok) h2 next _ fun E' w' v hS' hv => ?_)
    refine hn E' _ w' ?_ (by rw [put_size, hN])
    rw [h4]
    exact hS'.put (by rw [hN]; exact okOper_dst hok) hv
  · rw [if_neg (by rw [active_wanted hS h1]; simp)]
    refine ⟨fun _ _ => trivial, ?_⟩
    refine hn E _ w ?_ (by rw [put_size, hN])
    rw [h3]
    exact hS.put (by rw [hN]; exact okOper_dst hok) (.pure .und)

theorem run_split {ops : List Oper} : ∀ (l1 : List (Nat × Oper)) (x : Nat × Oper) (l2 : List (Nat × Oper)) (tr : Trace) (st stf : St), RunT C ops (l1 ++ x :: l2) st tr stf →
    ∃ tr1 t tr2, tr = tr1 ++ (x.1, t) :: tr2 ∧ l1.length = tr1.length ∧ tr1.map (·.1) = l1.map (·.1)
  | [], (i, o), l2, [], st, stf, h => h.elim
  | [], (i, o), l2, (i', t) :: tr, st, stf, h => by
    obtain ⟨rfl, _⟩ := h
    exact ⟨[], t, tr, rfl, rfl, rfl⟩
  | (j, p) :: l1, x, l2, [], st, stf, h => h.elim
  | (j, p) :: l1, x, l2, (j', u) :: tr, st, stf, h => by
    obtain ⟨rfl, st1, _, hr⟩ := h
    obtain ⟨tr1, t, tr2, h1, h2, h3⟩ := run_split l1 x l2 tr st1 stf hr
    exact ⟨(j, u) :: tr1, t, tr2, by rw [h1]; rfl, by simp [h2], by simp [h3]⟩

/-- What is left of a region: its operations, and the marks of those that are done. -/
structure Left (ops : Array Oper) (l : List (Nat × Oper)) (listed : Array Bool) : Prop where
  sz : listed.size = ops.size
  mem : ∀ i, i < ops.size → (listed.getD i true = false ↔ ∃ o, (i, o) ∈ l)
  hops : ∀ x ∈ l, ops[x.1]? = some x.2
  sort : l.Pairwise (fun x y => x.1 < y.1)
  cl : ∀ m, m < ops.size → listed.getD m true = true → ∀ k, hasA (ancs ops.toList []) m k = true → listed.getD k true = true

theorem ready_spec (ops : Array Oper) (listed : Array Bool) (i : Nat) : i ∈ Region.ready .any ops listed ↔ i < ops.size ∧ listed.getD i true = false ∧ ∃ o, ops[i]? = some o ∧ ∀ k ∈ deps o, listed.getD k false = true := by
  simp only [Region.ready, List.mem_filter, List.mem_range, Bool.and_eq_true, Bool.not_eq_true']
  constructor
  · rintro ⟨h1, h2, h3⟩
    refine ⟨h1, h2, ?_⟩
    cases ho : ops[i]? with
    | none => simp [ho] at h3
    | some o =>
      simp only [ho, Option.map_some, Option.getD_some] at h3
      refine ⟨o, rfl, fun k hk => ?_⟩
      simp only [deps, List.mem_map, List.mem_filter] at hk
      obtain ⟨e, ⟨he, hb⟩, rfl⟩ := hk
      have := (Array.all_eq_true'.1 h3) e (by simpa using he)
      simpa [hb] using this
  · rintro ⟨h1, h2, o, ho, h3⟩
    refine ⟨h1, h2, ?_⟩
    simp only [ho, Option.map_some, Option.getD_some]
    refine Array.all_eq_true'.2 fun e he => ?_
    cases hb : Region.binds .any e with
    | false => rfl
    | true =>
      have := h3 e.on (by simp only [deps, List.mem_map, List.mem_filter]; exact ⟨e, ⟨by simpa using he, hb⟩, rfl⟩)
      simp [this]

theorem Left.first {ops : Array Oper} {x : Nat × Oper} {l : List (Nat × Oper)} {listed : Array Bool} (h : Left ops (x :: l) listed) (hfit : fitOps ops.toList = true) : x.1 ∈ Region.ready .any ops listed := by
  obtain ⟨i0, o0⟩ := x
  have hi0 := h.hops (i0, o0) (List.mem_cons_self ..)
  have hlt : i0 < ops.size := (Array.getElem?_eq_some_iff.1 hi0).1
  refine (ready_spec ops listed i0).2 ⟨hlt, (h.mem i0 hlt).2 ⟨o0, List.mem_cons_self ..⟩, o0, hi0, fun k hk => ?_⟩
  have hki := (fit_spec hfit (i := i0) (o := o0) (by simpa using hi0)).1 k hk
  have hk2 : k < ops.size := by omega
  have : listed.getD k true = true := by
    cases hb : listed.getD k true with
    | true => rfl
    | false =>
      obtain ⟨o, ho⟩ := (h.mem k hk2).1 hb
      exfalso
      rcases List.mem_cons.1 ho with h' | h'
      · cases h'; omega
      · have := (List.pairwise_cons.1 h.sort).1 _ h'
        simp only at this
        omega
  simpa [Array.getD, h.sz, hk2] using this

theorem Left.ancs_done {ops : Array Oper} {l : List (Nat × Oper)} {listed : Array Bool} (h : Left ops l listed) (hfit : fitOps ops.toList = true) {i : Nat} (hi : i ∈ Region.ready .any ops listed) :
    ∃ o, (i, o) ∈ l ∧ ops[i]? = some o ∧ ∀ k, hasA (ancs ops.toList []) i k = true → listed.getD k true = true := by
  obtain ⟨hlt, hfalse, o, ho, hdep⟩ := (ready_spec ops listed i).1 hi
  obtain ⟨o', ho'⟩ := (h.mem i hlt).1 hfalse
  have : o' = o := by have := h.hops _ ho'; simp only at this; rw [ho] at this; exact (Option.some.inj this).symm
  subst this
  have hdep' : ∀ k ∈ deps o', k < ops.size ∧ listed.getD k true = true := by
    intro k hk
    have := hdep k hk
    by_cases hks : k < listed.size
    · exact ⟨by have := h.sz; omega, by simpa [Array.getD, hks] using this⟩
    · simp [Array.getD, hks] at this
  refine ⟨o', ho', ho, fun k hk => ?_⟩
  have hfs := (fit_spec hfit (i := i) (o := o') (by simpa using ho)).1
  rcases ancs_at ops.toList [] i o' (by simpa using ho) (by simpa using hfs) k (by simpa using hk) with h' | ⟨m, hm, h'⟩
  · exact (hdep' k h').2
  · obtain ⟨g1, g2⟩ := hdep' m hm
    exact h.cl m g1 g2 k h'

theorem Left.done {ops : Array Oper} {l1 l2 : List (Nat × Oper)} {i : Nat} {o : Oper} {listed : Array Bool} (h : Left ops (l1 ++ (i, o) :: l2) listed) (hanc : ∀ k, hasA (ancs ops.toList []) i k = true → listed.getD k true = true) :
    Left ops (l1 ++ l2) (listed.setIfInBounds i true) := by
  have hset : ∀ k, (listed.setIfInBounds i true).getD k true = if k = i then true else listed.getD k true := by
    intro k
    by_cases hk : k < listed.size
    · by_cases hki : k = i
      · subst hki; simp [Array.getD, hk]
      · have hik : i ≠ k := fun e => hki e.symm
        simp [Array.getD, hk, hki, hik]
    · simp [Array.getD, hk]
  refine ⟨by simpa using h.sz, fun k hk => ?_, fun x hx => ?_, ?_, fun m hm hm2 k hk => ?_⟩
  · rw [hset]
    by_cases hki : k = i
    · subst hki
      simp only [if_pos, Bool.true_eq_false, false_iff]
      rintro ⟨p, hp⟩
      have hs := List.pairwise_append.1 h.sort
      rcases List.mem_append.1 hp with h' | h'
      · have := hs.2.2 _ h' (k, o) (List.mem_cons_self ..); simp only at this; omega
      · have := (List.pairwise_cons.1 hs.2.1).1 _ h'; simp only at this; omega
    · rw [if_neg hki, h.mem k hk]
      constructor
      · rintro ⟨p, hp⟩
        refine ⟨p, ?_⟩
        rcases List.mem_append.1 hp with h' | h'
        · exact List.mem_append_left _ h'
        · rcases List.mem_cons.1 h' with h' | h'
          · cases h'; exact (hki rfl).elim
          · exact List.mem_append_right _ h'
      · rintro ⟨p, hp⟩
        refine ⟨p, ?_⟩
        rcases List.mem_append.1 hp with h' | h'
        · exact List.mem_append_left _ h'
        · exact List.mem_append_right _ (List.mem_cons_of_mem _ h')
  · refine h.hops x ?_
    rcases List.mem_append.1 hx with h' | h'
    · exact List.mem_append_left _ h'
    · exact List.mem_append_right _ (List.mem_cons_of_mem _ h')
  · exact h.sort.sublist (List.Sublist.append (List.Sublist.refl _) (List.sublist_cons_self _ _))
  · rw [hset] at hm2 ⊢
    by_cases hki : k = i
    · rw [if_pos hki]
    · rw [if_neg hki]
      by_cases hmi : m = i
      · subst hmi; exact hanc k hk
      · rw [if_neg hmi] at hm2; exact h.cl m hm hm2 k hk

/-- A piece of the region, behind which all the rest must stand. -/
theorem wpAny_run (hC : CtxOk P C) {ops : Array Oper} {Q : Exit → Act → World → Prop} (hfit : fitOps ops.toList = true) (hok : ops.toList.all (okOper N) = true) (K : St → Prop) (rest : List (Nat × Oper))
    (hQ : ∀ E' st' a' w' listed', K st' → SR E' base w0 st' a' w' → a'.tmps.size = N → Left ops rest listed' → wpAnyIn (Fc r) 0 P .any ops Q rest.length listed' a' w') :
    ∀ (n : Nat) (l : List (Nat × Oper)) (listed : Array Bool) (tr : Trace) (st stf : St) (E : Env) (a : Act) (w : World), l.length = n → Left ops (l ++ rest) listed →
      (∀ y ∈ rest, ∀ x ∈ l, hasA (ancs ops.toList []) y.1 x.1 = true) →
      RunT C ops.toList l st tr stf → calm (ancs ops.toList []) tr = true → K stf → SR E base w0 st a w → a.tmps.size = N → wpAnyIn (Fc r) 0 P .any ops Q (n + rest.length) listed a w := by
  intro n
  induction n with
  | zero =>
    intro l listed tr st stf E a w hl hL hblk hr hcalm hK hS hN
    have hl0 : l = [] := List.eq_nil_of_length_eq_zero hl
    subst hl0
    cases tr with
    | cons _ _ => exact hr.elim
    | nil =>
      have e : st = stf := hr
      subst e
      rw [Nat.zero_add]
      exact hQ E st a w listed hK hS hN hL
  | succ n ih =>
    intro l listed tr st stf E a w hl hL hblk hr hcalm hK hS hN
    rw [Nat.succ_add]
    constructor
    · intro hemp
      exfalso
      match l, hl with
      | x :: l', _ =>
        have := hL.first hfit
        rw [hemp] at this
        simp at this
    · intro i hi
      obtain ⟨o', ho', ho, hanc⟩ := hL.ancs_done hfit hi
      obtain ⟨hlt, hfalse, _⟩ := (ready_spec ops listed i).1 hi
      have hin : (i, o') ∈ l := by
        rcases List.mem_append.1 ho' with h | h
        · exact h
        · exfalso
          match l, hl with
          | x :: l', _ =>
            have h1 := hanc _ (hblk _ h x (List.mem_cons_self ..))
            have h2 : x.1 < ops.size := (Array.getElem?_eq_some_iff.1 (hL.hops x (List.mem_cons_self ..))).1
            have := (hL.mem x.1 h2).2 ⟨x.2, List.mem_cons_self ..⟩
            rw [h1] at this
            cases this
      obtain ⟨l1, l2, rfl⟩ := List.append_of_mem hin
      have hL' : Left ops (l1 ++ (i, o') :: (l2 ++ rest)) listed := by simpa using hL
      obtain ⟨tr1, t, tr2, rfl, hlen, hfst⟩ := run_split l1 (i, o') l2 tr st stf hr
      obtain ⟨c1, c2⟩ := calm_mid tr1 i t tr2 hcalm
      have hun : ∀ x ∈ l1, x.1 < i ∧ listed.getD x.1 true = false := by
        intro x hx
        have hxi : x.1 < i := by
          have := (List.pairwise_append.1 hL'.sort).2.2 x hx (i, o') (List.mem_cons_self ..)
          exact this
        exact ⟨hxi, (hL'.mem x.1 (by omega)).2 ⟨x.2, List.mem_append_left _ hx⟩⟩
      have hnot : ∀ x ∈ l1, ¬ hasA (ancs ops.toList []) i x.1 = true := by
        intro x hx hk
        have := hanc _ hk
        rw [(hun x hx).2] at this
        cases this
      have hfront := run_front l1 tr1 l2 tr2 st stf hlen hr (fun x hx => by
          have hxo := hL'.hops x (List.mem_append_left _ hx)
          rcases (fit_spec hfit (i := i) (o := o') (by simpa using ho)).2 x.1 x.2 (hun x hx).1 (by simpa using hxo) with h | h
          · exact (hnot x hx h).elim
          · exact h) (fun x hx => by
          rcases c2 x hx with h | h
          · have : x.1 ∈ tr1.map (·.1) := List.mem_map_of_mem hx
            rw [hfst] at this
            obtain ⟨y, hy, hyx⟩ := List.mem_map.1 this
            exact (hnot y hy (by rw [hyx]; exact h)).elim
          · exact h)
      obtain ⟨_, st1, hstep, hrest⟩ := hfront
      have hoki : okOper N o' = true := by
        rw [List.all_eq_true] at hok
        exact hok o' (by have := List.mem_of_getElem? (show ops.toList[i]? = some o' by simpa using ho); exact this)
      refine stepT_sound hC hS hN ho hoki hstep fun E' a' w' hS' hN' => ?_
      refine ih (l1 ++ l2) (listed.setIfInBounds i true) (tr1 ++ tr2) st1 stf E' a' w' (by simp at hl ⊢; omega) (by simpa using hL'.done hanc) (fun y hy x hx => hblk y hy x ?_) hrest c1 hK hS' hN'
      rcases List.mem_append.1 hx with h | h
      · exact List.mem_append_left _ h
      · exact List.mem_append_right _ (List.mem_cons_of_mem _ h)

/-- An operation that has one place alone. -/
theorem cut_sound (hC : CtxOk P C) (hoff : w0.off = C.off) (hY : ∀ y, C.yld = some y → SoundY P base w0 y) {ops : Array Oper} {Q : Exit → Act → World → Prop} (hS : SR E base w0 st a w) (hN : a.tmps.size = N) {i : Nat} {o : Oper} (hi : ops[i]? = some o) (hok : okOper N o = true) {K : St → Prop}
    (h : evalOps C ops.toList [o] st K) {next : Act → World → Prop} (hn : ∀ E' st' a' w', K st' → SR E' base w0 st' a' w' → a'.tmps.size = N → next a' w') : wpOpIn (Fc r) 0 P ops Q i next a w := by
  have hops : ∀ j : Nat, ops.toList[j]? = ops[j]? := by simp
  have go : ∀ {st'}, SR E base w0 st' a w → run1 C st' o (fun st => evalOps C ops.toList [] st K) → Region.wanted o (yielded ops a.tmps) = true → wpOpIn (Fc r) 0 P ops Q i next a w := by
    intro st' hS' hr hw
    unfold wpOpIn
    rw [hi]
    dsimp only
    rw [if_pos hw]
    exact (run1_sound hC hoff hY hS' hN hok hr fun E' st' a' w' hk hS' hN' => hn E' st' a' w' hk hS' hN')
  have skip : ∀ {st'}, SR E base w0 st' a w → evalOps C ops.toList [] (st'.put o.dst .und) K → Region.wanted o (yielded ops a.tmps) = false → wpOpIn (Fc r) 0 P ops Q i next a w := by
    intro st' hS' hr hw
    unfold wpOpIn
    rw [hi]
    dsimp only
    rw [if_neg (by rw [hw]; simp)]
    exact ⟨fun _ _ => trivial, hn E _ _ w hr (hS'.put (by rw [hN]; exact okOper_dst hok) (.pure .und)) (by rw [put_size, hN])⟩
  simp only [evalOps, stepO] at h
  cases hg : o.guard with
  | none =>
    rw [hg] at h
    exact go hS h (by simp [Region.wanted, hg])
  | some jw =>
    obtain ⟨j, want⟩ := jw
    rw [hg] at h
    simp only [hops] at h
    cases hgd : (ops[j]?).bind Oper.dst with
    | none => rw [hgd] at h; exact h.elim
    | some g =>
      simp only [hgd] at h
      have hsl := hS.slots g
      have hwant : ∀ b, yielded ops a.tmps j = b → Region.wanted o (yielded ops a.tmps) = (b == some want) := by intro b hb; simp [Region.wanted, hg, hb]
      cases hs : st.slots g with
      | tt =>
        rw [hs] at hsl h
        have hy := hwant _ (yielded_bool hgd hsl.tt_inv)
        cases want with
        | true => exact go hS h (by rw [hy]; rfl)
        | false => exact skip hS h (by rw [hy]; rfl)
      | ff =>
        rw [hs] at hsl h
        have hy := hwant _ (yielded_bool hgd hsl.ff_inv)
        cases want with
        | true => exact skip hS h (by rw [hy]; rfl)
        | false => exact go hS h (by rw [hy]; rfl)
      | und =>
        rw [hs] at hsl h
        have hy := hwant _ (yielded_und hgd hsl.und_inv)
        exact skip hS h (by rw [hy]; rfl)
      | bool b =>
        rw [hs] at hsl h
        have hv := hsl.bool_inv
        have hy := hwant _ (yielded_bool hgd hv)
        by_cases hb : b = want
        · subst hb
          refine go (hS.set (g := g) ?_) (h.1 rfl) (by rw [hy]; simp)
          rw [hv]
          cases b
          · exact .pure .ff
          · exact .pure .tt
        · have hb' : b = !want := by cases b <;> cases want <;> simp_all
          refine skip (hS.set (g := g) ?_) (h.2 hb') (by rw [hy, hb']; cases want <;> rfl)
          rw [hv, hb']
          cases want
          · exact .pure .tt
          · exact .pure .ff
      | _ => rw [hs] at h; exact h.elim

theorem findCut_spec {an : List Nat} : ∀ (l pre p : List (Nat × Oper)) (x : Nat × Oper) (q : List (Nat × Oper)), findCut an pre l = some (p, x, q) → pre ++ l = p ++ x :: q ∧ cutOk an p x.1 q = true
  | [], pre, p, x, q, h => by cases h
  | y :: l, pre, p, x, q, h => by
    simp only [findCut] at h
    cases hb : isCall y.2.op && cutOk an pre y.1 l with
    | true =>
      rw [hb] at h
      simp only [cond_true, Option.some.injEq, Prod.mk.injEq] at h
      obtain ⟨rfl, rfl, rfl⟩ := h
      rw [Bool.and_eq_true] at hb
      exact ⟨rfl, hb.2⟩
    | false =>
      rw [hb] at h
      have := findCut_spec l (pre ++ [y]) p x q h
      exact ⟨by simpa using this.1, this.2⟩

theorem evalDs_sound' (hC : CtxOk P C) (hoff : w0.off = C.off) (hY : ∀ y, C.yld = some y → SoundY P base w0 y) {ops : Array Oper} {Q : Exit → Act → World → Prop} (hfit : fitOps ops.toList = true) (hok : ops.toList.all (okOper N) = true) (K : St → Prop)
    (hQ : ∀ E' st' a' w', K st' → SR E' base w0 st' a' w' → a'.tmps.size = N → Q .normal a' w') : ∀ (n : Nat) (l : List (Nat × Oper)) (listed : Array Bool) (st : St) (E : Env) (a : Act) (w : World), Left ops l listed →
      evalDs C ops.toList (ancs ops.toList []) n l st K → SR E base w0 st a w → a.tmps.size = N → wpAnyIn (Fc r) 0 P .any ops Q l.length listed a w := by
  have plain : ∀ (l : List (Nat × Oper)) (listed : Array Bool) (st : St) (E : Env) (a : Act) (w : World), Left ops l listed → evalD C ops.toList (ancs ops.toList []) l st [] K → SR E base w0 st a w → a.tmps.size = N → wpAnyIn (Fc r) 0 P .any ops Q l.length listed a w := by
    intro l listed st E a w hL h hS hN
    obtain ⟨tr, stf, h1, h2, h3⟩ := evalD_run _ _ _ _ h
    have := wpAny_run (r := r) hC hfit hok K [] (Q := Q) (fun E' st' a' w' listed' hk hS' hN' hL' => ⟨List.eq_nil_iff_forall_not_mem.2 fun i hi => by obtain ⟨o, ho, _⟩ := hL'.ancs_done hfit hi; simp at ho, hQ E' st' a' w' hk hS' hN'⟩)
      l.length l listed tr st stf E a w rfl (by simpa using hL) (by simp) h1 (calm_filter tr (by simpa using h2)) h3 hS hN
    simpa using this
  intro n
  induction n with
  | zero => intro l listed st E a w hL h hS hN; exact plain l listed st E a w hL h hS hN
  | succ n ih =>
    intro l listed st E a w hL h hS hN
    simp only [evalDs] at h
    cases hf : findCut (ancs ops.toList []) [] l with
    | none => rw [hf] at h; exact plain l listed st E a w hL h hS hN
    | some y =>
      obtain ⟨p, x, q⟩ := y
      rw [hf] at h
      simp only at h
      obtain ⟨e, hcut⟩ := findCut_spec l [] p x q hf
      rw [List.nil_append] at e
      subst e
      simp only [cutOk, Bool.and_eq_true, List.all_eq_true] at hcut
      obtain ⟨tr, stf, h1, h2, h3⟩ := evalD_run _ _ _ _ h
      have := wpAny_run (r := r) hC hfit hok (fun st => evalOps C ops.toList [x.2] st fun st => evalDs C ops.toList (ancs ops.toList []) n q st K) (x :: q) (Q := Q) (fun E' st' a' w' listed' hk hS' hN' hL' => ?_) p.length p listed tr st stf E a w rfl hL (fun y hy z hz => ?_) h1 (calm_filter tr (by simpa using h2)) h3 hS hN
      · simpa using this
      · have hfirst := hL'.first hfit
        refine ⟨fun hemp => (by rw [hemp] at hfirst; simp at hfirst), fun i hi => ?_⟩
        obtain ⟨o, ho, hoi, hanc⟩ := hL'.ancs_done hfit hi
        have hix : (i, o) = x := by
          rcases List.mem_cons.1 ho with h' | h'
          · exact h'
          · exfalso
            have h5 := hanc _ (hcut.2 _ h').1
            have h6 : x.1 < ops.size := (Array.getElem?_eq_some_iff.1 (hL'.hops x (List.mem_cons_self ..))).1
            have := (hL'.mem x.1 h6).2 ⟨x.2, List.mem_cons_self ..⟩
            rw [h5] at this
            cases this
        subst hix
        have hoki : okOper N o = true := by
          rw [List.all_eq_true] at hok
          exact hok o (by have := List.mem_of_getElem? (show ops.toList[i]? = some o by simpa using hoi); exact this)
        refine cut_sound hC hoff hY hS' hN' hoi hoki hk fun E2 st2 a2 w2 hk2 hS2 hN2 => ?_
        exact ih q _ st2 E2 a2 w2 (by simpa using Left.done (l1 := []) hL' hanc) hk2 hS2 hN2
      · rcases List.mem_cons.1 hy with rfl | h'
        · exact hcut.1 z hz
        · exact (hcut.2 y h').2 z hz

theorem left_all (ops : Array Oper) : Left ops (ops.toList.zipIdx.map fun (o, i) => (i, o)) (Array.replicate ops.size false) := by
  have hmem : ∀ (i : Nat) (o : Oper), (i, o) ∈ ops.toList.zipIdx.map (fun (o, i) => (i, o)) ↔ ops[i]? = some o := by
    intro i o
    simp only [List.mem_map, Prod.exists, Prod.mk.injEq]
    constructor
    · rintro ⟨o', i', hx, rfl, rfl⟩
      simpa using List.mem_zipIdx_iff_getElem?.1 hx
    · intro hx
      exact ⟨o, i, List.mem_zipIdx_iff_getElem?.2 (by simpa using hx), rfl, rfl⟩
  refine ⟨by simp, fun i hi => ?_, fun x hx => (hmem x.1 x.2).1 hx, ?_, fun m hm hm2 => ?_⟩
  · simp only [Array.getD, Array.size_replicate, hi, dif_pos]
    simp only [hmem]
    simp [hi]
  · rw [List.pairwise_map]
    rw [List.pairwise_iff_getElem]
    intro i j hi hj hij
    simp
    exact hij
  · simp [Array.getD, hm] at hm2

/-- A region whose order is open. -/
theorem evalDs_sound (hC : CtxOk P C) (hoff : w0.off = C.off) (hY : ∀ y, C.yld = some y → SoundY P base w0 y) (hm : P.follows .mixedOrders = true) {id : Nat} {ops : Array Oper} {Q : Exit → Act → World → Prop} (hS : SR E base w0 st a w) (hN : a.tmps.size = N) (hfit : fitOps ops.toList = true) (hok : ops.toList.all (okOper N) = true) {K : St → Prop}
    (h : evalDs C ops.toList (ancs ops.toList []) ops.toList.length (ops.toList.zipIdx.map fun (o, i) => (i, o)) st K) (hQ : ∀ E' st' a' w', K st' → SR E' base w0 st' a' w' → a'.tmps.size = N → Q .normal a' w') : (Code.region id ops true).wpIn (Fc r) 0 P Q a w := by
  refine wpIn_region_any hm ?_
  have hmem : ∀ (i : Nat) (o : Oper), (i, o) ∈ ops.toList.zipIdx.map (fun (o, i) => (i, o)) ↔ ops[i]? = some o := by
    intro i o
    simp only [List.mem_map, Prod.exists, Prod.mk.injEq]
    constructor
    · rintro ⟨o', i', hx, rfl, rfl⟩
      simpa using List.mem_zipIdx_iff_getElem?.1 hx
    · intro hx
      exact ⟨o, i, List.mem_zipIdx_iff_getElem?.2 (by simpa using hx), rfl, rfl⟩
  have hL : Left ops (ops.toList.zipIdx.map fun (o, i) => (i, o)) (Array.replicate ops.size false) := by
    refine ⟨by simp, fun i hi => ?_, fun x hx => (hmem x.1 x.2).1 hx, ?_, fun m hm hm2 => ?_⟩
    · simp only [Array.getD, Array.size_replicate, hi, dif_pos]
      simp only [hmem]
      simp [hi]
    · rw [List.pairwise_map]
      rw [List.pairwise_iff_getElem]
      intro i j hi hj hij
      simp
      exact hij
    · simp [Array.getD, hm] at hm2
  have := evalDs_sound' (r := r) hC hoff hY hfit hok K hQ ops.toList.length _ _ st E a _ hL h (hS.drawn (w.drawn + 1)) hN
  simpa using this

end
end Go.V
