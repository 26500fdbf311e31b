/- Part 7b: ways that guards open, told as one. -/
import Derived.Test.YtiidjohhcappdaaVj
namespace Go.V

theorem beqB_eq {a b : Bool} : beqB a b = true ↔ a = b := by cases a <;> cases b <;> simp [beqB]
theorem underL_iff : ∀ {ls : Lits} {p : Prop}, underL ls p ↔ (litsP ls → p)
  | [], p => by simp [underL, litsP]
  | (g, w, b) :: r, p => by
    simp only [underL, litsP, underL_iff (ls := r)]
    exact ⟨fun h h' => h h'.2 h'.1, fun h h1 h2 => h ⟨h2, h1⟩⟩

/-- Each slot of the guards holds what is said, where the guards before it are met. -/
def LitOk (s : Nat → PV) : Lits → Prop
  | [] => True
  | (g, _, b) :: r => LitOk s r ∧ (litsP r → s g = .bool b)

theorem lit_mem {s : Nat → PV} : ∀ {ls : Lits}, LitOk s ls → litsP ls → ∀ y ∈ ls, y.2.2 = y.2.1 ∧ s y.1 = .bool y.2.2
  | [], _, _, y, hy => by simp at hy
  | (g, w, b) :: r, ⟨h1, h2⟩, ⟨h3, h4⟩, y, hy => by
    rcases List.mem_cons.1 hy with rfl | hy
    · exact ⟨h3, h2 h4⟩
    · exact lit_mem h1 h4 y hy

theorem sub_ok {s : Nat → PV} {l2 : Lits} (h2 : LitOk s l2) (hp : litsP l2) : ∀ {l1 : Lits}, LitOk s l1 → subL l1 l2 = true → litsP l1
  | [], _, _ => trivial
  | (g, w, b) :: r, ⟨h1, h3⟩, hs => by
    simp only [subL, List.all_cons, Bool.and_eq_true] at hs
    have hr : litsP r := sub_ok h2 hp h1 hs.2
    refine ⟨?_, hr⟩
    have hb := h3 hr
    obtain ⟨y, hy, hq⟩ := List.any_eq_true.1 hs.1
    rw [Bool.and_eq_true, beqB_eq] at hq
    have e1 : g = y.1 := Nat.eq_of_beq_eq_true hq.1
    have e2 : w = y.2.1 := hq.2
    obtain ⟨g1, g2⟩ := lit_mem h2 hp y hy
    rw [← e1, hb] at g2
    cases g2
    rw [e2]
    exact g1

/-- The state as it truly is. -/
structure Real (r st : St) (sh : ShM) : Prop where
  bl : r.blocks = st.blocks
  out : ∀ n, look sh n = none → r.slots n = st.slots n
  yes : ∀ n ls v, look sh n = some (ls, v) → litsP ls → r.slots n = v
  no : ∀ n ls v, look sh n = some (ls, v) → ¬ litsP ls → r.slots n = .und
  jnk : ∀ n ls v, look sh n = some (ls, v) → st.slots n = .junk
  lit : ∀ x ∈ sh, LitOk r.slots x.2.1

theorem look_mem {α : Type} : ∀ {l : List (Nat × α)} {n : Nat} {a : α}, look l n = some a → (n, a) ∈ l
  | [], n, a, h => by cases h
  | (m, b) :: l, n, a, h => by
    simp only [look] at h
    cases hb : Nat.beq m n with
    | true =>
      rw [hb] at h
      obtain rfl := Nat.eq_of_beq_eq_true hb
      simp at h
      subst h
      exact List.mem_cons_self ..
    | false =>
      rw [hb] at h
      exact List.mem_cons_of_mem _ (look_mem h)

theorem Real.lits {r st : St} {sh : ShM} (h : Real r st sh) {n : Nat} {ls : Lits} {v : PV} (hl : look sh n = some (ls, v)) : LitOk r.slots ls := h.lit _ (look_mem hl)

theorem seen_real {r st : St} {sh : ShM} (h : Real r st sh) {ls : Lits} (hl : LitOk r.slots ls) (hp : litsP ls) {x : Operand} (hv : visX sh ls x = true) : ev (seen st sh ls) x = ev r.slots x := by
  cases x with
  | tmp t =>
    simp only [visX, tmpOf] at hv
    simp only [ev, seen]
    cases hs : look sh t with
    | none => exact (h.out t hs).symm
    | some y =>
      obtain ⟨l2, v⟩ := y
      rw [hs] at hv
      have hv : subL l2 ls = true := hv
      simp only [hv, cond_true]
      exact (h.yes t l2 v hs (sub_ok hl hp (h.lits hs) hv)).symm
  | _ => rfl

theorem fresh_spec {sh : ShM} {ls : Lits} {d : Nat} (h : freshM sh ls d = true) : look sh d = none ∧ (∀ x ∈ sh, x.1 ≠ d ∧ ∀ y ∈ x.2.1, y.1 ≠ d) ∧ ∀ y ∈ ls, y.1 ≠ d := by
  simp only [freshM, Bool.and_eq_true, Bool.not_eq_true'] at h
  have h1 : ∀ x ∈ sh, x.1 ≠ d ∧ ∀ y ∈ x.2.1, y.1 ≠ d := by
    intro x hx
    have := List.any_eq_false.1 h.1 x hx
    simp only [Bool.or_eq_true, not_or, Bool.not_eq_true] at this
    refine ⟨fun e => ?_, fun y hy e => ?_⟩
    · rw [e] at this; simp at this
    · have := List.any_eq_false.1 this.2 y hy
      rw [e] at this; simp at this
  refine ⟨?_, h1, fun y hy e => ?_⟩
  · cases hl : look sh d with
    | none => rfl
    | some a => exact ((h1 _ (look_mem hl)).1 rfl).elim
  · have := List.any_eq_false.1 h.2 y hy
    rw [e] at this; simp at this

theorem LitOk.congr {s s' : Nat → PV} : ∀ {ls : Lits}, LitOk s ls → (∀ y ∈ ls, s' y.1 = s y.1) → LitOk s' ls
  | [], _, _ => trivial
  | (g, w, b) :: r, ⟨h1, h2⟩, h => ⟨h1.congr fun y hy => h y (List.mem_cons_of_mem _ hy), fun hp => by rw [h (g, w, b) (List.mem_cons_self ..)]; exact h2 hp⟩

theorem upd_get {α : Type} (f : Nat → α) (d n : Nat) (v : α) : upd f d v n = if n = d then v else f n := by
  by_cases h : n = d
  · subst h; simp [upd]
  · rw [if_neg h]
    simp only [upd]
    have : Nat.beq n d = false := by
      rw [Bool.eq_false_iff]
      exact fun e => h (Nat.eq_of_beq_eq_true e)
    rw [this]; rfl

/-- A slot is filled, in both. -/
theorem Real.put {r st : St} {sh : ShM} (h : Real r st sh) {bl bl' : Nat → Blk} (hb : bl = bl') {d : Option Nat} {v : PV} (hf : (!d.any fun d => !freshM sh [] d) = true) :
    Real (St.put { slots := r.slots, blocks := bl } d v) (St.put { slots := st.slots, blocks := bl' } d v) sh := by
  subst hb
  cases d with
  | none => exact ⟨rfl, h.out, h.yes, h.no, h.jnk, h.lit⟩
  | some d =>
    have hf : freshM sh [] d = true := by simpa using hf
    obtain ⟨h1, h2, _⟩ := fresh_spec hf
    have hne : ∀ n y, look sh n = some y → n ≠ d := by
      rintro n y hy rfl
      rw [h1] at hy; cases hy
    refine ⟨rfl, fun n hn => ?_, fun n ls u hl hp => ?_, fun n ls u hl hp => ?_, fun n ls u hl => ?_, fun x hx => ?_⟩
    · simp only [St.put, upd_get]
      split
      · rfl
      · exact h.out n hn
    · simp only [St.put, upd_get, if_neg (hne n _ hl)]; exact h.yes n ls u hl hp
    · simp only [St.put, upd_get, if_neg (hne n _ hl)]; exact h.no n ls u hl hp
    · simp only [St.put, upd_get, if_neg (hne n _ hl)]; exact h.jnk n ls u hl
    · exact (h.lit x hx).congr fun y hy => by simp only [St.put, upd_get, if_neg ((h2 x hx).2 y hy)]

/-- A slot is filled under guards. -/
theorem Real.shade {r st : St} {sh : ShM} (h : Real r st sh) {ls : Lits} (hl : LitOk r.slots ls) {d : Nat} {v u : PV} (hf : freshM sh ls d = true) (h1 : litsP ls → u = v) (h2 : ¬ litsP ls → u = .und) :
    Real (St.put { slots := r.slots, blocks := r.blocks } (some d) u) (st.put (some d) .junk) ((d, ls, v) :: sh) := by
  obtain ⟨g1, g2, g3⟩ := fresh_spec hf
  have hlk : ∀ n, look ((d, ls, v) :: sh) n = if n = d then some (ls, v) else look sh n := by
    intro n
    simp only [look]
    by_cases hn : n = d
    · subst hn; simp
    · rw [if_neg hn]
      have : Nat.beq d n = false := by
        rw [Bool.eq_false_iff]
        exact fun e => hn (Nat.eq_of_beq_eq_true e).symm
      rw [this]; rfl
  have hcong : ∀ {l2 : Lits}, LitOk r.slots l2 → (∀ y ∈ l2, y.1 ≠ d) → LitOk (upd r.slots d u) l2 := fun hl hne => hl.congr fun y hy => by rw [upd_get, if_neg (hne y hy)]
  refine ⟨h.bl, fun n hn => ?_, fun n l2 u' hk hp => ?_, fun n l2 u' hk hp => ?_, fun n l2 u' hk => ?_, fun x hx => ?_⟩
  · rw [hlk] at hn
    split at hn
    · cases hn
    · rename_i hnd
      simp only [St.put, upd_get, if_neg hnd]
      exact h.out n hn
  · rw [hlk] at hk
    simp only [St.put, upd_get]
    split at hk
    · rename_i hnd
      cases hk
      rw [if_pos hnd]
      exact h1 hp
    · rename_i hnd
      rw [if_neg hnd]
      exact h.yes n l2 u' hk hp
  · rw [hlk] at hk
    simp only [St.put, upd_get]
    split at hk
    · rename_i hnd
      cases hk
      rw [if_pos hnd]
      exact h2 hp
    · rename_i hnd
      rw [if_neg hnd]
      exact h.no n l2 u' hk hp
  · rw [hlk] at hk
    simp only [St.put, upd_get]
    split at hk
    · rename_i hnd
      rw [if_pos hnd]
    · rename_i hnd
      rw [if_neg hnd]
      exact h.jnk n l2 u' hk
  · rcases List.mem_cons.1 hx with rfl | hx
    · exact hcong hl g3
    · exact hcong (h.lit x hx) (g2 x hx).2

theorem calm_sub {an : List Nat} : ∀ {a b : Trace}, List.Sublist a b → calm an b = true → calm an a = true
  | _, _, .slnil, _ => rfl
  | _, _, .cons x hs, h => by
    simp only [calm, Bool.and_eq_true] at h
    exact calm_sub hs h.2
  | _, _, .cons_cons x hs, h => by
    simp only [calm, Bool.and_eq_true, List.all_eq_true] at h ⊢
    exact ⟨fun y hy => h.1 y (hs.subset hy), calm_sub hs h.2⟩

section
variable {C : Ctx}

theorem touch_seen {r st : St} {sh : ShM} {ls : Lits} {d : Nat} {op : Op} (h : Real r st sh) (hl : LitOk r.slots ls) (hp : litsP ls) (hv : op.operands.toList.all (visX sh ls) = true) : touch (ev (seen st sh ls)) d op = touch (ev r.slots) d op := by
  refine touch_congr fun x hx => ?_
  rw [List.all_eq_true] at hv
  exact seen_real h hl hp (hv x hx)

theorem und_bool {r st : St} {sh : ShM} (h : Real r st sh) {ls : Lits} {g : Nat} {bc w : Bool} {x : Operand} (hv : visX sh ((g, w, bc) :: ls) x = true) {y : Bool} (hy : boolOf (ev (seen st sh ((g, w, bc) :: ls)) x) = some y) :
    boolOf (ev r.slots x) = none ∨ boolOf (ev r.slots x) = some y := by
  cases x with
  | tmp t =>
    simp only [visX, tmpOf] at hv
    simp only [ev, seen] at hy ⊢
    cases hs : look sh t with
    | none => rw [hs] at hy; rw [h.out t hs]; exact .inr hy
    | some z =>
      obtain ⟨l2, v⟩ := z
      rw [hs] at hv hy
      have hv : subL l2 ((g, w, bc) :: ls) = true := hv
      simp only [hv, cond_true] at hy
      by_cases hl2 : litsP l2
      · rw [h.yes t l2 v hs hl2]; exact .inr hy
      · rw [h.no t l2 v hs hl2]; exact .inl rfl
  | _ => exact .inr hy

/-- What an operation gives under guards that are met, it gives in truth. -/
theorem opM_ok {r st : St} {sh : ShM} {ls : Lits} {d ty : Nat} {op : Op} (h : Real r st sh) (hl : LitOk r.slots ls) (hp : litsP ls) (hpre : (opM C st sh ls d ty op).pre.getD True) :
    (evalOp C (ev r.slots) r.blocks d ty op).pre.getD True ∧ (evalOp C (ev r.slots) r.blocks d ty op).val = (opM C st sh ls d ty op).val ∧ (evalOp C (ev r.slots) r.blocks d ty op).upd = (opM C st sh ls d ty op).upd ∧
    touch (ev (seen st sh ls)) d op = touch (ev r.slots) d op := by
  by_cases hpk : ∃ c a b, op = .pick c a b
  · obtain ⟨c, a, b, rfl⟩ := hpk
    refine (fun h : _ ∧ _ ∧ _ => ⟨h.1, h.2.1, h.2.2, rfl⟩) ?_
    simp only [opM] at hpre ⊢
    cases hvc : visX sh ls c with
    | false => rw [hvc] at hpre; exact hpre.elim
    | true =>
      rw [hvc] at hpre
      simp only [cond_true] at hpre ⊢
      have ec := seen_real h hl hp hvc
      simp only [evalOp]
      rw [← ec]
      cases hc : ev (seen st sh ls) c with
      | tt =>
        rw [hc] at hpre
        simp only at hpre ⊢
        cases hva : visX sh ls a with
        | false => rw [hva] at hpre; exact hpre.elim
        | true => simp only [cond_true, R.ok, seen_real h hl hp hva]; simp
      | ff =>
        rw [hc] at hpre
        simp only at hpre ⊢
        cases hvb : visX sh ls b with
        | false => rw [hvb] at hpre; exact hpre.elim
        | true => simp only [cond_true, R.ok, seen_real h hl hp hvb]; simp
      | bool bc =>
        rw [hc] at hpre
        simp only at hpre ⊢
        cases ht : tmpOf c with
        | none => rw [ht] at hpre; exact hpre.elim
        | some g =>
          rw [ht] at hpre
          simp only at hpre ⊢
          have hcg : c = .tmp g := by cases c <;> simp [tmpOf] at ht; subst ht; rfl
          have hg : r.slots g = .bool bc := by rw [hc, hcg] at ec; exact ec.symm
          cases hv : visX sh ((g, true, bc) :: ls) a && visX sh ((g, false, bc) :: ls) b with
          | false => rw [hv] at hpre; exact hpre.elim
          | true =>
            rw [hv] at hpre
            rw [Bool.and_eq_true] at hv
            simp only [cond_true] at hpre ⊢
            cases h1 : boolOf (ev (seen st sh ((g, true, bc) :: ls)) a) with
            | none => rw [h1] at hpre; exact hpre.elim
            | some x =>
              cases h2 : boolOf (ev (seen st sh ((g, false, bc) :: ls)) b) with
              | none => rw [h1, h2] at hpre; exact hpre.elim
              | some y =>
                simp only [R.ok]
                cases bc with
                | true =>
                  have e1 := seen_real h (ls := (g, true, true) :: ls) ⟨hl, fun _ => hg⟩ ⟨rfl, hp⟩ hv.1
                  rw [e1] at h1
                  rcases und_bool h (w := false) hv.2 h2 with e2 | e2
                  · simp only [h1, e2]; simp
                  · simp only [h1, e2]; simp
                | false =>
                  have e1 := seen_real h (ls := (g, false, false) :: ls) ⟨hl, fun _ => hg⟩ ⟨rfl, hp⟩ hv.2
                  rw [e1] at h2
                  rcases und_bool h (w := true) hv.1 h1 with e2 | e2
                  · simp only [h2, e2]; simp
                  · simp only [h2, e2]; simp
      | _ => rw [hc] at hpre; exact hpre.elim
  · have hnp : ∀ c a b, op ≠ .pick c a b := fun c a b e => hpk ⟨c, a, b, e⟩
    have e : opM C st sh ls d ty op = bif op.operands.toList.all (visX sh ls) then evalOp C (ev (seen st sh ls)) st.blocks d ty op else .bad := by
      cases op with
      | pick c a b => exact (hnp c a b rfl).elim
      | _ => rfl
    rw [e] at hpre ⊢
    cases hv : op.operands.toList.all (visX sh ls) with
    | false => rw [hv] at hpre; exact hpre.elim
    | true =>
      rw [hv] at hpre
      simp only [cond_true] at hpre ⊢
      have hv' := hv
      rw [List.all_eq_true] at hv'
      have e2 : evalOp C (ev (seen st sh ls)) st.blocks d ty op = evalOp C (ev r.slots) r.blocks d ty op := evalOp_congr (fun x hx => seen_real h hl hp (hv' x hx)) fun s _ => by rw [h.bl]
      rw [e2] at hpre ⊢
      exact ⟨hpre, rfl, rfl, touch_seen h hl hp hv⟩
end
end Go.V
