/- Part 6: regions whose order is open: what no edge orders may change places. -/
import Derived.Test.YtiidjohhcappdaaVg
import Derived.Orders
namespace Go.V
open Go.RowKit (Below)

section
variable {C : Ctx}

theorem map_congr_ev {e e' : Operand → PV} : ∀ {l : List Operand}, (∀ x ∈ l, e x = e' x) → l.map e = l.map e'
  | [], _ => rfl
  | x :: l, h => by rw [List.map_cons, List.map_cons, h x (List.mem_cons_self ..), map_congr_ev fun y hy => h y (List.mem_cons_of_mem _ hy)]
theorem fillParts_congr {place : Nat → Option (Nat × Nat)} {e e' : Operand → PV} : ∀ (ps : List (Nat × Operand)) (l : List PV), (∀ p ∈ ps, e p.2 = e' p.2) → fillParts place e ps l = fillParts place e' ps l
  | [], _, _ => rfl
  | (i, x) :: ps, l, h => by
    have hx : e x = e' x := h (i, x) (List.mem_cons_self ..)
    have ih := fun l => fillParts_congr (place := place) (e := e) (e' := e') ps l fun p hp => h p (List.mem_cons_of_mem _ hp)
    simp only [fillParts, hx, ih]

theorem touch_congr {e e' : Operand → PV} {d : Nat} {op : Op} (h : ∀ x ∈ op.operands.toList, e x = e' x) : touch e d op = touch e' d op := by
  cases op with
  | load t x => simp only [touch, h x (by simp [Op.operands])]
  | store t x y => simp only [touch, h x (by simp [Op.operands])]
  | indexAddr t x i => simp only [touch, h x (by simp [Op.operands])]
  | call c =>
    obtain ⟨cal, args, ts⟩ := c
    cases cal with
    | builtin b =>
      cases b <;> try rfl
      simp only [touch]
      cases ha : args[0]? with
      | none => rfl
      | some x =>
        have : x ∈ args.toList := by
          obtain ⟨hlt, rfl⟩ := Array.getElem?_eq_some_iff.1 ha
          simp
        simp only [Option.map_some, h x (by simpa [Op.operands, Call.operands] using this)]
    | _ => rfl
  | _ => rfl

theorem evalOp_congr {e e' : Operand → PV} {bl bl' : Nat → Blk} {d ty : Nat} {op : Op} (h : ∀ x ∈ op.operands.toList, e x = e' x) (hb : ∀ s, touch e d op = some s → bl s = bl' s) :
    evalOp C e bl d ty op = evalOp C e' bl' d ty op := by
  cases op with
  | move x => simp only [evalOp, h x (by simp [Op.operands])]
  | assign x =>
    have := h x (by simp [Op.operands])
    cases hx : nilConst x with
    | true => simp only [evalOp, hx, cond_true, hb d (by simp [touch, hx])]
    | false => simp only [evalOp, hx, cond_false, this]
  | pick c x y => simp only [evalOp, h c (by simp [Op.operands]), h x (by simp [Op.operands]), h y (by simp [Op.operands])]
  | alloc t => simp only [evalOp, hb d rfl]
  | box t x => simp only [evalOp, hb d rfl, h x (by simp [Op.operands])]
  | build t ps =>
    have hp : ∀ p ∈ ps.toList, e p.2 = e' p.2 := fun p hp => h p.2 (by simpa [Op.operands] using ⟨p.1, by simpa using hp⟩)
    have hf := fun place l => fillParts_congr (place := place) (e := e) (e' := e') ps.toList l hp
    simp only [evalOp, hf]
  | buildSlice t n ps =>
    have hp : ∀ p ∈ ps.toList, e p.2 = e' p.2 := fun p hp => h p.2 (by simpa [Op.operands] using ⟨p.1, by simpa using hp⟩)
    have hf := fun place l => fillParts_congr (place := place) (e := e) (e' := e') ps.toList l hp
    simp only [evalOp, hf]
  | load t x =>
    have hx := h x (by simp [Op.operands])
    simp only [touch] at hb
    simp only [evalOp, ← hx]
    cases hv : e x with
    | ptr s off => simp only [hb s (by simp [hv])]
    | eptr s i off => simp only [hb s (by simp [hv])]
    | _ => rfl
  | store t x y =>
    have hx := h x (by simp [Op.operands])
    have hy := h y (by simp [Op.operands])
    simp only [touch] at hb
    simp only [evalOp, ← hx, ← hy]
    cases hv : e x with
    | ptr s off => simp only [hb s (by simp [hv])]
    | eptr s i off => simp only [hb s (by simp [hv])]
    | _ => rfl
  | nilCheck x => simp only [evalOp, h x (by simp [Op.operands])]
  | binOp op t x y u => simp only [evalOp, h x (by simp [Op.operands]), h y (by simp [Op.operands])]
  | unOp u t x => cases u <;> simp only [evalOp, h x (by simp [Op.operands])]
  | makeFunc f xs ys =>
    simp only [evalOp, map_congr_ev (l := xs.toList) (fun x hx => h x (by simp [Op.operands]; exact .inl (by simpa using hx))), map_congr_ev (l := ys.toList) (fun x hx => h x (by simp [Op.operands]; exact .inr (by simpa using hx)))]
  | makeSlice t x y => simp only [evalOp, h x (by simp [Op.operands]), h y (by simp [Op.operands]), hb d rfl]
  | slice t x lo hi mx =>
    cases mx with
    | some m => rfl
    | none =>
      have hlo : lo.map e = lo.map e' := by
        cases lo with
        | none => rfl
        | some l => simp only [Option.map_some, h l (by simp [Op.operands])]
      have hhi : hi.map e = hi.map e' := by
        cases hi with
        | none => rfl
        | some l => simp only [Option.map_some, h l (by cases lo <;> simp [Op.operands])]
      simp only [evalOp, h x (by simp [Op.operands]), hlo, hhi]
  | fieldAddr t x i => simp only [evalOp, h x (by simp [Op.operands])]
  | field t x i => simp only [evalOp, h x (by simp [Op.operands])]
  | indexAddr t x i =>
    have hx := h x (by simp [Op.operands])
    have hi := h i (by simp [Op.operands])
    simp only [touch] at hb
    simp only [evalOp, ← hx, ← hi]
    split
    · split
      · rfl
      · rename_i s len _ h2
        rw [hb s (by rw [h2])]
      · rfl
    · split <;> rfl
    · rfl
  | index t x i => simp only [evalOp, h x (by simp [Op.operands]), h i (by simp [Op.operands])]
  | convert u t x => simp only [evalOp, h x (by simp [Op.operands])]
  | extract x i => simp only [evalOp, h x (by simp [Op.operands])]
  | call c =>
    obtain ⟨cal, args, ts⟩ := c
    cases cal with
    | value f =>
      have hf := h f (by simp [Op.operands, Call.operands])
      have ha : args.toList.map e = args.toList.map e' := map_congr_ev fun x hx => h x (by simp [Op.operands, Call.operands]; exact .inr (by simpa using hx))
      simp only [evalOp, hf, ha]
    | invoke r m => rfl
    | builtin b =>
      have ha : args.toList.map e = args.toList.map e' := map_congr_ev fun x hx => h x (by simpa [Op.operands, Call.operands] using hx)
      cases b with
      | len =>
        have : args[0]?.map e = args[0]?.map e' := by
          cases h0 : args[0]? with
          | none => rfl
          | some x =>
            obtain ⟨hlt, rfl⟩ := Array.getElem?_eq_some_iff.1 h0
            simp only [Option.map_some, h args[0] (by simp [Op.operands, Call.operands])]
        simp only [evalOp, this]
      | max => simp only [evalOp, ha]
      | min => simp only [evalOp, ha]
      | append =>
        simp only [evalOp, ← ha]
        simp only [touch] at hb
        split
        · rename_i b tg n get' t t' hl _
          have h0 : args[0]?.map e = some b := by
            have : args.toList[0]?.map e = some b := by rw [← List.getElem?_map, hl]; rfl
            simpa using this
          rw [h0] at hb
          cases b with
          | nils => simp only [hb d rfl]
          | slice tag len get =>
            cases tag with
            | none => rfl
            | some s => simp only [hb s rfl]
          | _ => rfl
        · rfl
      | _ => rfl
  | _ => rfl


/-- What an operation writes is what it touches. -/
theorem upd_touch {e : Operand → PV} {bl : Nat → Blk} {d ty : Nat} {op : Op} {s : Nat} {B : Blk} (h : (evalOp C e bl d ty op).upd = some (s, B)) : touch e d op = some s ∧ touches op = true := by
  have no : ∀ {r : R}, r.upd = none → r.upd = some (s, B) → False := fun h1 h2 => by rw [h1] at h2; cases h2
  cases op with
  | alloc t =>
    simp only [evalOp] at h
    split at h
    · simp only [Option.some.injEq, Prod.mk.injEq] at h; exact ⟨by simp [touch, h.1], rfl⟩
    · cases h
  | box t x =>
    simp only [evalOp, cond_eq_ite] at h
    split at h
    · split at h
      · simp only [Option.some.injEq, Prod.mk.injEq] at h; exact ⟨by simp [touch, h.1], rfl⟩
      · cases h
    · cases h
  | makeSlice t x y =>
    simp only [evalOp, cond_eq_ite] at h
    split at h
    · split at h
      · split at h
        · simp only [Option.some.injEq, Prod.mk.injEq] at h; exact ⟨by simp [touch, h.1], rfl⟩
        · cases h
      · cases h
    · cases h
  | assign x =>
    simp only [evalOp] at h
    cases hx : nilConst x with
    | false => rw [hx] at h; cases h
    | true =>
      rw [hx] at h
      simp only [cond_true] at h
      simp only [cond_eq_ite] at h
      split at h
      · split at h
        · split at h
          · simp only [Option.some.injEq, Prod.mk.injEq] at h; exact ⟨by simp [touch, hx, h.1], by simp [touches, hx]⟩
          · cases h
        · cases h
      · cases h
  | store t x y =>
    simp only [evalOp, cond_eq_ite] at h
    split at h
    · split at h
      · split at h
        · rename_i hv
          split at h
          · split at h
            · simp only [Option.some.injEq, Prod.mk.injEq] at h; exact ⟨by simp [touch, hv, h.1], rfl⟩
            · cases h
          · cases h
        · rename_i hv
          split at h
          · split at h
            · simp only [Option.some.injEq, Prod.mk.injEq] at h; exact ⟨by simp [touch, hv, h.1], rfl⟩
            · cases h
          · cases h
        · cases h
      · cases h
    · cases h
  | pick c x y => simp only [evalOp] at h; (repeat' split at h) <;> cases h
  | build t ps => simp only [evalOp, cond_eq_ite] at h; (repeat' split at h) <;> cases h
  | buildSlice t n ps => simp only [evalOp, cond_eq_ite] at h; (repeat' split at h) <;> cases h
  | load t x => simp only [evalOp, cond_eq_ite] at h; (repeat' split at h) <;> cases h
  | nilCheck x => simp only [evalOp] at h; (repeat' split at h) <;> cases h
  | binOp op t x y u =>
    simp only [evalOp, cond_eq_ite] at h
    (repeat' split at h) <;> first | cases h | (cases op <;> cases h)
  | unOp u t x => cases u <;> simp only [evalOp] at h <;> first | cases h | ((repeat' split at h) <;> cases h)
  | slice t x lo hi mx =>
    cases mx with
    | some m => cases h
    | none => simp only [evalOp] at h; (repeat' split at h) <;> cases h
  | fieldAddr t x i => simp only [evalOp, cond_eq_ite] at h; (repeat' split at h) <;> cases h
  | field t x i => simp only [evalOp, cond_eq_ite] at h; (repeat' split at h) <;> cases h
  | indexAddr t x i => simp only [evalOp, cond_eq_ite] at h; (repeat' split at h) <;> cases h
  | index t x i => simp only [evalOp] at h; (repeat' split at h) <;> cases h
  | convert u t x => simp only [evalOp] at h; (repeat' split at h) <;> cases h
  | extract x i => simp only [evalOp] at h; (repeat' split at h) <;> cases h
  | call c =>
    obtain ⟨cal, args, ts⟩ := c
    cases cal with
    | value f => simp only [evalOp, cond_eq_ite] at h; (repeat' split at h) <;> cases h
    | invoke r m => cases h
    | builtin b =>
      cases b with
      | len => simp only [evalOp] at h; (repeat' split at h) <;> cases h
      | max => simp only [evalOp, cond_eq_ite] at h; (repeat' split at h) <;> cases h
      | min => simp only [evalOp, cond_eq_ite] at h; (repeat' split at h) <;> cases h
      | append =>
        simp only [evalOp, cond_eq_ite] at h
        split at h
        · rename_i b tg n get' t t' hl _
          have h0 : args[0]?.map e = some b := by
            have : args.toList[0]?.map e = some b := by rw [← List.getElem?_map, hl]; rfl
            simpa using this
          split at h
          · split at h
            · split at h
              · split at h
                · split at h
                  · split at h
                    · simp only [Option.some.injEq, Prod.mk.injEq] at h; exact ⟨by simp [touch, h0, h.1], rfl⟩
                    · cases h
                  · split at h
                    · split at h
                      · simp only [Option.some.injEq, Prod.mk.injEq] at h; exact ⟨by simp [touch, h0, h.1], rfl⟩
                      · cases h
                    · cases h
                  · cases h
                · cases h
              · cases h
            · cases h
          · cases h
        · cases h
      | _ => cases h
  | _ => cases h

def active (ops : List Oper) (st : St) (o : Oper) : Option Bool :=
  match o.guard with
  | none => some true
  | some (j, want) =>
    match (ops[j]?).bind Oper.dst with
    | none => none
    | some g =>
      match st.slots g with
      | .tt => some want
      | .ff => some (!want)
      | .und => some false
      | .bool b => some (b == want)
      | _ => none

/-- One operation of such a region: what it touches; the state behind it. -/
def StepT (C : Ctx) (ops : List Oper) (o : Oper) (st : St) (t : Option Nat × Bool) (st1 : St) : Prop :=
  (active ops st o = some true ∧ (evalOp C (ev st.slots) st.blocks (o.dst.getD 0 + C.off) o.type o.op).pre.getD True ∧ t = (touch (ev st.slots) (o.dst.getD 0 + C.off) o.op, touches o.op) ∧
    st1 = (st.setB (evalOp C (ev st.slots) st.blocks (o.dst.getD 0 + C.off) o.type o.op).upd).put o.dst (evalOp C (ev st.slots) st.blocks (o.dst.getD 0 + C.off) o.type o.op).val) ∨
  (active ops st o = some false ∧ t = (none, false) ∧ st1 = st.put o.dst .und)

def RunT (C : Ctx) (ops : List Oper) : List (Nat × Oper) → St → List (Nat × Option Nat × Bool) → St → Prop
  | [], st, [], stf => st = stf
  | (i, o) :: l, st, (i', t) :: tr, stf => i = i' ∧ ∃ st1, StepT C ops o st t st1 ∧ RunT C ops l st1 tr stf
  | _, _, _, _ => False

theorem run0_step {st : St} {o : Oper} {k : St → Prop} (h : run0 C st o k) : (evalOp C (ev st.slots) st.blocks (o.dst.getD 0 + C.off) o.type o.op).pre.getD True ∧
    k ((st.setB (evalOp C (ev st.slots) st.blocks (o.dst.getD 0 + C.off) o.type o.op).upd).put o.dst (evalOp C (ev st.slots) st.blocks (o.dst.getD 0 + C.off) o.type o.op).val) := by
  rw [run0_eq] at h
  unfold run1s at h
  dsimp only at h
  split at h
  · rename_i hp; exact ⟨by rw [hp]; trivial, h⟩
  · rename_i p hp; exact ⟨by rw [hp]; exact h.1, h.2⟩

theorem apart_none {t u : Option Nat × Bool} (h : t.1 = none ∨ u.1 = none) : apart t u = true := by
  unfold apart
  rcases h with h | h
  · rw [h]; simp
  · rw [h]; cases t.1 <;> simp
/-- What touches nothing is in nobody's way. -/
theorem calm_filter {an : List Nat} : ∀ (tr : Trace), calm an (tr.filter fun x => x.2.1.isSome) = true → calm an tr = true
  | [], _ => rfl
  | (i, t) :: r, h => by
    cases ht : t.1 with
    | none =>
      have h' : calm an (r.filter fun x => x.2.1.isSome) = true := by simpa [List.filter_cons, ht] using h
      simp only [calm, Bool.and_eq_true, List.all_eq_true]
      exact ⟨fun x _ => by rw [apart_none (.inl ht)]; rfl, calm_filter r h'⟩
    | some s =>
      have h' : calm an ((i, t) :: r.filter fun x => x.2.1.isSome) = true := by simpa [List.filter_cons, ht] using h
      simp only [calm, Bool.and_eq_true, List.all_eq_true] at h' ⊢
      refine ⟨fun x hx => ?_, calm_filter r h'.2⟩
      cases hu : x.2.1 with
      | none => rw [apart_none (.inr hu)]; rfl
      | some s' => exact h'.1 x (List.mem_filter.2 ⟨hx, by simp [hu]⟩)

theorem evalD_run {ops : List Oper} {an : List Nat} : ∀ (l : List (Nat × Oper)) (st : St) (tr : Trace) (k : St → Prop), evalD C ops an l st tr k →
    ∃ tr' stf, RunT C ops l st tr' stf ∧ calm an (tr ++ tr'.filter fun x => x.2.1.isSome) = true ∧ k stf
  | [], st, tr, k, h => ⟨[], st, rfl, by simpa using h.1, h.2⟩
  | (i, o) :: rest, st, tr, k, h => by
    have go : active ops st o = some true → (match touch (ev st.slots) (o.dst.getD 0 + C.off) o.op with
          | none => run0 C st o fun st' => evalD C ops an rest st' tr k
          | some s => run0 C st o fun st' => evalD C ops an rest st' (tr ++ [(i, some s, touches o.op)]) k) →
        ∃ tr' stf, RunT C ops ((i, o) :: rest) st tr' stf ∧ calm an (tr ++ tr'.filter fun x => x.2.1.isSome) = true ∧ k stf := by
      intro ha hr
      cases ht : touch (ev st.slots) (o.dst.getD 0 + C.off) o.op with
      | none =>
        rw [ht] at hr
        obtain ⟨h1, h2⟩ := run0_step hr
        obtain ⟨tr', stf, g1, g2, g3⟩ := evalD_run rest _ _ k h2
        exact ⟨(i, none, touches o.op) :: tr', stf, ⟨rfl, _, .inl ⟨ha, h1, by rw [ht], rfl⟩, g1⟩, by simpa [List.filter_cons] using g2, g3⟩
      | some s =>
        rw [ht] at hr
        obtain ⟨h1, h2⟩ := run0_step hr
        obtain ⟨tr', stf, g1, g2, g3⟩ := evalD_run rest _ _ k h2
        exact ⟨(i, some s, touches o.op) :: tr', stf, ⟨rfl, _, .inl ⟨ha, h1, by rw [ht], rfl⟩, g1⟩, by simpa [List.filter_cons] using g2, g3⟩
    have skip : active ops st o = some false → evalD C ops an rest (st.put o.dst .und) tr k → ∃ tr' stf, RunT C ops ((i, o) :: rest) st tr' stf ∧ calm an (tr ++ tr'.filter fun x => x.2.1.isSome) = true ∧ k stf := by
      intro ha hr
      obtain ⟨tr', stf, g1, g2, g3⟩ := evalD_run rest _ _ k hr
      exact ⟨(i, none, false) :: tr', stf, ⟨rfl, _, .inr ⟨ha, rfl, rfl⟩, g1⟩, by simpa [List.filter_cons] using g2, g3⟩
    simp only [evalD, stepD] at h
    cases hg : o.guard with
    | none => rw [hg] at h; exact go (by simp [active, hg]) h
    | some jw =>
      obtain ⟨j, want⟩ := jw
      rw [hg] at h
      cases hgd : (ops[j]?).bind Oper.dst with
      | none => simp only [hgd] at h
      | some g =>
        simp only [hgd] at h
        cases hs : st.slots g with
        | tt =>
          rw [hs] at h
          cases want with
          | true => exact go (by simp [active, hg, hgd, hs]) h
          | false => exact skip (by simp [active, hg, hgd, hs]) h
        | ff =>
          rw [hs] at h
          cases want with
          | true => exact skip (by simp [active, hg, hgd, hs]) h
          | false => exact go (by simp [active, hg, hgd, hs]) h
        | und => rw [hs] at h; exact skip (by simp [active, hg, hgd, hs]) h
        | bool b =>
          rw [hs] at h
          have hset : ∀ c, b = c → st.set g (.bool c) = st := by
            intro c hc
            have e : upd st.slots g (.bool c) = st.slots := by
              funext n
              by_cases hn : n = g
              · subst hn; rw [upd_same, hs, hc]
              · rw [upd_ne _ _ hn]
            show ({ slots := upd st.slots g (.bool c), blocks := st.blocks } : St) = st
            rw [e]
          by_cases hb : b = want
          · have h1 := h.1 hb
            rw [hset want hb] at h1
            exact go (by simp [active, hg, hgd, hs, hb]) h1
          · have hb' : b = !want := by cases b <;> cases want <;> simp_all
            have h1 := h.2 hb'
            rw [hset _ hb'] at h1
            exact skip (by simp [active, hg, hgd, hs, hb]) h1
        | _ => rw [hs] at h; exact h.elim

/-- After an operation whose slot another one does not read, that one's operands are as they were. -/
theorem ev_put {st : St} {bl : Nat → Blk} {dst : Option Nat} {v : PV} {x : Operand} (h : ∀ d, dst = some d → tmpOf x ≠ some d) : ev (St.put { slots := st.slots, blocks := bl } dst v).slots x = ev st.slots x := by
  cases x with
  | tmp t =>
    cases dst with
    | none => rfl
    | some d =>
      have : t ≠ d := fun e => h d rfl (by rw [← e]; rfl)
      exact upd_ne _ _ this
  | _ => rfl

theorem slotApart_spec {ops : List Oper} {a b : Oper} (h : slotApart ops a b = true) : (∀ d, a.dst = some d → d ∉ reads ops b) ∧ (∀ d, b.dst = some d → d ∉ reads ops a) ∧ ∀ d d', a.dst = some d → b.dst = some d' → d ≠ d' := by
  simp only [slotApart, Bool.and_eq_true] at h
  obtain ⟨⟨h1, h2⟩, h3⟩ := h
  refine ⟨fun d hd => ?_, fun d hd => ?_, fun d d' hd hd' e => ?_⟩
  · rw [hd] at h1; simpa using h1
  · rw [hd] at h2; simpa using h2
  · rw [hd, hd'] at h3; subst e; simp at h3

theorem active_put {ops : List Oper} {st : St} {bl : Nat → Blk} {dst : Option Nat} {v : PV} {o : Oper} (h : ∀ d, dst = some d → d ∉ reads ops o) : active ops (St.put { slots := st.slots, blocks := bl } dst v) o = active ops st o := by
  unfold active
  cases hg : o.guard with
  | none => rfl
  | some jw =>
    obtain ⟨j, want⟩ := jw
    dsimp only
    cases hgd : (ops[j]?).bind Oper.dst with
    | none => rfl
    | some g =>
      dsimp only
      have : (St.put { slots := st.slots, blocks := bl } dst v).slots g = st.slots g := by
        cases dst with
        | none => rfl
        | some d =>
          refine upd_ne _ _ ?_
          rintro rfl
          exact h g rfl (by simp [reads, hg, hgd])
      rw [this]


theorem put_put {st : St} {a b : Option Nat} {x y : PV} (h : ∀ d d', a = some d → b = some d' → d ≠ d') : ((st.put a x).put b y).slots = ((st.put b y).put a x).slots := by
  cases a with
  | none => rfl
  | some d =>
    cases b with
    | none => rfl
    | some d' =>
      have hne := h d d' rfl rfl
      funext n
      show upd (upd st.slots d x) d' y n = upd (upd st.slots d' y) d x n
      by_cases h1 : n = d'
      · subst h1
        rw [upd_same, upd_ne _ _ (Ne.symm hne), upd_same]
      · rw [upd_ne _ _ h1]
        by_cases h2 : n = d
        · subst h2; rw [upd_same, upd_same]
        · rw [upd_ne _ _ h2, upd_ne _ _ h2, upd_ne _ _ h1]

def updB (bl : Nat → Blk) : Option (Nat × Blk) → Nat → Blk
  | some (s, b) => upd bl s b
  | none => bl
theorem setB_eq (st : St) (u : Option (Nat × Blk)) : st.setB u = { slots := st.slots, blocks := updB st.blocks u } := by cases u <;> rfl
theorem put_slots (st : St) (bl : Nat → Blk) (d : Option Nat) (v : PV) : St.put { slots := st.slots, blocks := bl } d v = { slots := (st.put d v).slots, blocks := bl } := by cases d <;> rfl
theorem put_blocks (st : St) (d : Option Nat) (v : PV) : (st.put d v).blocks = st.blocks := by cases d <;> rfl
theorem updB_ne {bl : Nat → Blk} {u : Option (Nat × Blk)} {s : Nat} (h : ∀ s' B, u = some (s', B) → s' ≠ s) : updB bl u s = bl s := by
  cases u with
  | none => rfl
  | some x => exact upd_ne _ _ fun e => h x.1 x.2 rfl e.symm
theorem updB_updB {bl : Nat → Blk} {u u' : Option (Nat × Blk)} (h : ∀ s B s' B', u = some (s, B) → u' = some (s', B') → s ≠ s') : updB (updB bl u) u' = updB (updB bl u') u := by
  cases u with
  | none => rfl
  | some x =>
    cases u' with
    | none => rfl
    | some y =>
      have hne := h x.1 x.2 y.1 y.2 rfl rfl
      funext n
      show upd (upd bl x.1 x.2) y.1 y.2 n = upd (upd bl y.1 y.2) x.1 x.2 n
      by_cases h1 : n = y.1
      · subst h1
        rw [upd_same, upd_ne _ _ (Ne.symm hne), upd_same]
      · rw [upd_ne _ _ h1]
        by_cases h2 : n = x.1
        · subst h2; rw [upd_same, upd_same]
        · rw [upd_ne _ _ h2, upd_ne _ _ h2, upd_ne _ _ h1]

/-- What a step does to the slots and to the blocks, in one form. -/
theorem StepT.form {ops : List Oper} {o : Oper} {st st1 : St} {t : Option Nat × Bool} (h : StepT C ops o st t st1) :
    ∃ (v : PV) (u : Option (Nat × Blk)), st1 = { slots := (st.put o.dst v).slots, blocks := updB st.blocks u } ∧ (∀ s B, u = some (s, B) → t = (some s, true)) ∧
      ∀ (st' : St), active ops st' o = active ops st o → (∀ x ∈ o.op.operands.toList, ev st'.slots x = ev st.slots x) → (∀ s, t.1 = some s → st'.blocks s = st.blocks s) → StepT C ops o st' t { slots := (st'.put o.dst v).slots, blocks := updB st'.blocks u } := by
  rcases h with ⟨h1, h2, h3, h4⟩ | ⟨h1, h2, h3⟩
  · refine ⟨_, _, by rw [h4, setB_eq, put_slots], fun s B hu => ?_, fun st' g1 g2 g3 => ?_⟩
    · obtain ⟨k1, k2⟩ := upd_touch hu
      rw [h3, k1, k2]
    · have e1 : touch (ev st'.slots) (o.dst.getD 0 + C.off) o.op = touch (ev st.slots) (o.dst.getD 0 + C.off) o.op := touch_congr g2
      have e2 : evalOp C (ev st'.slots) st'.blocks (o.dst.getD 0 + C.off) o.type o.op = evalOp C (ev st.slots) st.blocks (o.dst.getD 0 + C.off) o.type o.op :=
        evalOp_congr g2 fun s hs => g3 s (by rw [h3]; rw [e1] at hs; exact hs)
      exact .inl ⟨g1.trans h1, by rw [e2]; exact h2, by rw [e1]; exact h3, by rw [e2, setB_eq]; exact (put_slots st' _ o.dst _).symm⟩
  · have hf : ∀ s : St, s.put o.dst .und = { slots := (s.put o.dst .und).slots, blocks := updB s.blocks none } := by
      intro s
      cases o.dst <;> rfl
    exact ⟨.und, none, h3.trans (hf st), (fun _ _ hu => nomatch hu), fun st' g1 _ _ => .inr ⟨g1.trans h1, h2, (hf st').symm⟩⟩

theorem apart_spec {t u : Option Nat × Bool} (h : apart t u = true) {s s' : Nat} (h1 : t.1 = some s) (h2 : u.1 = some s') (hw : t.2 = true ∨ u.2 = true) : s ≠ s' := by
  rintro rfl
  simp only [apart, h1, h2, Bool.or_eq_true, Bool.and_eq_true, Bool.not_eq_true'] at h
  rcases h with ⟨a, b⟩ | h
  · rcases hw with hw | hw
    · rw [hw] at a; cases a
    · rw [hw] at b; cases b
  · simp at h

/-- Two operations that share no slot and no block may change places. -/
theorem step_swap {ops : List Oper} {o p : Oper} {st st1 st2 : St} {t u : Option Nat × Bool} (hs : slotApart ops o p = true) (ha : apart t u = true) (h1 : StepT C ops o st t st1) (h2 : StepT C ops p st1 u st2) :
    ∃ st1', StepT C ops p st u st1' ∧ StepT C ops o st1' t st2 := by
  obtain ⟨k1, k2, k3⟩ := slotApart_spec hs
  obtain ⟨v, uo, e1, w1, f1⟩ := h1.form
  obtain ⟨v', up, e2, w2, f2⟩ := h2.form
  have r1 : ∀ x ∈ p.op.operands.toList, ∀ d, o.dst = some d → tmpOf x ≠ some d := by
    intro x hx d hd he
    exact k1 d hd (by simp only [reads, List.mem_append, List.mem_filterMap]; exact .inl ⟨x, hx, he⟩)
  have r2 : ∀ x ∈ o.op.operands.toList, ∀ d, p.dst = some d → tmpOf x ≠ some d := by
    intro x hx d hd he
    exact k2 d hd (by simp only [reads, List.mem_append, List.mem_filterMap]; exact .inl ⟨x, hx, he⟩)
  subst e1
  have g2 := f2 st (by rw [← put_slots]; exact (active_put (v := v) (bl := updB st.blocks uo) k1).symm) (fun x hx => by rw [← put_slots]; exact (ev_put (r1 x hx)).symm) (fun s hsu => by
    refine (updB_ne fun s' B hu => ?_).symm
    have := w1 s' B hu
    exact apart_spec ha (by rw [this]) hsu (.inl (by rw [this])))
  refine ⟨_, g2, ?_⟩
  have g1 := f1 { slots := (st.put p.dst v').slots, blocks := updB st.blocks up } (by rw [← put_slots]; exact active_put k2) (fun x hx => by rw [← put_slots]; exact ev_put (r2 x hx)) (fun s hst => by
    refine updB_ne fun s' B hu => ?_
    have := w2 s' B hu
    exact (apart_spec ha hst (by rw [this]) (.inr (by rw [this]))).symm)
  have e3 : st2 = { slots := (St.put { slots := (st.put p.dst v').slots, blocks := updB st.blocks up } o.dst v).slots, blocks := updB (updB st.blocks up) uo } := by
    rw [e2]
    have hb : updB (updB st.blocks uo) up = updB (updB st.blocks up) uo := updB_updB fun s B s' B' hu hu' => by
      have q1 := w1 s B hu
      have q2 := w2 s' B' hu'
      exact apart_spec ha (by rw [q1]) (by rw [q2]) (.inl (by rw [q1]))
    have hsl : (St.put { slots := (st.put o.dst v).slots, blocks := updB st.blocks uo } p.dst v').slots = (St.put { slots := (st.put p.dst v').slots, blocks := updB st.blocks up } o.dst v).slots := by
      have := put_put (st := st) (a := o.dst) (b := p.dst) (x := v) (y := v') k3
      have l1 : (St.put { slots := (st.put o.dst v).slots, blocks := updB st.blocks uo } p.dst v').slots = ((st.put o.dst v).put p.dst v').slots := by cases p.dst <;> rfl
      have l2 : (St.put { slots := (st.put p.dst v').slots, blocks := updB st.blocks up } o.dst v).slots = ((st.put p.dst v').put o.dst v).slots := by cases o.dst <;> rfl
      rw [l1, l2, this]
    rw [hsl, hb]
  rw [e3]
  exact g1

/-- An operation that nothing before it holds back may be brought to the front. -/
theorem run_front {ops : List Oper} {i : Nat} {o : Oper} {t : Option Nat × Bool} : ∀ (l1 : List (Nat × Oper)) (tr1 : Trace) (l2 : List (Nat × Oper)) (tr2 : Trace) (st stf : St), l1.length = tr1.length →
    RunT C ops (l1 ++ (i, o) :: l2) st (tr1 ++ (i, t) :: tr2) stf → (∀ k ∈ l1, slotApart ops k.2 o = true) → (∀ k ∈ tr1, apart k.2 t = true) → RunT C ops ((i, o) :: (l1 ++ l2)) st ((i, t) :: (tr1 ++ tr2)) stf
  | [], [], l2, tr2, st, stf, _, h, _, _ => h
  | (j, p) :: l1, (j', u) :: tr1, l2, tr2, st, stf, hl, h, h1, h2 => by
    obtain ⟨rfl, st1, hs, hr⟩ := h
    obtain ⟨_, st2, hs2, hr2⟩ := run_front l1 tr1 l2 tr2 st1 stf (by simpa using hl) hr (fun k hk => h1 k (List.mem_cons_of_mem _ hk)) (fun k hk => h2 k (List.mem_cons_of_mem _ hk))
    obtain ⟨st1', g1, g2⟩ := step_swap (h1 (j, p) (List.mem_cons_self ..)) (h2 (j, u) (List.mem_cons_self ..)) hs hs2
    exact ⟨rfl, st1', g1, rfl, st2, g2, hr2⟩
  | [], _ :: _, _, _, _, _, hl, _, _, _ => by simp at hl
  | _ :: _, [], _, _, _, _, hl, _, _, _ => by simp at hl

end
end Go.V
