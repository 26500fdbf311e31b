/- Part 7c: a run of the ways told as one is a run of each. -/
import Derived.Test.YtiidjohhcappdaaVr
namespace Go.V
open Go.RowKit (Below)

section
variable {C : Ctx}

noncomputable def litB (ls : Lits) : Bool := @decide (litsP ls) (Classical.propDecidable _)
theorem litB_t {ls : Lits} (h : litsP ls) : litB ls = true := @decide_eq_true _ (Classical.propDecidable _) h
theorem litB_f {ls : Lits} (h : ¬ litsP ls) : litB ls = false := @decide_eq_false _ (Classical.propDecidable _) h

theorem SLe_real {r st : St} {sh : ShM} (h : Real r st sh) : SLe r st := by
  refine ⟨fun n => ?_, fun s => by rw [h.bl]; exact .refl _⟩
  cases hl : look sh n with
  | none => rw [h.out n hl]; exact .refl _
  | some y => obtain ⟨ls, v⟩ := y; rw [h.jnk n ls v hl]; exact .junk _

theorem evalM_run {ops : List Oper} {an : List Nat} : ∀ (l : List (Nat × Oper)) (r st : St) (sh : ShM) (tr : Trace) (k : St → Prop), Real r st sh → evalM C ops an l st sh tr k →
    ∃ tr' stf full, RunT C ops l r tr' stf ∧ calm an full = true ∧ (tr ++ tr'.filter fun x => x.2.1.isSome).Sublist full ∧ ∃ st', SLe stf st' ∧ k st'
  | [], r, st, sh, tr, k, hR, h => ⟨[], r, tr, rfl, h.1, by simp, st, SLe_real hR, h.2⟩
  | (i, o) :: rest, r, st, sh, tr, k, hR, h => by
    have skip : active ops r o = some false → ((!o.dst.any fun d => !freshM sh [] d) = true ∧ evalM C ops an rest (st.put o.dst .und) sh tr k) →
        ∃ tr' stf full, RunT C ops ((i, o) :: rest) r tr' stf ∧ calm an full = true ∧ (tr ++ tr'.filter fun x => x.2.1.isSome).Sublist full ∧ ∃ st', SLe stf st' ∧ k st' := by
      rintro ha ⟨hf, hk⟩
      obtain ⟨tr', stf, full, g1, g2, g3, g4⟩ := evalM_run rest (r.put o.dst .und) (st.put o.dst .und) sh tr k (hR.put hR.bl hf) hk
      exact ⟨(i, none, false) :: tr', stf, full, ⟨rfl, _, .inr ⟨ha, rfl, rfl⟩, g1⟩, g2, by simpa [List.filter_cons] using g3, g4⟩
    have go : ∀ ls : Lits, LitOk r.slots ls → active ops r o = some (litB ls) →
        ((!o.dst.any fun d => !freshM sh ls d) = true ∧
        match ls, opM C st sh ls (o.dst.getD 0 + C.off) o.type o.op with
        | [], ⟨none, v, none⟩ => frc3 v fun v => evalM C ops an rest (st.put o.dst v) sh (match touch (ev (seen st sh ls)) (o.dst.getD 0 + C.off) o.op with | none => tr | some s => tr ++ [(i, some s, touches o.op)]) k
        | [], ⟨some p, v, none⟩ => p ∧ frc3 v fun v => evalM C ops an rest (st.put o.dst v) sh (match touch (ev (seen st sh ls)) (o.dst.getD 0 + C.off) o.op with | none => tr | some s => tr ++ [(i, some s, touches o.op)]) k
        | [], ⟨none, v, some (s, b)⟩ => frc3 v fun v => frcB b fun b => evalM C ops an rest (St.put { slots := st.slots, blocks := upd st.blocks s b } o.dst v) sh (match touch (ev (seen st sh ls)) (o.dst.getD 0 + C.off) o.op with | none => tr | some s => tr ++ [(i, some s, touches o.op)]) k
        | [], ⟨some p, v, some (s, b)⟩ => p ∧ frc3 v fun v => frcB b fun b => evalM C ops an rest (St.put { slots := st.slots, blocks := upd st.blocks s b } o.dst v) sh (match touch (ev (seen st sh ls)) (o.dst.getD 0 + C.off) o.op with | none => tr | some s => tr ++ [(i, some s, touches o.op)]) k
        | l :: ls', ⟨p, v, none⟩ =>
          match o.dst with
          | some d => (match p with | none => True | some p => underL (l :: ls') p) ∧ frc3 v fun v => evalM C ops an rest (st.put (some d) .junk) ((d, l :: ls', v) :: sh) (match touch (ev (seen st sh ls)) (o.dst.getD 0 + C.off) o.op with | none => tr | some s => tr ++ [(i, some s, touches o.op)]) k
          | none => False
        | _ :: _, ⟨_, _, some _⟩ => False) →
        ∃ tr' stf full, RunT C ops ((i, o) :: rest) r tr' stf ∧ calm an full = true ∧ (tr ++ tr'.filter fun x => x.2.1.isSome).Sublist full ∧ ∃ st', SLe stf st' ∧ k st' := by
      rintro ls hl ha ⟨hf, hm⟩
      -- what is behind it
      have fin : ∀ (st1 : St) (sh1 : ShM) (r1 : St) (ac : Bool), Real r1 st1 sh1 →
          evalM C ops an rest st1 sh1 (match touch (ev (seen st sh ls)) (o.dst.getD 0 + C.off) o.op with | none => tr | some s => tr ++ [(i, some s, touches o.op)]) k →
          (ac = true → StepT C ops o r (touch (ev (seen st sh ls)) (o.dst.getD 0 + C.off) o.op, touches o.op) r1) → (ac = false → StepT C ops o r (none, false) r1) →
          ∃ tr' stf full, RunT C ops ((i, o) :: rest) r tr' stf ∧ calm an full = true ∧ (tr ++ tr'.filter fun x => x.2.1.isSome).Sublist full ∧ ∃ st', SLe stf st' ∧ k st' := by
        intro st1 sh1 r1 ac hR1 hk h1 h2
        obtain ⟨tr', stf, full, g1, g2, g3, g4⟩ := evalM_run rest r1 st1 sh1 _ k hR1 hk
        cases ac with
        | true =>
          refine ⟨(i, touch (ev (seen st sh ls)) (o.dst.getD 0 + C.off) o.op, touches o.op) :: tr', stf, full, ⟨rfl, _, h1 rfl, g1⟩, g2, ?_, g4⟩
          cases ht : touch (ev (seen st sh ls)) (o.dst.getD 0 + C.off) o.op with
          | none => rw [ht] at g3; simpa [List.filter_cons] using g3
          | some s => rw [ht] at g3; simpa [List.filter_cons] using g3
        | false =>
          refine ⟨(i, none, false) :: tr', stf, full, ⟨rfl, _, h2 rfl, g1⟩, g2, ?_, g4⟩
          refine List.Sublist.trans ?_ g3
          simp only [List.filter_cons, Option.isSome_none, Bool.false_eq_true, if_false]
          cases touch (ev (seen st sh ls)) (o.dst.getD 0 + C.off) o.op with
          | none => exact .refl _
          | some s => exact List.Sublist.append (List.sublist_append_left _ _) (.refl _)
      cases ls with
      | nil =>
        have ha' : active ops r o = some true := by rw [ha, litB_t (ls := []) trivial]
        have key : (opM C st sh [] (o.dst.getD 0 + C.off) o.type o.op).pre.getD True → evalM C ops an rest ((st.setB (opM C st sh [] (o.dst.getD 0 + C.off) o.type o.op).upd).put o.dst (opM C st sh [] (o.dst.getD 0 + C.off) o.type o.op).val) sh (match touch (ev (seen st sh [])) (o.dst.getD 0 + C.off) o.op with | none => tr | some s => tr ++ [(i, some s, touches o.op)]) k →
            ∃ tr' stf full, RunT C ops ((i, o) :: rest) r tr' stf ∧ calm an full = true ∧ (tr ++ tr'.filter fun x => x.2.1.isSome).Sublist full ∧ ∃ st', SLe stf st' ∧ k st' := by
          intro hp hk
          obtain ⟨e1, e2, e3, e4⟩ := opM_ok (C := C) hR (ls := []) trivial trivial hp
          refine fin _ sh ((r.setB (opM C st sh [] (o.dst.getD 0 + C.off) o.type o.op).upd).put o.dst (opM C st sh [] (o.dst.getD 0 + C.off) o.type o.op).val) true ?_ hk (fun _ => .inl ⟨ha', e1, by rw [e4], by rw [e2, e3]⟩) (fun h => by cases h)
          rw [setB_eq, setB_eq]
          exact hR.put (by rw [hR.bl]) hf
        revert hm key
        generalize opM C st sh [] (o.dst.getD 0 + C.off) o.type o.op = R1
        obtain ⟨p, v, u⟩ := R1
        intro hm key
        cases p <;> cases u <;> simp only [frc3_eq, frcB_eq] at hm
        · exact key trivial hm
        · exact key trivial hm
        · exact key hm.1 hm.2
        · exact key hm.1 hm.2
      | cons l ls =>
        cases hR1 : opM C st sh (l :: ls) (o.dst.getD 0 + C.off) o.type o.op with
        | mk p v u =>
          rw [hR1] at hm
          cases u with
          | some u => exact hm.elim
          | none =>
            simp only at hm
            cases hd : o.dst with
            | none => rw [hd] at hm; exact hm.elim
            | some d =>
              have hf' : freshM sh (l :: ls) d = true := by rw [hd] at hf; simpa using hf
              rw [hd] at hm
              simp only [frc3_eq] at hm
              obtain ⟨hp, hk⟩ := hm
              by_cases hlp : litsP (l :: ls)
              · have hpre : (opM C st sh (l :: ls) (o.dst.getD 0 + C.off) o.type o.op).pre.getD True := by
                  rw [hR1]
                  cases p with
                  | none => trivial
                  | some p => exact underL_iff.1 hp hlp
                obtain ⟨e1, e2, e3, e4⟩ := opM_ok (C := C) hR hl hlp hpre
                rw [hR1] at e2 e3
                rw [litB_t hlp] at ha
                refine fin _ _ (St.put { slots := r.slots, blocks := r.blocks } (some d) v) true (hR.shade hl hf' (fun _ => rfl) fun h => (h hlp).elim) (by rw [hd]; exact hk) (fun _ => .inl ⟨ha, e1, by rw [e4], ?_⟩) (fun h => by cases h)
                rw [e2, e3, hd]
                rfl
              · rw [litB_f hlp] at ha
                refine fin _ _ (St.put { slots := r.slots, blocks := r.blocks } (some d) .und) false (hR.shade hl hf' (fun h => (hlp h).elim) fun _ => rfl) (by rw [hd]; exact hk) (fun h => by cases h) fun _ => .inr ⟨ha, rfl, ?_⟩
                rw [hd]
    simp only [evalM, stepM] at h
    cases hg : o.guard with
    | none =>
      rw [hg] at h
      exact go [] trivial (by rw [litB_t (ls := []) trivial]; simp [active, hg]) h
    | some jw =>
      obtain ⟨j, want⟩ := jw
      rw [hg] at h
      simp only at h
      cases hd : (ops[j]?).bind Oper.dst with
      | none => rw [hd] at h; exact h.elim
      | some g =>
        rw [hd] at h
        simp only at h
        have hact : active ops r o = match r.slots g with | .tt => some want | .ff => some (!want) | .und => some false | .bool b => some (b == want) | _ => none := by
          simp only [active, hg, hd]
          cases r.slots g <;> rfl
        cases hs : look sh g with
        | some y =>
          obtain ⟨l2, v⟩ := y
          rw [hs] at h
          cases v with
          | bool b =>
            simp only at h
            refine go ((g, want, b) :: l2) ⟨hR.lits hs, fun hp => hR.yes g l2 _ hs hp⟩ ?_ h
            rw [hact]
            by_cases hp : litsP l2
            · rw [hR.yes g l2 _ hs hp]
              by_cases hb : b = want
              · rw [litB_t (ls := (g, want, b) :: l2) ⟨hb, hp⟩]; simp [hb]
              · rw [litB_f (ls := (g, want, b) :: l2) fun h => hb h.1]; simp [hb]
            · rw [hR.no g l2 _ hs hp, litB_f (ls := (g, want, b) :: l2) fun h => hp h.2]
          | _ => exact h.elim
        | none =>
          rw [hs] at h
          simp only at h
          have hout := hR.out g hs
          rw [hout] at hact
          cases hv : st.slots g with
          | tt =>
            rw [hv] at h hact
            have hact : active ops r o = some want := hact
            cases want with
            | true => exact go [] trivial (by rw [hact, litB_t (ls := []) trivial]) h
            | false => exact skip hact h
          | ff =>
            rw [hv] at h hact
            have hact : active ops r o = some (!want) := hact
            cases want with
            | true => exact skip hact h
            | false => exact go [] trivial (by rw [hact, litB_t (ls := []) trivial]; rfl) h
          | und => rw [hv] at h hact; exact skip hact h
          | bool b =>
            rw [hv] at h hact
            have hact : active ops r o = some (b == want) := hact
            simp only at h
            refine go [(g, want, b)] ⟨trivial, fun _ => by rw [hout, hv]⟩ ?_ h
            rw [hact]
            by_cases hb : b = want
            · rw [litB_t (ls := [(g, want, b)]) ⟨hb, trivial⟩]; simp [hb]
            · rw [litB_f (ls := [(g, want, b)]) fun h => hb h.1]; simp [hb]
          | _ => rw [hv] at h; exact h.elim
end

section
variable {P : Program} {C : Ctx} {E : Env} {base : Nat} {w0 : Orig} {w : World} {st : St} {a : Act} {N : Nat} {r : Option Nat}

/-- A run in the order of the text. -/
theorem runT_list (hC : CtxOk P C) {ops : Array Oper} {Q : Exit → Act → World → Prop} (K : St → Prop) (hQ : ∀ E' st' a' w', K st' → SR E' base w0 st' a' w' → a'.tmps.size = N → Q .normal a' w') :
    ∀ (l : List (Nat × Oper)) (tr : Trace) (st stf : St) (E : Env) (a : Act) (w : World), RunT C ops.toList l st tr stf → K stf → SR E base w0 st a w → a.tmps.size = N → (l.map Prod.snd).all (okOper N) = true → wpListIn (Fc r) 0 P ops Q (l.map Prod.snd) a w
  | [], [], st, stf, E, a, w, h, hK, hS, hN, _ => by
    have e : st = stf := h
    subst e
    exact hQ E st a w hK hS hN
  | [], _ :: _, st, stf, E, a, w, h, _, _, _, _ => h.elim
  | (i, o) :: l, [], st, stf, E, a, w, h, _, _, _, _ => h.elim
  | (i, o) :: l, (i', t) :: tr, st, stf, E, a, w, h, hK, hS, hN, hok => by
    obtain ⟨rfl, st1, hstep, hr⟩ := h
    simp only [List.map_cons, List.all_cons, Bool.and_eq_true] at hok
    rw [List.map_cons]
    unfold wpListIn
    rcases hstep with ⟨h1, h2, _, h4⟩ | ⟨h1, _, h3⟩
    · rw [if_pos (active_wanted hS h1)]
      refine in_of_wp (fun c hc => by rw [hc] at h2; simp [evalOp, R.bad] at h2) (op_sound hC hS (okOper_store hok.1) h2 _ _ fun E' w' v hS' hv => ?_)
      refine runT_list hC K hQ l tr st1 stf E' _ w' hr hK ?_ (by rw [put_size, hN]) hok.2
      rw [h4]
      exact hS'.put (by rw [hN]; exact okOper_dst hok.1) hv
    · rw [if_neg (by rw [active_wanted hS h1]; simp)]
      refine ⟨fun _ _ => trivial, ?_⟩
      refine runT_list hC K hQ l tr st1 stf E _ w hr hK ?_ (by rw [put_size, hN]) hok.2
      rw [h3]
      exact hS.put (by rw [hN]; exact okOper_dst hok.1) (.pure .und)
end
end Go.V
