/- What the evaluator finds is so. -/
import Derived.Test.YtiidjohhcappdaaVx3
namespace Go.V

theorem look_mapv {α β : Type} (g : α → β) : ∀ (l : List (Nat × α)) (n : Nat), look (l.map fun y => (y.1, g y.2)) n = (look l n).map g
  | [], n => rfl
  | (m, a) :: r, n => by
    simp only [List.map_cons, look]
    cases Nat.beq m n with
    | true => rfl
    | false => exact look_mapv g r n
theorem look_filter {α : Type} (q : Nat → Bool) : ∀ (l : List (Nat × α)) (n : Nat), look (l.filter fun y => q y.1) n = bif q n then look l n else none
  | [], n => by cases q n <;> rfl
  | (m, a) :: r, n => by
    simp only [List.filter_cons]
    cases hq : q m with
    | true =>
      simp only [if_true, look]
      cases h : Nat.beq m n with
      | true => rw [nbeq] at h; subst h; simp [hq]
      | false => simp only [cond_false, look_filter q r n]
    | false =>
      simp only [Bool.false_eq_true, if_false, look, look_filter q r n]
      cases h : Nat.beq m n with
      | true => rw [nbeq] at h; subst h; simp [hq]
      | false => rfl
theorem look_has {α : Type} : ∀ (l : List (Nat × α)) (n : Nat) (a : α), look l n = some a → has (l.map Prod.fst) n = true
  | [], n, a, h => by cases h
  | (m, b) :: r, n, a, h => by
    simp only [look] at h
    rw [has_iff]
    cases hb : Nat.beq m n with
    | true => rw [nbeq] at hb; subst hb; simp
    | false =>
      rw [hb] at h
      have := look_has r n a h
      rw [has_iff] at this
      exact List.mem_cons_of_mem _ this

theorem prune_junk (q : Nat → Bool) : prune q .junk = .junk := by simp [prune]

section
variable {ρ : Type} {r : ρ}

theorem xplain_ok {C : Ctx} {x : XS} {o : Oper} {k : XS → Option ρ} {K : St → Prop} (h : xplain C x o k = some r) (hk : ∀ x', k x' = some r → K x'.st) : run0 C x.st o K := by
  rw [run0_eq]
  unfold run1s
  unfold xplain at h
  dsimp only
  cases he : evalOp C (ev x.st.slots) x.st.blocks (o.dst.getD 0 + C.off) o.type o.op with
  | mk p v u =>
    rw [he] at h
    simp only [fz3_eq] at h
    cases hc : preOk p (xcond C (ev x.st.slots) x.st.blocks o.op) with
    | false => rw [hc] at h; cases h
    | true =>
      rw [hc] at h
      simp only [cond_true] at h
      cases hn : nj v with
      | false => rw [hn] at h; cases h
      | true =>
        rw [hn] at h
        simp only [cond_true] at h
        have hfin : K ((x.st.setB u).put o.dst v) := by
          cases u with
          | none => have := hk _ h; rw [XS.st_put] at this; exact this
          | some y =>
            obtain ⟨s, b⟩ := y
            simp only [fzN_eq, fzK_eq] at h
            have := hk _ h
            rw [XS.st_put, XS.st_setB] at this
            exact this
        cases p with
        | none => exact hfin
        | some p =>
          refine ⟨?_, hfin⟩
          refine xcond_ok (d := o.dst.getD 0 + C.off) (ty := o.type) hc (by rw [he]) ?_
          rw [he]
          rintro (rfl : v = .junk)
          cases hn

theorem callOf_some {x : XS} {op : Op} {f : Nat} {as : List PV} (h : callOf x op = some (f, as)) : ∃ g args ts a b, op = .call { callee := .value g, args := args, argTypes := ts } ∧ ev x.st.slots g = .fn (.func f) a b ∧ as = a ++ (args.toList.map (ev x.st.slots) ++ b) := by
  unfold callOf at h
  split at h
  · rename_i g args ts
    split at h
    · rename_i f' a b hf
      simp only [Option.some.injEq, Prod.mk.injEq] at h
      obtain ⟨rfl, rfl⟩ := h
      exact ⟨g, args, ts, a, b, rfl, hf, rfl⟩
    · cases h
  · cases h

theorem effOf_none {C : Ctx} {x : XS} {o : Oper} (h : callOf x o.op = none) : effOf C x.st o = none := by
  unfold callOf at h
  unfold effOf
  split at h
  · rename_i g args ts ho
    split at h
    · cases h
    · rename_i hne
      rw [ho]
      dsimp only
      split
      · rename_i f a b hf; exact (hne f a b hf).elim
      · rfl
  · rename_i hne
    split
    · rename_i g args ts ho; exact (hne g args ts ho).elim
    · rfl

structure XSound (P : Program) (T : XT) (X : XCalls) : Prop where
  known : ∀ f as v, X.s f as = some v → has (T.G.map Prod.fst) f = true
  s : ∀ f, has (T.G.map Prod.fst) f = true → SF P f (specX X f)
  e : ∀ f off, has T.L f = true → SE P f off (effX X f off)

variable {P : Program} {T : XT} {X : XCalls}

theorem ctx_spec (off f : Nat) : look (T.ctx X off).specs f = if has (T.G.map Prod.fst) f then some (specX X f) else none := look_map (fun f => specX X f) _ f
theorem ctx_eff (off f : Nat) : look (T.ctx X off).effs f = if has T.L f then some (off + gap, effX X f (off + gap)) else none := look_map (fun f => (off + gap, effX X f (off + gap))) _ f
theorem XSound.ctx (h : XSound P T X) (ht : ∀ t ti, look T.ts t = some ti → TIok P t ti) (off : Nat) : CtxOk P (T.ctx X off) := by
  refine ⟨fun f o e he => ?_, ht, fun f s0 o1 o2 I h => (by cases h), fun f s hs => ?_⟩
  · have he : look (T.ctx X off).effs f = some (o, e) := he
    rw [ctx_eff] at he
    split at he
    · rename_i hh
      cases he
      exact h.e f _ hh
    · cases he
  · have hs : look (T.ctx X off).specs f = some s := hs
    rw [ctx_spec] at hs
    split at hs
    · rename_i hh
      cases hs
      exact h.s f hh
    · cases hs

theorem xrun0_ok (hX : XSound P T X) {off : Nat} {x : XS} {o : Oper} {k : XS → Option ρ} {K : St → Prop} (h : xrun0 (T.ctx X off) X x o k = some r) (hk : ∀ x', k x' = some r → K x'.st) : run0 (T.ctx X off) x.st o K := by
  unfold xrun0 at h
  cases hc : callOf x o.op with
  | none => rw [hc] at h; exact xplain_ok h hk
  | some y =>
    obtain ⟨f, as⟩ := y
    rw [hc] at h
    simp only [fzL_eq fz3_eq] at h
    obtain ⟨g, args, ts, a, b, ho, hg, rfl⟩ := callOf_some hc
    cases hp : ((a ++ (args.toList.map (ev x.st.slots) ++ b)).map export1).all plain2 with
    | false => rw [hp] at h; cases h
    | true =>
      rw [hp] at h
      simp only [cond_true] at h
      cases hs : X.s f ((a ++ (args.toList.map (ev x.st.slots) ++ b)).map export1) with
      | none => rw [hs] at h; cases h
      | some v =>
        rw [hs] at h
        simp only at h
        rw [run0_eq]
        unfold run1s
        have he : evalOp (T.ctx X off) (ev x.st.slots) x.st.blocks (o.dst.getD 0 + (T.ctx X off).off) o.type o.op = ⟨some (((X.s f ((a ++ (args.toList.map (ev x.st.slots) ++ b)).map export1)).isSome = true)), v, none⟩ := by
          rw [ho]
          simp only [evalOp, hg, ctx_spec, hX.known _ _ _ hs, if_true, hp, cond_true, specX, hs, Option.getD_some, Option.isSome_some]
        rw [he]
        refine ⟨by rw [hs]; rfl, ?_⟩
        have := hk _ h
        rw [XS.st_put] at this
        exact this

theorem st_pruned (sl : List (Nat × PV)) (bl bl' : List (Nat × Blk)) (q : Nat → Bool) : XS.st ⟨sl.map fun y => (y.1, prune q y.2), bl'⟩ = { slots := fun n => prune q ((XS.st ⟨sl, bl⟩).slots n), blocks := fun s => (look bl' s).getD .none } := by
  simp only [XS.st, mkSt]
  congr 1
  funext n
  rw [look_mapv]
  cases look sl n with
  | none => exact (prune_junk q).symm
  | some v => rfl

theorem xrun1_ok (hX : XSound P T X) {off : Nat} {x : XS} {o : Oper} {k : XS → Option ρ} {K : St → Prop} (h : xrun1 T X off x o k = some r) (hk : ∀ x', k x' = some r → K x'.st) : run1 (T.ctx X off) x.st o K := by
  unfold xrun1 at h
  unfold run1
  cases hc : callOf x o.op with
  | none => rw [hc] at h; rw [effOf_none hc]; exact xplain_ok h hk
  | some y =>
    obtain ⟨f, as⟩ := y
    rw [hc] at h
    simp only at h
    obtain ⟨g, args, ts, a, b, ho, hg, rfl⟩ := callOf_some hc
    have hef : effOf (T.ctx X off) x.st o = if has T.L f then some ((off + gap, effX X f (off + gap)), a ++ (args.toList.map (ev x.st.slots) ++ b)) else none := by
      unfold effOf
      rw [ho]
      simp only [hg, ctx_eff]
      cases has T.L f <;> rfl
    rw [hef]
    cases hL : has T.L f with
    | false =>
      rw [hL] at h
      exact xrun0_ok hX h hk
    | true =>
      rw [hL] at h
      simp only [cond_true, fzL_eq fz3_eq] at h
      simp only [if_true]
      refine ⟨Nat.ble_eq_true_of_le (Nat.le_add_right off gap), ?_⟩
      rw [frcL2_iff]
      cases he : X.e f (off + gap) (a ++ (args.toList.map (ev x.st.slots) ++ b)) x.bl with
      | none => rw [he] at h; cases h
      | some y =>
        obtain ⟨v, bl⟩ := y
        rw [he] at h
        simp only at h
        refine ⟨x.bl, v, bl, rfl, he, ?_⟩
        dsimp only
        rw [frc3_eq]
        have := hk _ h
        rw [XS.st_put, st_pruned x.sl x.bl] at this
        exact this

theorem xops_ok (hX : XSound P T X) {off : Nat} {ops : List Oper} : ∀ (l : List Oper) (x : XS) (k : XS → Option ρ) (K : St → Prop), xops T X off ops l x k = some r → (∀ x', k x' = some r → K x'.st) → evalOps (T.ctx X off) ops l x.st K
  | [], x, k, K, h, hk => hk x h
  | o :: rest, x, k, K, h, hk => by
    have go : ∀ {x : XS}, xrun1 T X off x o (fun x => xops T X off ops rest x k) = some r → run1 (T.ctx X off) x.st o fun st => evalOps (T.ctx X off) ops rest st K := fun h => xrun1_ok hX h fun x' h' => xops_ok hX rest x' k K h' hk
    have skip : ∀ {x : XS}, xops T X off ops rest (x.put o.dst .und) k = some r → evalOps (T.ctx X off) ops rest (x.st.put o.dst .und) K := fun {x} h => by
      have := xops_ok hX rest _ k K h hk
      rw [XS.st_put] at this
      exact this
    simp only [xops, xstepO] at h
    simp only [evalOps, stepO]
    cases hg : o.guard with
    | none => rw [hg] at h; exact go h
    | some jw =>
      obtain ⟨j, want⟩ := jw
      rw [hg] at h
      simp only at h ⊢
      cases hd : (ops[j]?).bind Oper.dst with
      | none => rw [hd] at h; cases h
      | some g =>
        rw [hd] at h
        simp only at h ⊢
        cases hs : x.st.slots g with
        | tt => rw [hs] at h; cases want <;> first | exact go h | exact skip h
        | ff => rw [hs] at h; cases want <;> first | exact go h | exact skip h
        | und => rw [hs] at h; exact skip h
        | bool b =>
          rw [hs] at h
          simp only at h ⊢
          cases b <;> cases want <;> simp only [beqB, cond_true, cond_false, Bool.not_true, Bool.not_false] at h
          · refine ⟨fun _ => ?_, fun h' => (by cases h')⟩
            have := go h
            rw [XS.st_set] at this
            exact this
          · refine ⟨fun h' => (by cases h'), fun _ => ?_⟩
            have := skip h
            rw [XS.st_set] at this
            exact this
          · refine ⟨fun h' => (by cases h'), fun _ => ?_⟩
            have := skip h
            rw [XS.st_set] at this
            exact this
          · refine ⟨fun _ => ?_, fun h' => (by cases h')⟩
            have := go h
            rw [XS.st_set] at this
            exact this
        | _ => rw [hs] at h; cases h

theorem xD_ok (hX : XSound P T X) {off : Nat} {ops : List Oper} {an : List Nat} : ∀ (l : List (Nat × Oper)) (x : XS) (tr : Trace) (k : XS → Option ρ) (K : St → Prop), xD (T.ctx X off) X ops an l x tr k = some r → (∀ x', k x' = some r → K x'.st) → evalD (T.ctx X off) ops an l x.st tr K
  | [], x, tr, k, K, h, hk => by
    simp only [xD] at h
    cases hc : calm an tr with
    | false => rw [hc] at h; cases h
    | true => rw [hc] at h; exact ⟨hc, hk x h⟩
  | (i, o) :: rest, x, tr, k, K, h, hk => by
    have go : ∀ {x : XS}, (match touch (ev x.st.slots) (o.dst.getD 0 + (T.ctx X off).off) o.op with
        | none => xrun0 (T.ctx X off) X x o fun x' => xD (T.ctx X off) X ops an rest x' tr k
        | some s => xrun0 (T.ctx X off) X x o fun x' => xD (T.ctx X off) X ops an rest x' (tr ++ [(i, some s, touches o.op)]) k) = some r →
        (match touch (ev x.st.slots) (o.dst.getD 0 + (T.ctx X off).off) o.op with
        | none => run0 (T.ctx X off) x.st o fun st' => evalD (T.ctx X off) ops an rest st' tr K
        | some s => run0 (T.ctx X off) x.st o fun st' => evalD (T.ctx X off) ops an rest st' (tr ++ [(i, some s, touches o.op)]) K) := by
      intro x h
      cases ht : touch (ev x.st.slots) (o.dst.getD 0 + (T.ctx X off).off) o.op with
      | none => rw [ht] at h; exact xrun0_ok hX h fun x' h' => xD_ok hX rest x' _ k K h' hk
      | some s => rw [ht] at h; exact xrun0_ok hX h fun x' h' => xD_ok hX rest x' _ k K h' hk
    have skip : ∀ {x : XS}, xD (T.ctx X off) X ops an rest (x.put o.dst .und) tr k = some r → evalD (T.ctx X off) ops an rest (x.st.put o.dst .und) tr K := fun {x} h => by
      have := xD_ok hX rest _ _ k K h hk
      rw [XS.st_put] at this
      exact this
    simp only [xD, xstepD] at h
    simp only [evalD, stepD]
    cases hg : o.guard with
    | none => rw [hg] at h; exact go h
    | some jw =>
      obtain ⟨j, want⟩ := jw
      rw [hg] at h
      simp only at h ⊢
      cases hd : (ops[j]?).bind Oper.dst with
      | none => rw [hd] at h; cases h
      | some g =>
        rw [hd] at h
        simp only at h ⊢
        cases hs : x.st.slots g with
        | tt => rw [hs] at h; cases want <;> first | exact go h | exact skip h
        | ff => rw [hs] at h; cases want <;> first | exact go h | exact skip h
        | und => rw [hs] at h; exact skip h
        | bool b =>
          rw [hs] at h
          simp only at h ⊢
          cases b <;> cases want <;> simp only [beqB, cond_true, cond_false, Bool.not_true, Bool.not_false] at h
          · refine ⟨fun _ => ?_, fun h' => (by cases h')⟩
            have := go h
            rw [XS.st_set] at this
            exact this
          · refine ⟨fun h' => (by cases h'), fun _ => ?_⟩
            have := skip h
            rw [XS.st_set] at this
            exact this
          · refine ⟨fun h' => (by cases h'), fun _ => ?_⟩
            have := skip h
            rw [XS.st_set] at this
            exact this
          · refine ⟨fun _ => ?_, fun h' => (by cases h')⟩
            have := go h
            rw [XS.st_set] at this
            exact this
        | _ => rw [hs] at h; cases h

theorem xDs_ok (hX : XSound P T X) {off : Nat} {ops : List Oper} {an : List Nat} : ∀ (n : Nat) (l : List (Nat × Oper)) (x : XS) (k : XS → Option ρ) (K : St → Prop), xDs T X off ops an n l x k = some r → (∀ x', k x' = some r → K x'.st) → evalDs (T.ctx X off) ops an n l x.st K
  | 0, l, x, k, K, h, hk => xD_ok hX l x [] k K h hk
  | n + 1, l, x, k, K, h, hk => by
    simp only [xDs] at h
    simp only [evalDs]
    cases hf : findCut an [] l with
    | none => rw [hf] at h; exact xD_ok hX l x [] k K h hk
    | some y =>
      obtain ⟨p, y, q⟩ := y
      rw [hf] at h
      exact xD_ok hX p x [] _ _ h fun x' h' => xops_ok hX [y.2] x' _ _ h' fun x2 h2 => xDs_ok hX n q x2 k K h2 hk
end
end Go.V
