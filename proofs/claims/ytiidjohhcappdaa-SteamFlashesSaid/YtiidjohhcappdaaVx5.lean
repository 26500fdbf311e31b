/- What the evaluator finds of code and of functions is so. -/
import Derived.Test.YtiidjohhcappdaaVx4
namespace Go.V

section
variable {ρ : Type} {r : ρ} {P : Program} {T : XT} {X : XCalls}

theorem has_range (N n : Nat) : has (List.range N) n = Nat.blt n N := by
  rw [Bool.eq_iff_iff, has_iff, List.mem_range, Nat.blt_eq]

/-- The names that are kept. -/
def keptN (off N : Nat) (D : List Nat) : List Nat := ((List.range N).map (· + off)).filter fun s => !has D s
theorem keepQ_eq (off N : Nat) (D : List Nat) : keepQ off (keptN off N D) = xq off N D := by
  funext s
  simp only [keepQ, xq]
  cases hb : Nat.blt s off with
  | true => rfl
  | false =>
    simp only [Bool.false_or]
    rw [Bool.eq_iff_iff, has_iff]
    simp only [keptN, List.mem_filter, List.mem_map, List.mem_range, Bool.and_eq_true, Nat.blt_eq]
    have hge : off ≤ s := by
      rw [Bool.eq_false_iff, Ne, Nat.blt_eq] at hb
      omega
    constructor
    · rintro ⟨⟨a, h1, rfl⟩, h2⟩
      exact ⟨by omega, h2⟩
    · rintro ⟨h1, h2⟩
      exact ⟨⟨s - off, by omega, by omega⟩, h2⟩

theorem pruneB_none (q : Nat → Bool) : pruneB q .none = .none := rfl

theorem xclean_st (off N : Nat) (D : List Nat) (x : XS) : (xclean off N D x).st = clean off (List.range N) (keptN off N D) x.st := by
  simp only [xclean, XS.st, mkSt, clean, keepQ_eq]
  congr 1
  · funext n
    rw [look_mapv, look_filter (fun n => Nat.blt n N), look_map, has_range]
    cases Nat.blt n N with
    | true =>
      simp only [cond_true, if_true, Option.getD_some]
      cases look x.sl n with
      | none => exact (prune_junk _).symm
      | some v => rfl
    | false => rfl
  · funext s
    rw [look_mapv, look_filter (xq off N D), look_map]
    cases hk : has (keptN off N D) s with
    | true =>
      have : xq off N D s = true := by rw [← keepQ_eq]; simp [keepQ, hk]
      rw [this]
      simp only [cond_true, if_true, Option.getD_some]
      cases look x.bl s <;> rfl
    | false =>
      have : xq off N D s = Nat.blt s off := by rw [← keepQ_eq]; simp [keepQ, hk]
      rw [this]
      simp only [Bool.false_eq_true, if_false, Option.getD_none]
      cases Nat.blt s off with
      | true =>
        simp only [cond_true]
        cases look x.bl s <;> rfl
      | false => rfl

theorem SLe.refl (st : St) : SLe st st := ⟨fun _ => .refl _, fun _ => .refl _⟩

theorem fzS_eq (x : XS) (k : XS → Option ρ) : fzS x k = k x := by
  obtain ⟨sl, bl⟩ := x
  unfold fzS
  rw [fzL_eq (fun y k => by rw [fz3_eq])]
  rw [fzL_eq (fun y k => by rw [fzK_eq])]

theorem xloop_ok {C : Ctx} {a : Code} {N : Nat} {D : List Nat} {body : XS → (XO → Option ρ) → Option ρ} {k : XO → Option ρ} {K : Out → Prop}
    (ih : ∀ (x : XS) (k : XO → Option ρ) (K : Out → Prop), body x k = some r → (∀ o, k o = some r → K o.out) → evalCode C a x.st K)
    (hk : ∀ o, k o = some r → K o.out) {F : Nat} {x : XS} (h : xiter C.off N D body F (xclean C.off N D x) k = some r) : evalCode C (.loop a) x.st K := by
  classical
  simp only [evalCode]
  let Good : St → Nat → Prop := fun st n => ∃ x : XS, st = x.st ∧ xiter C.off N D body n x k = some r
  let μ : St → Nat := fun st => if h : ∃ n, Good st n then Classical.choose (exists_least h) else 0
  have hμ : ∀ st, (∃ n, Good st n) → Good st (μ st) ∧ ∀ m, Good st m → μ st ≤ m := by
    intro st h
    have := Classical.choose_spec (exists_least h)
    simp only [μ, dif_pos h]
    exact this
  refine .mk ⟨List.range N, keptN C.off N D, fun st => ∃ n, Good st n, μ, ⟨_, by rw [← xclean_st]; exact SLe.refl _, F, _, rfl, h⟩, fun st hst => ?_⟩
  obtain ⟨⟨y, rfl, hy⟩, _⟩ := hμ st hst
  cases hn : μ y.st with
  | zero => rw [hn] at hy; cases hy
  | succ m =>
    rw [hn] at hy
    simp only [xiter] at hy
    refine ih y _ _ hy fun o ho => ?_
    cases o with
    | normal x' =>
      simp only [fzS_eq] at ho
      have hg : Good (xclean C.off N D x').st m := ⟨_, rfl, ho⟩
      refine .mk ⟨_, by rw [← xclean_st]; exact SLe.refl _, ⟨m, hg⟩, ?_⟩
      have := (hμ _ ⟨m, hg⟩).2 m hg
      omega
    | exit n x' => exact hk _ ho
    | ret x' => exact hk _ ho

theorem xcode_ok (hX : XSound P T X) {off N F : Nat} : ∀ (c : Code) (x : XS) (k : XO → Option ρ) (K : Out → Prop), xcode T X off N F c x k = some r → (∀ o, k o = some r → K o.out) → evalCode (T.ctx X off) c x.st K := by
  intro c
  induction c with
  | skip => intro x k K h hk; exact hk (.normal x) h
  | ret => intro x k K h hk; exact hk (.ret x) h
  | exit n => intro x k K h hk; exact hk (.exit n x) h
  | region id ops draw =>
    intro x k K h hk
    simp only [xcode] at h
    simp only [evalCode, XT.ctx, cond_false]
    cases draw with
    | true => exact xDs_ok hX _ _ x _ _ h fun x' h' => hk (.normal x') h'
    | false => exact xops_ok hX _ x _ _ h fun x' h' => hk (.normal x') h'
  | seq a b iha ihb =>
    intro x k K h hk
    simp only [xcode] at h
    simp only [evalCode]
    refine iha x _ _ h fun o ho => ?_
    cases o with
    | normal x' => exact ihb x' k K ho hk
    | exit n x' => exact hk _ ho
    | ret x' => exact hk _ ho
  | cond c a b iha ihb =>
    intro x k K h hk
    simp only [xcode] at h
    simp only [evalCode]
    cases hc : ev x.st.slots c with
    | tt => rw [hc] at h; exact iha x k K h hk
    | ff => rw [hc] at h; exact ihb x k K h hk
    | bool b' =>
      rw [hc] at h
      cases b' with
      | true => exact ⟨fun _ => iha x k K h hk, fun h' => (by cases h')⟩
      | false => exact ⟨fun h' => (by cases h'), fun _ => ihb x k K h hk⟩
    | _ => rw [hc] at h; cases h
  | block id a iha =>
    intro x k K h hk
    simp only [xcode] at h
    simp only [evalCode]
    refine iha x _ _ h fun o ho => ?_
    cases o with
    | normal x' => exact hk _ ho
    | exit n x' =>
      simp only [XO.out] at ho ⊢
      cases hb : Nat.beq n id with
      | true => rw [hb] at ho; exact hk (.normal x') ho
      | false => rw [hb] at ho; exact hk (.exit n x') ho
    | ret x' => exact hk _ ho
  | loop a iha =>
    intro x k K h hk
    simp only [xcode] at h
    rw [fzL_eq fzN_eq, fzS_eq] at h
    exact xloop_ok (C := T.ctx X off) iha hk h
  | _ => intro x k K h hk; cases h

theorem look_enum (args : List PV) : XS.st ⟨enum args, []⟩ = start args := by
  have : ∀ (l : List PV) (i n : Nat), (look ((List.range' i l.length).zip l) n).getD .junk = if n < i then .junk else l.getD (n - i) .junk := by
    intro l
    induction l with
    | nil => intro i n; simp [look]
    | cons a l ih =>
      intro i n
      simp only [List.length_cons, List.range'_succ, List.zip_cons_cons, look]
      cases hb : Nat.beq i n with
      | true => rw [nbeq] at hb; subst hb; simp
      | false =>
        simp only [cond_false, ih]
        have hne : i ≠ n := by rintro rfl; simp at hb
        by_cases hlt : n < i
        · rw [if_pos (by omega), if_pos hlt]
        · rw [if_neg (by omega), if_neg hlt]
          have : n - i = (n - (i + 1)) + 1 := by omega
          rw [this]
          rfl
  simp only [XS.st, mkSt, start, enum]
  congr 1
  funext n
  rw [List.range_eq_range']
  have := this args 0 n
  rw [if_neg (by omega)] at this
  simpa using this

/-- A function's text, by closed facts. -/
def okFn (P : Program) (L : List Nat) (f : Nat) (fn : Func) : Prop := P.funcs[f]? = some fn ∧
  (match fn.body with
  | some c => okCode (okOper fn.ntmps) c && (Nat.ble (fn.params.size + fn.nfree) fn.ntmps && (!(fn.name == "runtime.NumGoroutine") && (!has L f || Nat.ble fn.results.toList.length 1)))
  | none => false) = true
def okFns (P : Program) (L : List Nat) : List (Nat × Func) → Prop
  | [] => True
  | x :: l => okFn P L x.1 x.2 ∧ okFns P L l
theorem okFns_look {P : Program} {L : List Nat} : ∀ {l : List (Nat × Func)}, okFns P L l → ∀ {f fn}, look l f = some fn → okFn P L f fn
  | [], _, f, fn, h => by cases h
  | (m, a) :: l, ⟨h1, h2⟩, f, fn, h => by
    simp only [look] at h
    cases hb : Nat.beq m f with
    | true => rw [nbeq] at hb; subst hb; simp at h; subst h; exact h1
    | false => rw [hb] at h; exact okFns_look h2 h
theorem look_of_has {α : Type} : ∀ {l : List (Nat × α)} {f : Nat}, has (l.map Prod.fst) f = true → ∃ a, look l f = some a
  | [], f, h => by cases h
  | (m, a) :: l, f, h => by
    simp only [look]
    cases hb : Nat.beq m f with
    | true => exact ⟨a, rfl⟩
    | false =>
      rw [has_iff] at h
      rcases List.mem_cons.1 h with h | h
      · simp only at h; subst h; simp at hb
      · exact look_of_has (has_iff.2 h)

theorem SF.body {P : Program} {f : Nat} {fn : Func} {c : Code} (hf : P.funcs[f]? = some fn) (hb : fn.body = some c) (hn : (fn.name == "runtime.NumGoroutine") = false) : ∃ fn c, P.funcs[f]? = some fn ∧ (fn.name == "runtime.NumGoroutine") = false ∧ fn.body = some c := ⟨fn, c, hf, hn, hb⟩

theorem xstep_ok (hX : XSound P T X) (ht : ∀ t ti, look T.ts t = some ti → TIok P t ti) (hm : P.follows .mixedOrders = true) (hG : okFns P T.L T.G) (hL : T.L.all (has (T.G.map Prod.fst)) = true) (F : Nat) : XSound P T (xstep T F X) := by
  refine ⟨fun f as v h => ?_, fun f hf => ?_, fun f off hf => ?_⟩
  · simp only [xstep] at h
    cases hl : look T.G f with
    | none => rw [hl] at h; cases h
    | some fn => exact look_has _ _ _ hl
  · obtain ⟨fn, hl⟩ := look_of_has hf
    obtain ⟨h1, h2⟩ := okFns_look hG hl
    cases hb : fn.body with
    | none => rw [hb] at h2; cases h2
    | some c =>
      rw [hb] at h2
      simp only [Bool.and_eq_true, Bool.not_eq_true'] at h2
      refine ⟨?_, fn, c, h1, h2.2.2.1, hb⟩
      refine sound_of_meets (hX.ctx ht 0) hm h1 hb h2.1 (n := fn.params.size + fn.nfree) (Nat.le_of_ble_eq_true h2.2.1) rfl rfl ?_
      intro args hargs
      simp only [specX, xstep, hl, hb, Option.getD_some] at hargs ⊢
      cases hlen : Nat.beq args.length (fn.params.size + fn.nfree) with
      | false => rw [hlen] at hargs; cases hargs
      | true =>
        rw [hlen] at hargs
        simp only [cond_true] at hargs ⊢
        refine ⟨Nat.eq_of_beq_eq_true hlen, ?_⟩
        obtain ⟨v, hv⟩ := Option.isSome_iff_exists.1 hargs
        rw [hv]
        have := xcode_ok hX c ⟨enum args, []⟩ _ (fun o => match o with
          | .normal st | .ret st => fn.results.toList.all (fun r => plain2 (frz st.blocks (resOf (T.ctx X 0) st r))) = true ∧ PLe (results1 (T.ctx X 0) fn.results.toList st) v
          | _ => False) hv fun o ho => ?_
        · rw [look_enum] at this
          exact this
        · have fin : ∀ {x : XS}, (bif fn.results.toList.all (fun r => plain2 (frz x.st.blocks (resOf (T.ctx X 0) x.st r))) then fz3 (results1 (T.ctx X 0) fn.results.toList x.st) fun v => some v else none) = some v →
              fn.results.toList.all (fun r => plain2 (frz x.st.blocks (resOf (T.ctx X 0) x.st r))) = true ∧ PLe (results1 (T.ctx X 0) fn.results.toList x.st) v := by
            intro x h
            cases hp : fn.results.toList.all (fun r => plain2 (frz x.st.blocks (resOf (T.ctx X 0) x.st r))) with
            | false => rw [hp] at h; cases h
            | true =>
              rw [hp] at h
              simp only [cond_true, fz3_eq, Option.some.injEq] at h
              subst h
              exact ⟨rfl, .refl _⟩
          cases o with
          | normal x => exact fin ho
          | ret x => exact fin ho
          | exit n x => cases ho
  · have hf' : has (T.G.map Prod.fst) f = true := by
      rw [List.all_eq_true] at hL
      exact hL f (has_iff.1 hf)
    obtain ⟨fn, hl⟩ := look_of_has hf'
    obtain ⟨h1, h2⟩ := okFns_look hG hl
    cases hb : fn.body with
    | none => rw [hb] at h2; cases h2
    | some c =>
      rw [hb] at h2
      simp only [Bool.and_eq_true, Bool.not_eq_true', hf, Bool.not_true, Bool.false_or] at h2
      refine ⟨?_, fn, c, h1, h2.2.2.1, hb⟩
      have hS := soundE_of_body (C := T.ctx X off) (hX.ctx ht off) hm rfl h1 hb h2.1 (Nat.le_of_ble_eq_true h2.2.2.2) (n := fn.params.size + fn.nfree) (Nat.le_of_ble_eq_true h2.2.1)
      intro args bl K he
      refine hS args bl K ?_
      obtain ⟨bll, v, bl', rfl, hv, hK⟩ := he
      simp only [xstep, hl, hb] at hv
      cases hlen : Nat.beq args.length (fn.params.size + fn.nfree) with
      | false => rw [hlen] at hv; cases hv
      | true =>
        rw [hlen] at hv
        simp only [cond_true] at hv
        refine ⟨Nat.eq_of_beq_eq_true hlen, ?_⟩
        unfold effBody
        have hst : ({ slots := (start args).slots, blocks := fun s => (look bll s).getD .none } : St) = XS.st ⟨enum args, bll⟩ := by
          rw [← look_enum]
          rfl
        rw [hst]
        refine xcode_ok hX c ⟨enum args, bll⟩ _ _ hv fun o ho => ?_
        have fin : ∀ {x : XS}, (bif fn.results.toList.all (fun r => nj (resOf (T.ctx X off) x.st r)) then
              fz3 (prune (fun s => Nat.blt s off) (match fn.results.toList with | [] => .tup [] | [r] => frzE off x.st.blocks (resOf (T.ctx X off) x.st r) | _ => .junk)) fun v =>
              fzL (fun y k => fzK y.2 fun v => k (y.1, v)) ((x.bl.filter fun y => Nat.blt y.1 off).map fun y => (y.1, pruneB (fun s => Nat.blt s off) y.2)) fun bl => some (v, bl)
              else none) = some (v, bl') →
            fn.results.toList.all (fun r => nj (resOf (T.ctx X off) x.st r)) = true ∧ K (prune (fun s => Nat.blt s off) (match fn.results.toList with | [] => .tup [] | [r] => frzE off x.st.blocks (resOf (T.ctx X off) x.st r) | _ => .junk)) fun s => bif Nat.blt s off then pruneB (fun s => Nat.blt s off) (x.st.blocks s) else .none := by
          intro x h
          cases hp : fn.results.toList.all (fun r => nj (resOf (T.ctx X off) x.st r)) with
          | false => rw [hp] at h; cases h
          | true =>
            rw [hp] at h
            rw [cond_true, fz3_eq, fzL_eq (fun y k => by rw [fzK_eq])] at h
            simp only [Option.some.injEq, Prod.mk.injEq] at h
            obtain ⟨hv1, hb1⟩ := h
            refine ⟨rfl, ?_⟩
            rw [hv1]
            have e : (fun s => bif Nat.blt s off then pruneB (fun s => Nat.blt s off) (x.st.blocks s) else .none) = fun s => (look bl' s).getD .none := by
              funext s
              rw [← hb1, look_mapv, look_filter (fun s => Nat.blt s off)]
              cases Nat.blt s off with
              | true =>
                simp only [cond_true, XS.st, mkSt]
                cases look x.bl s <;> rfl
              | false => rfl
            rw [e]
            exact hK
        cases o with
        | normal x => exact fin ho
        | ret x => exact fin ho
        | exit n x => cases ho

theorem xnone_ok (hG : okFns P T.L T.G) (hL : T.L.all (has (T.G.map Prod.fst)) = true) : XSound P T xnone := by
  have hbody : ∀ f, has (T.G.map Prod.fst) f = true → ∃ fn c, P.funcs[f]? = some fn ∧ (fn.name == "runtime.NumGoroutine") = false ∧ fn.body = some c := by
    intro f hf
    obtain ⟨fn, hl⟩ := look_of_has hf
    obtain ⟨h1, h2⟩ := okFns_look hG hl
    cases hb : fn.body with
    | none => rw [hb] at h2; cases h2
    | some c =>
      rw [hb] at h2
      simp only [Bool.and_eq_true, Bool.not_eq_true'] at h2
      exact ⟨fn, c, h1, h2.2.2.1, hb⟩
  refine ⟨fun f as v h => (by cases h), fun f hf => ⟨?_, hbody f hf⟩, fun f off hf => ⟨?_, hbody f ?_⟩⟩
  · intro args σ w vals _ _ _ h
    cases h
  · intro args bl K h
    obtain ⟨_, _, _, _, h, _⟩ := h
    cases h
  · rw [List.all_eq_true] at hL
    exact hL f (has_iff.1 hf)

theorem xF_ok (ht : ∀ t ti, look T.ts t = some ti → TIok P t ti) (hm : P.follows .mixedOrders = true) (hG : okFns P T.L T.G) (hL : T.L.all (has (T.G.map Prod.fst)) = true) (F : Nat) : ∀ n, XSound P T (xF T F n)
  | 0 => xnone_ok hG hL
  | n + 1 => xstep_ok (xF_ok ht hm hG hL F n) ht hm hG hL F

/-- A function at given values: what the evaluator finds. -/
theorem sf_x (hX : XSound P T X) {f : Nat} {args : List PV} {v : PV} (h : X.s f args = some v) : SF P f fun as => (some (as = args), v) := by
  have hf := hX.known f args v h
  obtain ⟨h1, h2⟩ := hX.s f hf
  refine ⟨?_, h2⟩
  intro as σ w vals hs hr hσ hp
  have hp : as = args := hp
  subst hp
  have := h1 as σ w vals hs hr hσ (by simp [specX, h])
  simpa [specX, h] using this
end
end Go.V
