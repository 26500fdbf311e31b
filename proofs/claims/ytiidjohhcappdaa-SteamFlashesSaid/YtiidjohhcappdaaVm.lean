/- Part 10: contexts; small helps for what is said of functions. -/
import Derived.Test.YtiidjohhcappdaaVl
namespace Go.V

/-- A function of which something is said, and that can be called. -/
def SF (P : Program) (f : Nat) (s : Spec) : Prop := Sound P f s ∧ ∃ fn c, P.funcs[f]? = some fn ∧ (fn.name == "runtime.NumGoroutine") = false ∧ fn.body = some c
def SE (P : Program) (f off : Nat) (e : Eff) : Prop := SoundE P f off e ∧ ∃ fn c, P.funcs[f]? = some fn ∧ (fn.name == "runtime.NumGoroutine") = false ∧ fn.body = some c
def All (P : Program) : List (Nat × Spec) → Prop
  | [] => True
  | x :: l => SF P x.1 x.2 ∧ All P l
def AllE (P : Program) : List (Nat × Nat × Eff) → Prop
  | [] => True
  | x :: l => SE P x.1 x.2.1 x.2.2 ∧ AllE P l

theorem look_of_all {P : Program} : ∀ {l : List (Nat × Spec)}, All P l → ∀ f s, look l f = some s → SF P f s
  | [], _, f, s, h => by cases h
  | (m, a) :: l, ⟨h1, h2⟩, f, s, h => by
    simp only [look] at h
    cases hb : Nat.beq m f with
    | true =>
      rw [hb] at h
      obtain rfl := Nat.eq_of_beq_eq_true hb
      have := Option.some.inj h
      subst this
      exact h1
    | false => rw [hb] at h; exact look_of_all h2 f s h
theorem look_of_allE {P : Program} : ∀ {l : List (Nat × Nat × Eff)}, AllE P l → ∀ f o s, look l f = some (o, s) → SE P f o s
  | [], _, f, o, s, h => by cases h
  | (m, a) :: l, ⟨h1, h2⟩, f, o, s, h => by
    simp only [look] at h
    cases hb : Nat.beq m f with
    | true =>
      rw [hb] at h
      obtain rfl := Nat.eq_of_beq_eq_true hb
      have := Option.some.inj h
      subst this
      exact h1
    | false => rw [hb] at h; exact look_of_allE h2 f o s h
def SI (P : Program) (f s0 o1 o2 : Nat) (I : Iter) : Prop := SoundI P f s0 o1 o2 I ∧ ∃ fn c, P.funcs[f]? = some fn ∧ (fn.name == "runtime.NumGoroutine") = false ∧ fn.body = some c
def AllI (P : Program) : List (Nat × Nat × Nat × Nat × Iter) → Prop
  | [] => True
  | x :: l => SI P x.1 x.2.1 x.2.2.1 x.2.2.2.1 x.2.2.2.2 ∧ AllI P l
theorem look_of_allI {P : Program} : ∀ {l : List (Nat × Nat × Nat × Nat × Iter)}, AllI P l → ∀ f s0 o1 o2 I, look l f = some (s0, o1, o2, I) → SI P f s0 o1 o2 I
  | [], _, f, s0, o1, o2, I, h => by cases h
  | (m, a) :: l, ⟨h1, h2⟩, f, s0, o1, o2, I, h => by
    simp only [look] at h
    cases hb : Nat.beq m f with
    | true =>
      rw [hb] at h
      obtain rfl := Nat.eq_of_beq_eq_true hb
      have := Option.some.inj h
      subst this
      exact h1
    | false => rw [hb] at h; exact look_of_allI h2 f s0 o1 o2 I h
theorem ctx_ok {P : Program} {ts : List (Nat × TI)} (ht : ∀ t ti, look ts t = some ti → TIok P t ti) {l : List (Nat × Spec)} (hl : All P l) {es : List (Nat × Nat × Eff)} (he : AllE P es) (off : Nat) (mg : Bool := false) (live names : List Nat := []) {its : List (Nat × Nat × Nat × Nat × Iter)} (hi : AllI P its := by exact trivial) (y : Option Yd := none) (rnd : Bool := false) : CtxOk P ⟨ts, l, es, off, mg, live, names, its, y, rnd⟩ :=
  ⟨fun f o e h => look_of_allE he f o e h, ht, fun f s0 o1 o2 I h => look_of_allI hi f s0 o1 o2 I h, fun f s h => look_of_all hl f s h⟩

theorem sf_of {P : Program} {ts : List (Nat × TI)} (ht : ∀ t ti, look ts t = some ti → TIok P t ti) (hm : P.follows .mixedOrders = true) {l : List (Nat × Spec)} (hl : All P l) {es : List (Nat × Nat × Eff)} (he : AllE P es)
    {f : Nat} {fn : Func} {c : Code} {s : Spec} (n : Nat) (hf : P.funcs[f]? = some fn) (hb : fn.body = some c) (hok : (okCode (okOper fn.ntmps) c && Nat.ble n fn.ntmps && !(fn.name == "runtime.NumGoroutine")) = true)
    (h : Meets ⟨ts, l, es, 0, false, [], [], [], none, false⟩ c fn.results.toList n s) : SF P f s := by
  simp only [Bool.and_eq_true, Bool.not_eq_true'] at hok
  exact ⟨sound_of_meets (ctx_ok ht hl he 0) hm hf hb hok.1.1 (Nat.le_of_ble_eq_true hok.1.2) rfl rfl h, fn, c, hf, hok.2, hb⟩

/-- The same, for a function that ranges over functions. -/
theorem sf_ofI {P : Program} {ts : List (Nat × TI)} (ht : ∀ t ti, look ts t = some ti → TIok P t ti) (hm : P.follows .mixedOrders = true) {l : List (Nat × Spec)} (hl : All P l) {es : List (Nat × Nat × Eff)} (he : AllE P es) {its : List (Nat × Nat × Nat × Nat × Iter)} (hi : AllI P its)
    {f : Nat} {fn : Func} {c : Code} {s : Spec} (n : Nat) (hf : P.funcs[f]? = some fn) (hb : fn.body = some c) (hok : (okCode (okOper fn.ntmps) c && Nat.ble n fn.ntmps && !(fn.name == "runtime.NumGoroutine")) = true)
    (h : Meets ⟨ts, l, es, 0, false, [], [], its, none, false⟩ c fn.results.toList n s) : SF P f s := by
  simp only [Bool.and_eq_true, Bool.not_eq_true'] at hok
  exact ⟨sound_of_meets (ctx_ok ht hl he 0 (hi := hi)) hm hf hb hok.1.1 (Nat.le_of_ble_eq_true hok.1.2) rfl rfl h, fn, c, hf, hok.2, hb⟩

/-- The same, ways that guards open being told as one. -/
theorem sf_ofM {P : Program} {ts : List (Nat × TI)} (ht : ∀ t ti, look ts t = some ti → TIok P t ti) (hm : P.follows .mixedOrders = true) {l : List (Nat × Spec)} (hl : All P l) {es : List (Nat × Nat × Eff)} (he : AllE P es)
    {f : Nat} {fn : Func} {c : Code} {s : Spec} (live names : List Nat) (n : Nat) (hf : P.funcs[f]? = some fn) (hb : fn.body = some c) (hok : (okCode (okOper fn.ntmps) c && Nat.ble n fn.ntmps && !(fn.name == "runtime.NumGoroutine")) = true)
    (h : Meets ⟨ts, l, es, 0, true, live, names, [], none, false⟩ c fn.results.toList n s) : SF P f s := by
  simp only [Bool.and_eq_true, Bool.not_eq_true'] at hok
  exact ⟨sound_of_meets (ctx_ok ht hl he 0 true live names) hm hf hb hok.1.1 (Nat.le_of_ble_eq_true hok.1.2) rfl rfl h, fn, c, hf, hok.2, hb⟩

theorem se_of {P : Program} {ts : List (Nat × TI)} (ht : ∀ t ti, look ts t = some ti → TIok P t ti) (hm : P.follows .mixedOrders = true) {l : List (Nat × Spec)} (hl : All P l) {es : List (Nat × Nat × Eff)} (he : AllE P es)
    {f : Nat} {fn : Func} {c : Code} (off n : Nat) (hf : P.funcs[f]? = some fn) (hb : fn.body = some c) (hok : (okCode (okOper fn.ntmps) c && Nat.ble n fn.ntmps && !(fn.name == "runtime.NumGoroutine") && Nat.ble fn.results.toList.length 1) = true) :
    SE P f off (fun args bl k => args.length = n ∧ effBody ⟨ts, l, es, off, false, [], [], [], none, false⟩ c fn.results.toList args bl k) := by
  simp only [Bool.and_eq_true, Bool.not_eq_true'] at hok
  refine ⟨?_, fn, c, hf, hok.1.2, hb⟩
  exact soundE_of_body (ctx_ok ht hl he off) hm rfl hf hb hok.1.1.1 (Nat.le_of_ble_eq_true hok.2) (Nat.le_of_ble_eq_true hok.1.1.2)

/-- A function that is ranged over: the record's name, where its own blocks' names begin, and those of a round. -/
theorem si_of {P : Program} {ts : List (Nat × TI)} (ht : ∀ t ti, look ts t = some ti → TIok P t ti) (hm : P.follows .mixedOrders = true) {l : List (Nat × Spec)} (hl : All P l) {es : List (Nat × Nat × Eff)} (he : AllE P es)
    {f : Nat} {fn : Func} {c : Code} (s0 off o2 n : Nat) (hf : P.funcs[f]? = some fn) (hb : fn.body = some c) (hok : (okCode (okOper fn.ntmps) c && Nat.ble n fn.ntmps && !(fn.name == "runtime.NumGoroutine") && Nat.ble fn.results.toList.length 1) = true) :
    SI P f s0 off o2 (iterBody ⟨ts, l, es, off, false, [], [], [], none, false⟩ c fn.results.toList n) := by
  simp only [Bool.and_eq_true, Bool.not_eq_true'] at hok
  refine ⟨?_, fn, c, hf, hok.1.2, hb⟩
  exact soundI_of_body (ctx_ok ht hl he off) hm hf hb hok.1.1.1 (Nat.le_of_ble_eq_true hok.2) (Nat.le_of_ble_eq_true hok.1.1.2)

inductive PLeL : List PV → List PV → Prop
  | nil : PLeL [] []
  | cons {x y : PV} {xs ys : List PV} (h : PLe x y) (t : PLeL xs ys) : PLeL (x :: xs) (y :: ys)
theorem PLeL.spec {xs ys : List PV} (h : PLeL xs ys) : xs.length = ys.length ∧ ∀ i, i < xs.length → PLe (xs.getD i .junk) (ys.getD i .junk) := by
  induction h with
  | nil => exact ⟨rfl, fun i hi => by simp at hi⟩
  | cons h _ ih =>
    refine ⟨by simp [ih.1], fun i hi => ?_⟩
    cases i with
    | zero => exact h
    | succ i => exact ih.2 i (by simpa using hi)
theorem PLe.aggL {xs ys : List PV} (h : PLeL xs ys) : PLe (.agg xs) (.agg ys) := .agg _ _ h.spec.1 h.spec.2
theorem PLe.tupL {xs ys : List PV} (h : PLeL xs ys) : PLe (.tup xs) (.tup ys) := .tup _ _ h.spec.1 h.spec.2

theorem w64 {n : Int} (h1 : -9223372036854775808 ≤ n) (h2 : n ≤ 9223372036854775807) : IntKind.i64.wrap n = n := wrap_id h1 h2


inductive BLeL : List Blk → List Blk → Prop
  | nil : BLeL [] []
  | cons {x y : Blk} {xs ys : List Blk} (h : BLe x y) (t : BLeL xs ys) : BLeL (x :: xs) (y :: ys)

theorem look_zip {α : Type} {R : α → α → Prop} (d : α) (hd : R d d) (f : Nat → α) : ∀ (l : List Nat) (vs : List α), l.length = vs.length → (∀ i, i < l.length → R (f (l.getD i 0)) (vs.getD i d)) → ∀ n, R ((look (l.map fun n => (n, f n)) n).getD d) ((look (l.zip vs) n).getD d)
  | [], vs, _, _, n => by simp [look, hd]
  | m :: l, [], h, _, n => by simp at h
  | m :: l, v :: vs, h, hr, n => by
    simp only [List.map_cons, List.zip_cons_cons, look]
    cases hb : Nat.beq m n with
    | true =>
      simp only [cond_true, Option.getD_some]
      exact hr 0 (by simp)
    | false =>
      simp only [cond_false]
      exact look_zip d hd f l vs (by simpa using h) (fun i hi => hr (i + 1) (by simpa using hi)) n

theorem BLeL.spec {xs ys : List Blk} (h : BLeL xs ys) : xs.length = ys.length ∧ ∀ i, i < xs.length → BLe (xs.getD i .none) (ys.getD i .none) := by
  induction h with
  | nil => exact ⟨rfl, fun i hi => by simp at hi⟩
  | cons h _ ih =>
    refine ⟨by simp [ih.1], fun i hi => ?_⟩
    cases i with
    | zero => exact h
    | succ i => exact ih.2 i (by simpa using hi)

/-- A loop's head: the state there says no more than is kept. -/
theorem sle_head {live keep : List Nat} {st : St} (vals : List PV) (bls : List Blk) (h1 : PLeL (live.map fun n => prune (keepQ 0 keep) (st.slots n)) vals) (h2 : BLeL (keep.map fun s => pruneB (keepQ 0 keep) (st.blocks s)) bls) :
    SLe (clean 0 live keep st) (mkSt (live.zip vals) (keep.zip bls)) := by
  obtain ⟨a1, a2⟩ := h1.spec
  obtain ⟨b1, b2⟩ := h2.spec
  constructor
  · refine look_zip (R := PLe) .junk (.refl _) _ live vals (by simpa using a1) fun i hi => ?_
    have := a2 i (by simpa using hi)
    simpa [List.getD, hi] using this
  · have := look_zip (R := BLe) .none (.refl _) (fun s => pruneB (keepQ 0 keep) (st.blocks s)) keep bls (by simpa using b1) fun i hi => by
      have := b2 i (by simpa using hi)
      simpa [List.getD, hi] using this
    intro s
    have h3 : (bif Nat.blt s 0 then pruneB (keepQ 0 keep) (st.blocks s) else .none) = Blk.none := by
      have : Nat.blt s 0 = false := rfl
      rw [this]; rfl
    show BLe ((look (keep.map fun s => (s, pruneB (keepQ 0 keep) (st.blocks s))) s).getD (bif Nat.blt s 0 then pruneB (keepQ 0 keep) (st.blocks s) else .none)) _
    rw [h3]
    exact this s

theorem app_get {α : Type} (get : Nat → α) (x : α) {len : Nat} (h : x = get len) : ∀ i, i < len + 1 → (bif Nat.blt i len then get i else x) = get i := by
  intro i hi
  by_cases hl : i < len
  · rw [blt_t hl]; rfl
  · have : i = len := by omega
    subst this
    rw [blt_f hl]
    exact h

end Go.V
