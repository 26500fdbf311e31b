/- Part 11: what a function's arguments are, read as data; the last step, from what is said of a function to the law's row. -/
import Derived.Test.YtnjhbmcambofgaaW2
import Derived.ProofKit
import Derived.Deep.Slices
import Derived.Deep.Fields
import Derived.Carry
import Derived.OpenShut
namespace Go.V
open Go.ChangeShapes Go.WideShapes Go.Deep Go.RowKit

inductive Sh
  | bool
  | int (k : IntKind)
  | str
  | slice (l : List Sh)

inductive Good : Sh → PV → Prop
  | bool (b : Bool) : Good .bool (.bool b)
  | int (k : IntKind) (n : Int) (h : (Lit.int k n).wf = true) : Good (.int k) (.int k n)
  | str (s : ByteArray) (h : s.size ≤ maxLen) : Good .str (.str s)
  | slice (l : List Sh) (n : Nat) (get : Nat → List PV) (h : n ≤ maxLen) (hl : ∀ i, i < n → (get i).length = l.length) (hg : ∀ i, i < n → ∀ j, j < l.length → Good (l.getD j .bool) ((get i).getD j .junk)) : Good (.slice l) (.slice none n get)

def fits (P : Program) : Nat → TypeId → List Sh → Bool
  | 0, _, _ => false
  | n + 1, t, l =>
    match P.underlying t with
    | some .bool => match l with | [.bool] => true | _ => false
    | some (.int k) => match l with | [.int k'] => decide (k = k') | _ => false
    | some .string => match l with | [.str] => true | _ => false
    | some (.slice e) => match l with | [.slice m] => Nat.beq (P.cellsOf e) m.length && Nat.blt 0 m.length && fits P n e m | _ => false
    | some (.struct fs) => Nat.beq (P.cellsOf t) l.length && fs.toList.all (fun f => fits P n f.type ((l.drop f.offset).take (P.cellsOf f.type))) &&
        (List.range l.length).all fun i => fs.toList.any fun f => Nat.ble f.offset i && Nat.blt i (f.offset + P.cellsOf f.type)
    | some (.array m e) => Nat.beq (P.cellsOf t) l.length && (Nat.beq (m * P.cellsOf e) l.length && (Nat.blt 0 (P.cellsOf e) && (List.range m).all (fun i => fits P n e ((l.drop (i * P.cellsOf e)).take (P.cellsOf e)))))
    | _ => false

theorem choose_upto {α : Type} [Inhabited α] {n : Nat} {p : Nat → α → Prop} (h : ∀ i, i < n → ∃ x, p i x) : ∃ f : Nat → α, ∀ i, i < n → p i (f i) := by
  classical
  refine ⟨fun i => if hi : i < n then Classical.choose (h i hi) else default, fun i hi => ?_⟩
  simp only [hi, dite_true]
  exact Classical.choose_spec (h i hi)

instance : Inhabited PV := ⟨.junk⟩

def all0 (w : World) : Nat → Nat → Prop := fun b _ => b < w.heap.size

theorem cell_lt {w : World} {a : Addr} {v : Value} (h : w.cell? a = some v) : a.block < w.heap.size := by
  unfold World.cell? at h
  split at h
  · rename_i hh
    exact (Array.getElem?_eq_some_iff.1 hh).1
  · cases h
theorem cell_spot {w : World} {a : Addr} {v : Value} (h : w.cell? a = some v) : a.spot = none := by
  unfold World.cell? at h
  split at h
  · split at h
    · cases h
    · rename_i hs; simpa using hs
  · cases h

section
variable {H : Type} {enc : TypeId × Value → H} {P : Program} {w : World} {spare : Nat → Bool} {held : Bool}

theorem opens : ∀ (n : Nat) (t : TypeId) (l : List Sh) (fuel : Nat) (cs : List Value) (x : DataW H × List MemPlace), fits P n t l = true → DataW.trod enc P w 0 spare held fuel t cs = some x →
    l.length = cs.length ∧ ∀ i, i < cs.length → ∃ pv, Good (l.getD i .bool) pv ∧ RelP (all0 w) w pv (cs.getD i undef)
  | 0, t, l, fuel, cs, x, hf, h => by simp [fits] at hf
  | n + 1, t, l, fuel, cs, x, hf, h => by
    unfold fits at hf
    split at hf
    · rename_i ht
      split at hf
      · obtain ⟨b, rfl, rfl⟩ := DataW.trod_bool ht h
        refine ⟨rfl, fun i hi => ?_⟩
        obtain rfl : i = 0 := by simpa using hi
        exact ⟨.bool b, .bool b, .bool b⟩
      · cases hf
    · rename_i k ht
      split at hf
      · obtain ⟨m, rfl, rfl, hw⟩ := DataW.trod_int ht h
        refine ⟨rfl, fun i hi => ?_⟩
        obtain rfl : i = 0 := by simpa using hi
        obtain rfl := of_decide_eq_true hf
        exact ⟨.int k m, .int k m hw, .int k m⟩
      · cases hf
    · rename_i ht
      split at hf
      · obtain ⟨s, rfl, rfl, hs⟩ := DataW.trod_string ht h
        refine ⟨rfl, fun i hi => ?_⟩
        obtain rfl : i = 0 := by simpa using hi
        exact ⟨.str s, .str s hs, .str s⟩
      · cases hf
    · rename_i e ht
      split at hf
      · rename_i m
        simp only [Bool.and_eq_true, Nat.blt_eq] at hf
        obtain ⟨⟨h1, h2⟩, h3⟩ := hf
        have h1 : P.cellsOf e = m.length := Nat.eq_of_beq_eq_true h1
        rcases open_slice ht h with ⟨rfl, _⟩ | ⟨a, len, cap, q, n', D, Pl, rfl, _, hlc, hcm, hq, _, hx⟩
        · refine ⟨rfl, fun i hi => ?_⟩
          obtain rfl : i = 0 := by simpa using hi
          refine ⟨.slice none 0 fun _ => [], .slice _ _ _ (Nat.zero_le _) (fun i hi => by omega) (fun i hi => by omega), ?_⟩
          exact .slice 0 _ none 0 0 0 0 (fun _ _ => undef) (Nat.le_refl _) (fun h => by omega) (fun _ => rfl) (fun i hi => by omega) (fun i hi => by omega) (fun i hi => by omega)
        · have hlq : len ≤ q := by rw [hq]; split <;> omega
          refine ⟨rfl, fun i hi => ?_⟩
          obtain rfl : i = 0 := by simpa using hi
          have key : ∀ i, i < len → ∃ f : Nat → Value × PV, ∀ j, j < m.length → w.cell? (a.add (i * m.length + j)) = some (f j).1 ∧ Good (m.getD j .bool) (f j).2 ∧ RelP (all0 w) w (f j).2 (f j).1 := by
            intro i hi
            obtain ⟨cs', hc, ht'⟩ := hx i (by omega)
            rw [h1] at hc
            obtain ⟨_, hcl, hat⟩ := World.cells?_some hc
            obtain ⟨hl', hg'⟩ := opens n e m n' cs' _ h3 ht'
            have : Inhabited (Value × PV) := ⟨(undef, .junk)⟩
            refine choose_upto (p := fun j (y : Value × PV) => w.cell? (a.add (i * m.length + j)) = some y.1 ∧ Good (m.getD j .bool) y.2 ∧ RelP (all0 w) w y.2 y.1) fun j hj => ?_
            obtain ⟨pv, hg, hr⟩ := hg' j (by omega)
            refine ⟨(cs'.getD j undef, pv), ?_, hg, hr⟩
            rw [← Go.Deep.add_add, hat j hj]
            simp [List.getD, List.getElem?_eq_getElem (show j < cs'.length by omega)]
          have : Inhabited (Nat → Value × PV) := ⟨fun _ => (undef, .junk)⟩
          obtain ⟨F, hF⟩ := choose_upto key
          have hget : ∀ i j, j < m.length → (((List.range m.length).map fun j => (F i j).2).getD j .junk) = (F i j).2 := by
            intro i j hj
            simp [List.getD, hj]
          have hadr : ∀ i, i < len → a = ⟨a.block, a.off, none⟩ := by
            intro i hi
            have h0 := (hF 0 (by omega) 0 (by omega)).1
            have hs := cell_spot h0
            rw [Nat.zero_mul, Nat.zero_add] at hs
            have : (a.add 0) = a := rfl
            rw [this] at hs
            cases a
            simp only at hs
            subst hs
            rfl
          have hadd : ∀ i, i < len → ∀ k, a.add k = ⟨a.block, a.off + k, none⟩ := by
            intro i hi k
            rw [hadr i hi]
            unfold Addr.add
            split
            · rename_i hk; subst hk; rfl
            · rfl
          refine ⟨.slice none len fun i => (List.range m.length).map fun j => (F i j).2, .slice _ _ _ (by omega) (fun i hi => by simp) (fun i hi j hj => ?_), ?_⟩
          · rw [hget i j hj]
            exact (hF i hi j hj).2.1
          · refine .slice len _ (some a) cap a.block a.off m.length (fun i j => (F i j).1) hlc (fun hp => by rw [hadr 0 hp]) (fun h => by cases h) (fun i hi => by simp) (fun i hi j hj => ?_) (fun i hi j hj => ?_)
            · have hc := (hF i hi j hj).1
              refine ⟨?_, ?_⟩
              · have := cell_lt hc
                rw [hadd i hi] at this
                exact this
              · rw [hadd i hi, ← Nat.add_assoc] at hc
                exact hc
            · rw [hget i j hj]
              exact (hF i hi j hj).2.2
      · cases hf
    · rename_i fs ht
      simp only [Bool.and_eq_true, List.all_eq_true, List.any_eq_true, List.mem_range, Nat.ble_eq, Nat.blt_eq] at hf
      obtain ⟨⟨h1, h2⟩, h3⟩ := hf
      have h1 : P.cellsOf t = l.length := Nat.eq_of_beq_eq_true h1
      obtain ⟨xs, n', rfl, rfl, hcl, hxl, hfs⟩ := DataW.trod_struct ht h
      refine ⟨by omega, fun i hi => ?_⟩
      obtain ⟨f, hfm, hb1, hb2⟩ := h3 i (by omega)
      obtain ⟨k, hk⟩ := List.getElem?_of_mem hfm
      have hk' : fs[k]? = some f := by simpa using hk
      have hx := hfs k f hk'
      have hkl : k < xs.length := by
        have := (Array.getElem?_eq_some_iff.1 hk').1
        omega
      rw [List.getElem?_eq_getElem hkl] at hx
      obtain ⟨hl', hg'⟩ := opens n f.type _ n' _ _ (h2 f hfm) hx
      have hidx : i - f.offset < ((cs.drop f.offset).take (P.cellsOf f.type)).length := by
        simp only [List.length_take, List.length_drop]
        omega
      obtain ⟨pv, hg, hr⟩ := hg' (i - f.offset) hidx
      have e1 : ∀ {α : Type} (L : List α) (d : α), ((L.drop f.offset).take (P.cellsOf f.type)).getD (i - f.offset) d = L.getD i d := by
        intro α L d
        simp only [List.getD]
        rw [List.getElem?_take_of_lt (by omega), List.getElem?_drop]
        congr 2
        omega
      rw [e1] at hg hr
      exact ⟨pv, hg, hr⟩
    · rename_i m e ht
      simp only [Bool.and_eq_true, List.all_eq_true, List.mem_range] at hf
      obtain ⟨h1, h2, h0, h3⟩ := hf
      have h1 : P.cellsOf t = l.length := Nat.eq_of_beq_eq_true h1
      have h2 : m * P.cellsOf e = l.length := Nat.eq_of_beq_eq_true h2
      have h0 : 0 < P.cellsOf e := Nat.le_of_ble_eq_true h0
      obtain ⟨xs, n', rfl, rfl, hcl, hxl, hfs⟩ := DataW.trod_array ht h
      refine ⟨by omega, fun i hi => ?_⟩
      have hq : i / P.cellsOf e < m := by rw [Nat.div_lt_iff_lt_mul h0]; omega
      have hx := hfs (i / P.cellsOf e) hq
      rw [List.getElem?_eq_getElem (by omega)] at hx
      obtain ⟨hl', hg'⟩ := opens n e _ n' _ _ (h3 _ hq) hx
      have hm := Nat.mod_lt i h0
      have hdm := Nat.div_add_mod i (P.cellsOf e)
      rw [Nat.mul_comm] at hdm
      have hle : i / P.cellsOf e * P.cellsOf e + P.cellsOf e ≤ m * P.cellsOf e := by rw [← Nat.succ_mul]; exact Nat.mul_le_mul_right _ hq
      obtain ⟨pv, hg, hr⟩ := hg' (i % P.cellsOf e) (by simp only [List.length_take, List.length_drop]; omega)
      have e1 : ∀ {α : Type} (L : List α) (d : α), ((L.drop (i / P.cellsOf e * P.cellsOf e)).take (P.cellsOf e)).getD (i % P.cellsOf e) d = L.getD i d := by
        intro α L d
        simp only [List.getD]
        rw [List.getElem?_take_of_lt hm, List.getElem?_drop, hdm]
      rw [e1] at hg hr
      exact ⟨pv, hg, hr⟩
    · cases hf
end

inductive ASh
  | one (s : Sh)
  | agg (l : List Sh)
inductive GoodA : ASh → PV → Prop
  | one (s : Sh) (pv : PV) (h : Good s pv) : GoodA (.one s) pv
  | agg (l : List Sh) (cs : List PV) (hl : cs.length = l.length) (h : ∀ i, i < l.length → Good (l.getD i .bool) (cs.getD i .junk)) : GoodA (.agg l) (.agg cs)
def fitsA (P : Program) (t : TypeId) : ASh → Bool
  | .one s => fits P 20 t [s] && (match P.underlying t with | some .bool | some (.int _) | some .string | some (.slice _) => true | _ => false)
  | .agg l => fits P 20 t l && (match P.underlying t with | some (.struct _) | some (.array _ _) => true | _ => false)

section
variable {H : Type} {enc : TypeId × Value → H} {P : Program} {w : World} {spare : Nat → Bool} {held : Bool}

theorem opensA {t : TypeId} {a : ASh} {r : Reach} {base : Nat} {v : Value} {d : DataW H} {p : List MemPlace} (hf : fitsA P t a = true) (hv : Value.okWide P w r base t v) (h : DataW.Trod enc P w 0 spare held t v d p) :
    ∃ pv, GoodA a pv ∧ RelP (all0 w) w pv v := by
  obtain ⟨fuel, h⟩ := h
  cases a with
  | one s =>
    simp only [fitsA, Bool.and_eq_true] at hf
    obtain ⟨h1, h2⟩ := hf
    obtain ⟨hl, hg⟩ := opens 20 t [s] fuel _ _ h1 h
    have hc : v.cells = #[v] := by
      cases v with
      | agg cs => exfalso; revert h2 hv; unfold Value.okWide Cell.okWide Cell.ok; cases P.underlying t with
        | none => simp
        | some u => cases u <;> simp
      | _ => rfl
    rw [hc] at hg
    obtain ⟨pv, hgd, hr⟩ := hg 0 (by simp)
    exact ⟨pv, .one s pv hgd, hr⟩
  | agg l =>
    simp only [fitsA, Bool.and_eq_true] at hf
    obtain ⟨h1, h2⟩ := hf
    obtain ⟨hl, hg⟩ := opens 20 t l fuel _ _ h1 h
    have hvv : ∃ cs, v = .agg cs := by
      revert h2 hv
      unfold Value.okWide
      cases P.underlying t with
      | none => simp
      | some u => cases u <;> simp <;> (intro cs h _ _; exact ⟨cs, h⟩)
    obtain ⟨cs, rfl⟩ := hvv
    simp only [Value.cells, Array.length_toList] at hl hg
    obtain ⟨g, hg⟩ := choose_upto (p := fun i pv => Good (l.getD i .bool) pv ∧ RelP (all0 w) w pv (cs.toList.getD i undef)) hg
    have hget : ∀ i, i < cs.size → ((List.range cs.size).map g).getD i .junk = g i := by
      intro i hi
      simp [List.getD, hi]
    refine ⟨.agg ((List.range cs.size).map g), .agg l _ (by simp; omega) (fun i hi => ?_), .agg _ cs (by simp) fun i hi => ?_⟩
    · rw [hget i (by omega)]
      exact (hg i (by omega)).1
    · have hi : i < cs.size := by simpa using hi
      rw [hget i hi]
      have := (hg i hi).2
      simpa [List.getD, Array.getD, hi] using this
end

/-- Argument by argument. -/
inductive GoodAll : List ASh → List PV → Prop
  | nil : GoodAll [] []
  | cons {a : ASh} {pv : PV} {l : List ASh} {pvs : List PV} (h : GoodA a pv) (t : GoodAll l pvs) : GoodAll (a :: l) (pv :: pvs)

def fitsAll (P : Program) : List TypeId → List ASh → Bool
  | [], [] => true
  | t :: ts, a :: as => fitsA P t a && P.readableRec t && Nat.blt t P.types.size && fitsAll P ts as
  | _, _ => false

section
variable {H : Type} {enc : TypeId × Value → H} {P : Program} {w : World}

theorem opens_all {base : Nat} : ∀ {ts : List TypeId} {as : List ASh} {vs : List Value} {ds : List (DataW H)} {ps : List MemPlace}, fitsAll P ts as = true → (∀ (j : Nat) t v, ts[j]? = some t → vs[j]? = some v → Value.okWide P w .any base t v) →
    DataW.TrodAll enc P w 0 (fun _ => true) true ts vs ds ps → ∃ pvs, GoodAll as pvs ∧ vs.length = pvs.length ∧ ∀ i, i < pvs.length → RelP (all0 w) w (pvs.getD i .junk) (vs.getD i undef)
  | [], [], vs, ds, ps, _, _, h => by
    obtain ⟨rfl, rfl, rfl⟩ := trodAll_nil h
    exact ⟨[], .nil, rfl, fun i hi => by simp at hi⟩
  | [], _ :: _, _, _, _, hf, _, _ => by simp [fitsAll] at hf
  | _ :: _, [], _, _, _, hf, _, _ => by simp [fitsAll] at hf
  | t :: ts, a :: as, vs, ds, ps, hf, hv, h => by
    obtain ⟨v, vs', d, ds', p, q, rfl, rfl, rfl, h1, h2⟩ := trodAll_cons h
    simp only [fitsAll, Bool.and_eq_true] at hf
    obtain ⟨pv, hg, hr⟩ := opensA hf.1.1.1 (hv 0 t v rfl rfl) h1
    obtain ⟨pvs, hgs, hl, hrs⟩ := opens_all hf.2 (fun j t v ht hv' => hv (j + 1) t v (by simpa using ht) (by simpa using hv')) h2
    refine ⟨pv :: pvs, .cons hg hgs, by simp [hl], fun i hi => ?_⟩
    cases i with
    | zero => exact hr
    | succ i => exact hrs i (by simpa using hi)

theorem trod_all_stays (hl : laidOutB P = true) {W W' : World} (hb : Below W.heap.size W W') : ∀ {ts : List TypeId} {as : List ASh} {vs : List Value} {ds : List (DataW H)} {ps : List MemPlace}, fitsAll P ts as = true →
    DataW.TrodAll enc P W 0 (fun _ => true) true ts vs ds ps → (∀ x ∈ ps, x.block < W.heap.size) → DataW.TrodAll enc P W' 0 (fun b => decide (b < W.heap.size)) true ts vs ds ps
  | [], _, vs, ds, ps, _, h, _ => by
    obtain ⟨rfl, rfl, rfl⟩ := trodAll_nil h
    exact rfl
  | _ :: _, [], _, _, _, hf, _, _ => by simp [fitsAll] at hf
  | t :: ts, a :: as, vs, ds, ps, hf, h, hlt => by
    obtain ⟨v, vs', d, ds', p, q, rfl, rfl, rfl, h1, h2⟩ := trodAll_cons h
    simp only [fitsAll, Bool.and_eq_true, Nat.blt_eq] at hf
    exact ⟨p, q, Below.trod hl hf.1.1.2 hf.1.2 h1 hb fun x hx => hlt x (List.mem_append_left _ hx), trod_all_stays hl hb hf.2 h2 fun x hx => hlt x (List.mem_append_right _ hx), rfl⟩

/-- A law that answers true, whatever it is given, and changes nothing that it was given. -/
theorem law_calls {f : Nat} {fn : Func} {s : ChangeSpec} {sp : Spec} {shs : List ASh} {tb : TypeId} (hl : laidOutB P = true) (hS : SF P f sp) (hfit : fitsAll P fn.params.toList shs = true) (hres : fn.resultTypes = #[tb]) (htb : P.underlying tb = some .bool)
    (hvars : s.vars = []) (hfn : ∀ (H : Type) (ds : List (DataW H)), ds.length = fn.params.toList.length → s.fn H ds = { results := [.lit (.bool true)], args := ds })
    (hsp : ∀ pvs, GoodAll shs pvs → (sp pvs).1.getD True ∧ (sp pvs).2 = .bool true)
    (W : World) (base : Nat) (args : Array Value) (ds gs : List (DataW H)) (before : List MemPlace) (hval : ∀ (j : Nat) t v, fn.params[j]? = some t → args[j]? = some v → Value.okWide P W .any base t v)
    (hW : DataW.Whole enc P fn.params.toList s.vars false W args.toList ds gs before) :
    Calls P f args W fun e W' => ∃ v, e = .returned v ∧ s.post enc P fn false true false false W args v W' := by
  have hW' := hW
  obtain ⟨p, q, hA, hV, rfl, hfz, _⟩ := hW'
  rw [hvars] at hV
  obtain ⟨rfl, rfl⟩ := trodVars_none hV
  obtain ⟨pvs, hg, hlen, hr⟩ := opens_all hfit (fun j t v ht hv => hval j t v (by simpa using ht) (by simpa using hv)) hA
  obtain ⟨h1, h2⟩ := hsp pvs hg
  have hr' : ∀ i, i < pvs.length → RelP (all0 W) W (pvs.getD i .junk) (args.getD i undef) := by
    intro i hi
    have := hr i hi
    have hi' : i < args.size := by
      have : args.toList.length = pvs.length := hlen
      rw [Array.length_toList] at this
      omega
    simpa [List.getD, Array.getD, hi'] using this
  refine (hS.1 pvs (all0 W) W args (by simpa using hlen) hr' (fun _ _ h => h) h1).mono fun e W' ⟨v, σ', he, hb, hσ, hσ', hrel⟩ => ?_
  rw [h2] at hrel
  obtain rfl : v = .bool true := by cases hrel; rfl
  have hlt := hW.lt
  have hdl : ds.length = fn.params.toList.length := by
    clear hW hval hfz hr hr' hlen hg h1 h2 hlt hfit
    revert hA
    generalize fn.params.toList = ts
    generalize args.toList = vs
    generalize p = ps
    intro h
    induction ts generalizing vs ds ps with
    | nil => obtain ⟨_, rfl, _⟩ := trodAll_nil h; rfl
    | cons t ts ih =>
      obtain ⟨v, vs', d, ds', p, q, rfl, rfl, rfl, _, h2⟩ := trodAll_cons h
      simp [ih _ _ _ h2]
  refine ⟨_, he, ds, [], p ++ [], [], p, [], hW, ?_, ?_, ?_, ?_, fun h => by cases h⟩
  · rw [List.append_nil, hfn H ds hdl, hres]
    exact trodAll_mk1 ⟨1, by simp [DataW.trod, htb, Value.cells]⟩
  · rw [List.append_nil, hfn H ds hdl]
    exact trod_all_stays hl hb hfit hA fun x hx => hlt x (List.mem_append_left _ hx)
  · rw [hvars, List.append_nil, hfn H ds hdl]
    rfl
  · exact hb.frame _
end
end Go.V
