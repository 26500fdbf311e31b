/- What a plain value says of a machine's value in a world; what keeps it. -/
import Derived.Test.YtiidjohhcappdaaVa
namespace Go.V
open Go.RowKit (Below)

/-- ρ: the block of a variable or array of the function's own (and the size of its elements); hd: the newest length of a slice that is grown, its block, its capacity; σ: the cells that do not change any more. -/
structure Hd where
  L : Nat
  bo : Option Nat
  cp : Nat
  sz : Nat
  el : Nat

structure Env where
  ρ : Nat → Option (Nat × Nat)
  hd : Nat → Option Hd
  σ : Nat → Nat → Prop

/-- Of values that name no block of the function's own. -/
inductive RelP (σ : Nat → Nat → Prop) (w : World) : PV → Value → Prop
  | junk (v : Value) : RelP σ w .junk v
  | und : RelP σ w .und undef
  | tt : RelP σ w .tt (.bool true)
  | ff : RelP σ w .ff (.bool false)
  | bool (b : Bool) : RelP σ w (.bool b) (.bool b)
  | int (k : IntKind) (n : Int) : RelP σ w (.int k n) (.int k n)
  | str (s : ByteArray) : RelP σ w (.str s) (.string s)
  | nilp : RelP σ w .nilp (.pointer none)
  | yld (l : Nat) : RelP σ w (.yld l) (.func (.yield l) #[] #[])
  | nils : RelP σ w .nils (.slice none 0 0)
  | agg (cs : List PV) (a : Array Value) (hs : a.size = cs.length) (h : ∀ i, i < cs.length → RelP σ w (cs.getD i .junk) (a.getD i undef)) : RelP σ w (.agg cs) (.agg a)
  | tup (cs : List PV) (a : Array Value) (hs : a.size = cs.length) (h : ∀ i, i < cs.length → RelP σ w (cs.getD i .junk) (a.getD i undef)) : RelP σ w (.tup cs) (.tuple a)
  | cptr (cs : List PV) (b o : Nat) (c : Nat → Value) (h1 : ∀ j, j < cs.length → σ b (o + j) ∧ w.cell? ⟨b, o + j, none⟩ = some (c j))
      (h2 : ∀ j, j < cs.length → RelP σ w (cs.getD j .junk) (c j)) : RelP σ w (.cptr cs) (.pointer (some ⟨b, o, none⟩))
  | slice (len : Nat) (get : Nat → List PV) (a : Option Addr) (cap b o sz : Nat) (c : Nat → Nat → Value) (hc : len ≤ cap)
      (ha : 0 < len → a = some ⟨b, o, none⟩) (hn : a = none → cap = 0) (hl : ∀ i, i < len → (get i).length = sz)
      (h1 : ∀ i, i < len → ∀ j, j < sz → σ b (o + i * sz + j) ∧ w.cell? ⟨b, o + i * sz + j, none⟩ = some (c i j))
      (h2 : ∀ i, i < len → ∀ j, j < sz → RelP σ w ((get i).getD j .junk) (c i j)) : RelP σ w (.slice none len get) (.slice a len cap)
  | fn (f : Fn) (xs ys : List PV) (a b : Array Value) (ha : a.size = xs.length) (hb : b.size = ys.length) (h1 : ∀ i, i < xs.length → RelP σ w (xs.getD i .junk) (a.getD i undef))
      (h2 : ∀ i, i < ys.length → RelP σ w (ys.getD i .junk) (b.getD i undef)) : RelP σ w (.fn f xs ys) (.func f a b)

theorem RelP.mono {σ σ' : Nat → Nat → Prop} {w w' : World} (hσ : ∀ b o, σ b o → σ' b o) (hw : ∀ b o, σ b o → w'.cell? ⟨b, o, none⟩ = w.cell? ⟨b, o, none⟩) {p : PV} {v : Value} (h : RelP σ w p v) : RelP σ' w' p v := by
  induction h with
  | junk v => exact .junk v
  | und => exact .und
  | tt => exact .tt
  | ff => exact .ff
  | bool b => exact .bool b
  | int k n => exact .int k n
  | str s => exact .str s
  | nilp => exact .nilp
  | yld l => exact .yld l
  | nils => exact .nils
  | agg cs a hs _ ih => exact .agg cs a hs ih
  | tup cs a hs _ ih => exact .tup cs a hs ih
  | cptr cs b o c h1 _ ih => exact .cptr cs b o c (fun j hj => ⟨hσ _ _ (h1 j hj).1, (hw _ _ (h1 j hj).1).trans (h1 j hj).2⟩) ih
  | slice len get a cap b o sz c hc ha hn hl h1 _ ih =>
    exact .slice len get a cap b o sz c hc ha hn hl (fun i hi j hj => ⟨hσ _ _ (h1 i hi j hj).1, (hw _ _ (h1 i hi j hj).1).trans (h1 i hi j hj).2⟩) ih
  | fn f xs ys a b ha hb _ _ ih1 ih2 => exact .fn f xs ys a b ha hb ih1 ih2

inductive Rel (E : Env) (w : World) : PV → Value → Prop
  | pure {p : PV} {v : Value} (h : RelP E.σ w p v) : Rel E w p v
  | agg (cs : List PV) (a : Array Value) (hs : a.size = cs.length) (h : ∀ i, i < cs.length → Rel E w (cs.getD i .junk) (a.getD i undef)) : Rel E w (.agg cs) (.agg a)
  | tup (cs : List PV) (a : Array Value) (hs : a.size = cs.length) (h : ∀ i, i < cs.length → Rel E w (cs.getD i .junk) (a.getD i undef)) : Rel E w (.tup cs) (.tuple a)
  | ptr (s off b sz : Nat) (h : E.ρ s = some (b, sz)) : Rel E w (.ptr s off) (.pointer (some ⟨b, off, none⟩))
  | eptr (s i off b sz : Nat) (h : E.ρ s = some (b, sz)) : Rel E w (.eptr s i off) (.pointer (some ⟨b, i * sz + off, none⟩))
  | tslice (s len : Nat) (get : Nat → List PV) (a : Option Addr) (cap : Nat) (h : RelP E.σ w (.slice none len get) (.slice a len cap))
      (g : Hd) (hh : E.hd s = some g) (hL : len ≤ g.L) (hx : len = g.L → a = g.bo.map (fun b => ⟨b, 0, none⟩) ∧ cap = g.cp) :
      Rel E w (.slice (some s) len get) (.slice a len cap)
  | own (s len b sz cap : Nat) (h : E.ρ s = some (b, sz)) (hc : len ≤ cap) : Rel E w (.own s len) (.slice (some ⟨b, 0, none⟩) len cap)
  | fn (f : Fn) (xs ys : List PV) (a b : Array Value) (ha : a.size = xs.length) (hb : b.size = ys.length) (h1 : ∀ i, i < xs.length → Rel E w (xs.getD i .junk) (a.getD i undef))
      (h2 : ∀ i, i < ys.length → Rel E w (ys.getD i .junk) (b.getD i undef)) : Rel E w (.fn f xs ys) (.func f a b)

structure Env.le (E E' : Env) : Prop where
  ρ : ∀ s x, E.ρ s = some x → E'.ρ s = some x
  σ : ∀ b o, E.σ b o → E'.σ b o
  hd : ∀ s g, E.hd s = some g → ∃ g', E'.hd s = some g' ∧ g.L ≤ g'.L ∧ (g'.L = g.L → g'.bo = g.bo ∧ g'.cp = g.cp)

theorem Env.le_refl (E : Env) : E.le E := ⟨fun _ _ h => h, fun _ _ h => h, fun _ g h => ⟨g, h, Nat.le_refl _, fun _ => ⟨rfl, rfl⟩⟩⟩

/-- What is said stays said, where the cells that do not change have not changed. -/
theorem Rel.mono {E E' : Env} {w w' : World} (hE : E.le E') (hw : ∀ b o, E.σ b o → w'.cell? ⟨b, o, none⟩ = w.cell? ⟨b, o, none⟩) {p : PV} {v : Value} (h : Rel E w p v) : Rel E' w' p v := by
  induction h with
  | pure h => exact .pure (h.mono hE.σ hw)
  | agg cs a hs _ ih => exact .agg cs a hs ih
  | tup cs a hs _ ih => exact .tup cs a hs ih
  | ptr s off b sz h => exact .ptr s off b sz (hE.ρ _ _ h)
  | eptr s i off b sz h => exact .eptr s i off b sz (hE.ρ _ _ h)
  | tslice s len get a cap h g hh hL hx =>
    obtain ⟨g', e', hL', hx'⟩ := hE.hd s g hh
    refine .tslice s len get a cap (h.mono hE.σ hw) g' e' (Nat.le_trans hL hL') fun hlen => ?_
    have hq : len = g.L := by omega
    obtain ⟨h1, h2⟩ := hx' (by omega)
    rw [h1, h2]
    exact hx hq
  | own s len b sz cap h hc => exact .own s len b sz cap (hE.ρ _ _ h) hc
  | fn f xs ys a b ha hb _ _ ih1 ih2 => exact .fn f xs ys a b ha hb ih1 ih2

-- What a value must be, by what is said of it.
theorem Rel.int_inv {E : Env} {w : World} {k : IntKind} {n : Int} {v : Value} (h : Rel E w (.int k n) v) : v = .int k n := by
  cases h with | pure h => cases h; rfl
theorem Rel.bool_inv {E : Env} {w : World} {b : Bool} {v : Value} (h : Rel E w (.bool b) v) : v = .bool b := by
  cases h with | pure h => cases h; rfl
theorem Rel.tt_inv {E : Env} {w : World} {v : Value} (h : Rel E w .tt v) : v = .bool true := by
  cases h with | pure h => cases h; rfl
theorem Rel.ff_inv {E : Env} {w : World} {v : Value} (h : Rel E w .ff v) : v = .bool false := by
  cases h with | pure h => cases h; rfl
theorem Rel.und_inv {E : Env} {w : World} {v : Value} (h : Rel E w .und v) : v = undef := by
  cases h with | pure h => cases h; rfl
theorem Rel.nils_inv {E : Env} {w : World} {v : Value} (h : Rel E w .nils v) : v = .slice none 0 0 := by
  cases h with | pure h => cases h; rfl
theorem Rel.boolOf_inv {E : Env} {w : World} {p : PV} {b : Bool} {v : Value} (hp : boolOf p = some b) (h : Rel E w p v) : v = .bool b := by
  cases p <;> simp [boolOf] at hp <;> subst hp
  · exact h.tt_inv
  · exact h.ff_inv
  · exact h.bool_inv
theorem Rel.agg_inv {E : Env} {w : World} {cs : List PV} {v : Value} (h : Rel E w (.agg cs) v) : ∃ a : Array Value, v = .agg a ∧ a.size = cs.length ∧ ∀ i, i < cs.length → Rel E w (cs.getD i .junk) (a.getD i undef) := by
  cases h with
  | pure h => cases h with | agg _ a hs h => exact ⟨a, rfl, hs, fun i hi => .pure (h i hi)⟩
  | agg _ a hs h => exact ⟨a, rfl, hs, h⟩
theorem Rel.tup_inv {E : Env} {w : World} {cs : List PV} {v : Value} (h : Rel E w (.tup cs) v) : ∃ a : Array Value, v = .tuple a ∧ a.size = cs.length ∧ ∀ i, i < cs.length → Rel E w (cs.getD i .junk) (a.getD i undef) := by
  cases h with
  | pure h => cases h with | tup _ a hs h => exact ⟨a, rfl, hs, fun i hi => .pure (h i hi)⟩
  | tup _ a hs h => exact ⟨a, rfl, hs, h⟩
theorem Rel.yld_inv {E : Env} {w : World} {l : Nat} {v : Value} (h : Rel E w (.yld l) v) : v = .func (.yield l) #[] #[] := by
  cases h with
  | pure h => cases h; rfl
theorem Rel.ptr_inv {E : Env} {w : World} {s off : Nat} {v : Value} (h : Rel E w (.ptr s off) v) : ∃ b sz, E.ρ s = some (b, sz) ∧ v = .pointer (some ⟨b, off, none⟩) := by
  cases h with
  | pure h => cases h
  | ptr _ _ b sz h => exact ⟨b, sz, h, rfl⟩
theorem Rel.eptr_inv {E : Env} {w : World} {s i off : Nat} {v : Value} (h : Rel E w (.eptr s i off) v) : ∃ b sz, E.ρ s = some (b, sz) ∧ v = .pointer (some ⟨b, i * sz + off, none⟩) := by
  cases h with
  | pure h => cases h
  | eptr _ _ _ b sz h => exact ⟨b, sz, h, rfl⟩
theorem Rel.own_inv {E : Env} {w : World} {s len : Nat} {v : Value} (h : Rel E w (.own s len) v) : ∃ b sz cap, E.ρ s = some (b, sz) ∧ len ≤ cap ∧ v = .slice (some ⟨b, 0, none⟩) len cap := by
  cases h with
  | pure h => cases h
  | own _ _ b sz cap h hc => exact ⟨b, sz, cap, h, hc, rfl⟩
theorem Rel.fn_inv {E : Env} {w : World} {f : Fn} {xs ys : List PV} {v : Value} (h : Rel E w (.fn f xs ys) v) : ∃ a b : Array Value, v = .func f a b ∧ a.size = xs.length ∧ b.size = ys.length ∧
    (∀ i, i < xs.length → Rel E w (xs.getD i .junk) (a.getD i undef)) ∧ ∀ i, i < ys.length → Rel E w (ys.getD i .junk) (b.getD i undef) := by
  cases h with
  | pure h => cases h with | fn _ _ _ a b ha hb h1 h2 => exact ⟨a, b, rfl, ha, hb, fun i hi => .pure (h1 i hi), fun i hi => .pure (h2 i hi)⟩
  | fn _ _ _ a b ha hb h1 h2 => exact ⟨a, b, rfl, ha, hb, h1, h2⟩
theorem Rel.cptr_inv {E : Env} {w : World} {cs : List PV} {v : Value} (h : Rel E w (.cptr cs) v) : ∃ b o, ∃ c : Nat → Value, v = .pointer (some ⟨b, o, none⟩) ∧
    (∀ j, j < cs.length → E.σ b (o + j) ∧ w.cell? ⟨b, o + j, none⟩ = some (c j)) ∧ ∀ j, j < cs.length → RelP E.σ w (cs.getD j .junk) (c j) := by
  cases h with
  | pure h => cases h with | cptr _ b o c h1 h2 => exact ⟨b, o, c, rfl, h1, h2⟩
/-- Of a slice, whether it is grown or not. -/
theorem Rel.slice_inv {E : Env} {w : World} {tag : Option Nat} {len : Nat} {get : Nat → List PV} {v : Value} (h : Rel E w (.slice tag len get) v) :
    ∃ a cap, v = .slice a len cap ∧ RelP E.σ w (.slice none len get) v := by
  cases h with
  | pure h => cases h with | slice _ _ a cap b o sz c hc ha hn hl h1 h2 => exact ⟨a, cap, rfl, .slice _ _ a cap b o sz c hc ha hn hl h1 h2⟩
  | tslice _ _ _ a cap h _ _ _ _ => exact ⟨a, cap, rfl, h⟩

theorem plain1_relP {E : Env} {w : World} {p : PV} {v : Value} (hp : plain1 p = true) (h : Rel E w p v) : RelP E.σ w p v := by
  cases h with
  | pure h => exact h
  | tslice s => simp [plain1] at hp
  | _ => simp [plain1] at hp
theorem all_getD {f : PV → Bool} {cs : List PV} (h : cs.all f = true) (i : Nat) (hi : i < cs.length) : f (cs.getD i .junk) = true := by
  rw [List.all_eq_true] at h
  have : cs.getD i .junk = cs[i] := by simp [List.getD, hi]
  rw [this]
  exact h _ (List.getElem_mem hi)
theorem plain1a_relP {E : Env} {w : World} {p : PV} {v : Value} (hp : plain1a p = true) (h : Rel E w p v) : RelP E.σ w p v := by
  cases p with
  | agg cs =>
    obtain ⟨a, rfl, hs, hh⟩ := h.agg_inv
    exact .agg cs a hs fun i hi => plain1_relP (all_getD hp i hi) (hh i hi)
  | _ => exact plain1_relP hp h
theorem plain2_relP {E : Env} {w : World} {p : PV} {v : Value} (hp : plain2 p = true) (h : Rel E w p v) : RelP E.σ w p v := by
  cases p with
  | agg cs =>
    obtain ⟨a, rfl, hs, hh⟩ := h.agg_inv
    exact .agg cs a hs fun i hi => plain1_relP (all_getD hp i hi) (hh i hi)
  | fn f xs ys =>
    obtain ⟨a, b, rfl, ha, hb, h1, h2⟩ := h.fn_inv
    simp only [plain2, Bool.and_eq_true] at hp
    exact .fn f xs ys a b ha hb (fun i hi => plain1a_relP (all_getD hp.1 i hi) (h1 i hi)) fun i hi => plain1a_relP (all_getD hp.2 i hi) (h2 i hi)
  | _ => exact plain1_relP hp h
theorem plain3_relP {E : Env} {w : World} {p : PV} {v : Value} (hp : plain3 p = true) (h : Rel E w p v) : RelP E.σ w p v := by
  cases p with
  | tup vs =>
    obtain ⟨a, rfl, hs, hh⟩ := h.tup_inv
    exact .tup vs a hs fun i hi => plain2_relP (all_getD hp i hi) (hh i hi)
  | _ => exact plain2_relP hp h
theorem toView_rel {E : Env} {w : World} {p : PV} {v : Value} (h : Rel E w p v) : Rel E w (toView p) v := by
  cases p with
  | slice tag len get => obtain ⟨a, cap, rfl, h'⟩ := h.slice_inv; exact .pure h'
  | nils => obtain rfl := h.nils_inv; exact .pure (.slice 0 _ none 0 0 0 0 (fun _ _ => undef) (Nat.le_refl _) (by omega) (fun _ => rfl) (by intro i hi; omega) (by intro i hi; omega) (by intro i hi; omega))
  | _ => exact h

end Go.V
