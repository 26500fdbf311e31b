/- Layer 4: the least plan, as mathematics. -/
import Derived.Test.YtnjhbmcambofgaaS30
namespace Go.Proofs.Ytnjhbmcambofgaa
open Go.V
set_option linter.unusedSimpArgs false
set_option linter.unusedVariables false

def toL (p : PS) : List Int := (List.range p.k).map fun i => intOf (p.g i)
theorem toL_len (p : PS) : (toL p).length = p.k := by unfold toL; rw [List.length_map, List.length_range]
theorem toL_push (p : PS) (q : Int) : toL (pushP p q) = toL p ++ [q] := by
  unfold toL
  show (List.range (p.k + 1)).map _ = _
  rw [List.range_succ, List.map_append, List.map_singleton]
  congr 1
  · refine List.map_congr_left fun i hi => ?_
    have hi : i < p.k := List.mem_range.1 hi
    show intOf (bif Nat.blt i p.k then p.g i else _) = _
    rw [blt_t hi]; rfl
  · show [intOf (bif Nat.blt p.k p.k then p.g p.k else _)] = _
    rw [blt_f (Nat.lt_irrefl _), Nat.sub_self]; rfl
theorem toL_pop (p : PS) {l : List Int} {x : Int} (h : toL p = l ++ [x]) : toL (popP p) = l := by
  have hk : p.k = l.length + 1 := by rw [← toL_len, h, List.length_append]; rfl
  have e : toL p = toL (popP p) ++ [intOf (p.g (p.k - 1))] := by
    unfold toL
    show _ = (List.range (p.k - 1)).map _ ++ _
    rw [show List.range p.k = List.range (p.k - 1 + 1) by rw [hk]; rfl, List.range_succ, List.map_append, List.map_singleton]
    rfl
  rw [h] at e
  exact (List.append_inj' e rfl).1.symm
def loopL (f : Int → List Int → Option (List Int)) : Nat → Int → List Int → Option (List Int)
  | 0, _, _ => none
  | n + 1, q, l => match f (q + 1) (l ++ [q]) with
    | some r => some r
    | none => loopL f n (q + 1) l
def chooseL (W : Int) (D : List Int → Bool) : Nat → Int → List Int → Option (List Int)
  | 0, _, l => bif D l then some l else none
  | m + 1, q, l => loopL (chooseL W D m) (W - (m + 1) - q + 1).toNat q l
/-- What a choice with a plan that grows and shrinks has to do with one of lists. -/
def Sim (r : Bool × PS) (l : List Int) : Option (List Int) → Prop
  | some x => r.1 = true ∧ toL r.2 = x
  | none => r.1 = false ∧ toL r.2 = l
def decL (N : Nat) (rows : Nat → List PV) (l : List Int) : Bool := decB N rows l.length fun i => intL (l.getD i 0)
theorem dec_toL {N : Nat} {rows : Nat → List PV} {p : PS} (h : okPS N p) : decB N rows p.k p.g = decL N rows (toL p) := by
  unfold decL
  rw [toL_len]
  refine decB_congr fun i hi => ?_
  obtain ⟨x, hx, _⟩ := h i hi
  have : (toL p).getD i 0 = intOf (p.g i) := by
    unfold toL
    rw [List.getD, List.getElem?_map, List.getElem?_range hi]
    rfl
  rw [this, hx]; rfl
theorem loopP_L {N m : Nat} {f : Int → PS → Bool × PS} {F : Int → List Int → Option (List Int)} (W : Int) (hW : W ≤ N)
    (hf : ∀ q p, 0 ≤ q → okPS N p → okPS N (f q p).2 ∧ (f q p).2.k ≤ p.k + m ∧ ((f q p).1 = false → (f q p).2.k = p.k))
    (hF : ∀ q p, 0 ≤ q → okPS N p → Sim (f q p) (toL p) (F q (toL p))) :
    ∀ (n : Nat) (q : Int) (p : PS), 0 ≤ q → q + n ≤ W → okPS N p → Sim (loopP f n q p) (toL p) (loopL F n q (toL p))
  | 0, q, p, _, _, h => ⟨rfl, rfl⟩
  | n + 1, q, p, hq, hn, h => by
    have h1 := hf (q + 1) (pushP p q) (by omega) (okPS_push h hq (by omega))
    have h2 := hF (q + 1) (pushP p q) (by omega) (okPS_push h hq (by omega))
    rw [toL_push] at h2
    unfold loopP loopL
    cases hc : F (q + 1) (toL p ++ [q]) with
    | some r =>
      rw [hc] at h2
      rw [h2.1]
      exact ⟨rfl, h2.2⟩
    | none =>
      rw [hc] at h2
      rw [h2.1]
      have e := toL_pop _ h2.2
      have h3 := loopP_L W hW hf hF n (q + 1) (popP (f (q + 1) (pushP p q)).2) (by omega) (by omega) (okPS_pop h1.1)
      rw [e] at h3
      exact h3
theorem chooseP_L {W : Int} {N : Nat} {rows : Nat → List PV} (hW : W ≤ N) : ∀ m q p, 0 ≤ q → okPS N p → Sim (chooseP W N rows m q p) (toL p) (chooseL W (decL N rows) m q (toL p))
  | 0, q, p, _, h => by
    unfold chooseP chooseL
    rw [dec_toL h]
    cases hd : decL N rows (toL p) with
    | true => exact ⟨rfl, rfl⟩
    | false => exact ⟨rfl, rfl⟩
  | m + 1, q, p, hq, h => by
    unfold chooseP chooseL
    by_cases hc : 0 ≤ W - (m + 1) - q + 1
    · exact loopP_L (m := m) W hW (fun q p hq h => chooseP_ok hW m q p hq h) (fun q p hq h => chooseP_L hW m q p hq h) _ q p hq (by omega) h
    · have : (W - (m + 1) - q + 1).toNat = 0 := by omega
      rw [this]
      exact ⟨rfl, rfl⟩
-- LISTS THAT RISE
def Rise (W : Int) : Int → List Int → Prop
  | _, [] => True
  | q, x :: t => q ≤ x ∧ x < W ∧ Rise W (x + 1) t
def lexlt : List Int → List Int → Prop
  | x :: s, y :: t => x < y ∨ (x = y ∧ lexlt s t)
  | _, _ => False
theorem rise_len {W : Int} : ∀ {s : List Int} {q : Int}, Rise W q s → q ≤ W → q + s.length ≤ W
  | [], q, _, h => by show q + (0 : Nat) ≤ W; omega
  | x :: t, q, ⟨h1, h2, h3⟩, _ => by
    have := rise_len h3 (by omega)
    show q + ((t.length + 1 : Nat) : Int) ≤ W
    omega
theorem rise_le {W : Int} : ∀ {s : List Int} {q q' : Int}, Rise W q s → q' ≤ q → Rise W q' s
  | [], _, _, _, _ => trivial
  | _ :: _, _, _, ⟨h1, h2, h3⟩, h => ⟨by omega, h2, h3⟩
theorem loopL_sem {W : Int} {D : List Int → Bool} {m : Nat} {F : Int → List Int → Option (List Int)}
    (hS : ∀ q l r, F q l = some r → ∃ s, r = l ++ s ∧ s.length = m ∧ Rise W q s ∧ D r = true ∧ ∀ s', s'.length = m → Rise W q s' → D (l ++ s') = true → ¬ lexlt s' s)
    (hN : ∀ q l, F q l = none → ∀ s', s'.length = m → Rise W q s' → D (l ++ s') = false) :
    ∀ (n : Nat) (q : Int) (l : List Int), (n : Int) = W - (m + 1) - q + 1 ∨ (n = 0 ∧ W - (m + 1) - q + 1 ≤ 0) →
      (∀ r, loopL F n q l = some r → ∃ s, r = l ++ s ∧ s.length = m + 1 ∧ Rise W q s ∧ D r = true ∧ ∀ s', s'.length = m + 1 → Rise W q s' → D (l ++ s') = true → ¬ lexlt s' s) ∧
      (loopL F n q l = none → ∀ s', s'.length = m + 1 → Rise W q s' → D (l ++ s') = false)
  | 0, q, l, hn => by
    refine ⟨fun r h => (by cases h), fun _ s' hl hr => ?_⟩
    exfalso
    match s', hl, hr with
    | x :: t, hl, ⟨h1, h2, h3⟩ =>
      have := rise_len h3 (by omega)
      have hl : t.length + 1 = m + 1 := hl
      omega
  | n + 1, q, l, hn => by
    have hn : ((n + 1 : Nat) : Int) = W - (m + 1) - q + 1 := by rcases hn with h | ⟨h, _⟩; exact h; exact absurd h (by omega)
    have ih := loopL_sem hS hN n (q + 1) l (by omega)
    unfold loopL
    cases hc : F (q + 1) (l ++ [q]) with
    | some r0 =>
      refine ⟨fun r h => ?_, fun h => (by cases h)⟩
      obtain rfl : r0 = r := by injection h
      obtain ⟨s, rfl, h1, h2, h3, h4⟩ := hS _ _ _ hc
      refine ⟨q :: s, by rw [List.append_assoc]; rfl, by show s.length + 1 = m + 1; omega, ⟨by omega, by omega, h2⟩, h3, fun s' hl hr hd hlt => ?_⟩
      match s', hl, hr, hd, hlt with
      | x :: t, hl, ⟨k1, k2, k3⟩, hd, .inl g => omega
      | x :: t, hl, ⟨k1, k2, k3⟩, hd, .inr ⟨g1, g2⟩ =>
        subst g1
        refine h4 t (by have hl : t.length + 1 = m + 1 := hl; omega) k3 ?_ g2
        rw [List.append_assoc]; exact hd
    | none =>
      have hz := hN _ _ hc
      have split : ∀ s', s'.length = m + 1 → Rise W q s' → (∃ t, s' = q :: t ∧ D (l ++ s') = false) ∨ Rise W (q + 1) s' := by
        intro s' hl hr
        match s', hl, hr with
        | x :: t, hl, ⟨k1, k2, k3⟩ =>
          by_cases hx : x = q
          · subst hx
            refine .inl ⟨t, rfl, ?_⟩
            have := hz t (by have hl : t.length + 1 = m + 1 := hl; omega) k3
            rw [List.append_assoc] at this
            exact this
          · exact .inr ⟨by omega, k2, k3⟩
      refine ⟨fun r h => ?_, fun h s' hl hr => ?_⟩
      · obtain ⟨s, h1, h2, h3, h4, h5⟩ := ih.1 r h
        refine ⟨s, h1, h2, rise_le h3 (by omega), h4, fun s' hl hr hd => ?_⟩
        rcases split s' hl hr with ⟨t, _, hf⟩ | hr'
        · rw [hf] at hd; cases hd
        · exact h5 s' hl hr' hd
      · rcases split s' hl hr with ⟨t, _, hf⟩ | hr'
        · exact hf
        · exact ih.2 h s' hl hr'
theorem chooseL_sem {W : Int} {D : List Int → Bool} : ∀ (m : Nat) (q : Int) (l : List Int),
    (∀ r, chooseL W D m q l = some r → ∃ s, r = l ++ s ∧ s.length = m ∧ Rise W q s ∧ D r = true ∧ ∀ s', s'.length = m → Rise W q s' → D (l ++ s') = true → ¬ lexlt s' s) ∧
    (chooseL W D m q l = none → ∀ s', s'.length = m → Rise W q s' → D (l ++ s') = false)
  | 0, q, l => by
    unfold chooseL
    cases hd : D l with
    | true =>
      refine ⟨fun r h => ?_, fun h => (by cases h)⟩
      obtain rfl : l = r := by injection h
      refine ⟨[], (List.append_nil _).symm, rfl, trivial, hd, fun s' hl _ _ hlt => ?_⟩
      obtain rfl := List.length_eq_zero_iff.1 hl
      exact hlt
    | false =>
      refine ⟨fun r h => (by cases h), fun _ s' hl _ => ?_⟩
      obtain rfl := List.length_eq_zero_iff.1 hl
      rw [List.append_nil]; exact hd
  | m + 1, q, l => by
    unfold chooseL
    exact loopL_sem (W := W) (D := D) (m := m) (fun q l r h => (chooseL_sem m q l).1 r h) (fun q l h => (chooseL_sem m q l).2 h) (W - (m + 1) - q + 1).toNat q l (by omega)
def planL (W : Int) (D : List Int → Bool) : Nat → Nat → List Int
  | 0, _ => []
  | n + 1, i => match chooseL W D i 0 [] with
    | some r => r
    | none => planL W D n (i + 1)
theorem planP_L {W : Int} {N : Nat} {rows : Nat → List PV} (hW : W ≤ N) : ∀ (n i : Nat) (p : PS), okPS N p → p.k = 0 → toL (planP W N rows n i p) = planL W (decL N rows) n i ∧ okPS N (planP W N rows n i p) ∧ (planP W N rows n i p).k ≤ i + n
  | 0, i, p, h, h0 => ⟨by unfold planP planL toL; rw [h0]; rfl, h, by unfold planP; omega⟩
  | n + 1, i, p, h, h0 => by
    have e0 : toL p = [] := by unfold toL; rw [h0]; rfl
    have h1 := chooseP_ok (rows := rows) hW i 0 p (by omega) h
    have h2 := chooseP_L (rows := rows) hW i 0 p (by omega) h
    rw [e0] at h2
    unfold planP planL
    cases hc : chooseL W (decL N rows) i 0 [] with
    | some r =>
      rw [hc] at h2
      rw [h2.1]
      exact ⟨h2.2, h1.1, by have := h1.2.1; show (chooseP W N rows i 0 p).2.k ≤ _; omega⟩
    | none =>
      rw [hc] at h2
      rw [h2.1]
      have h3 := planP_L (rows := rows) hW n (i + 1) (chooseP W N rows i 0 p).2 h1.1 ((h1.2.2 h2.1).trans h0)
      exact ⟨h3.1, h3.2.1, by have := h3.2.2; show (planP W N rows n (i + 1) (chooseP W N rows i 0 p).2).k ≤ _; omega⟩
/-- The plan is the first one of the least: if some list of less than n + i wells decides. -/
theorem planL_sem {W : Int} {D : List Int → Bool} : ∀ (n i : Nat), (∃ s, s.length < i + n ∧ Rise W 0 s ∧ D s = true) → (∀ s, s.length < i → Rise W 0 s → D s = false) →
    D (planL W D n i) = true ∧ Rise W 0 (planL W D n i) ∧ (∀ s, Rise W 0 s → D s = true → (planL W D n i).length ≤ s.length ∧ (s.length = (planL W D n i).length → ¬ lexlt s (planL W D n i)))
  | 0, i, ⟨s, h1, h2, h3⟩, hz => by
    rw [hz s h1 h2] at h3; cases h3
  | n + 1, i, hs, hz => by
    have h := chooseL_sem (W := W) (D := D) i 0 []
    unfold planL
    cases hc : chooseL W D i 0 [] with
    | some r =>
      obtain ⟨s, h1, h2, h3, h4, h5⟩ := h.1 r hc
      have h1 : r = s := h1
      subst h1
      refine ⟨h4, h3, fun s' hr hd => ?_⟩
      have hl : ¬ s'.length < i := fun hl => by rw [hz s' hl hr] at hd; cases hd
      exact ⟨by show r.length ≤ _; omega, fun e => h5 s' (by have e : s'.length = r.length := e; omega) hr hd⟩
    | none =>
      obtain ⟨s, h1, h2, h3⟩ := hs
      refine planL_sem n (i + 1) ⟨s, by omega, h2, h3⟩ fun s' hl hr => ?_
      by_cases hi : s'.length < i
      · exact hz s' hi hr
      · exact h.2 hc s' (by omega) hr
end Go.Proofs.Ytnjhbmcambofgaa
