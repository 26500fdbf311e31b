/- Layer 4: relations, held against divisions that fit. -/
import Derived.Test.YtnjhbmcambofgaaS65
namespace Go.Proofs.Ytnjhbmcambofgaa
open Go.V
set_option linter.unusedSimpArgs false
set_option linter.unusedVariables false

theorem fits_at {v : Svy} {p : Nat → Int} (hf : fitsM v p = true) {i : Nat} (hi : i < v.n) : fitO v.lv p (v.s i).a (v.s i).b (v.s i).lo (v.s i).hi = true := allN_all hf i hi
theorem fitO_eq {lv a b lo hi : Int} {p : Nat → Int} (h : fitO lv p a b lo hi = true) : (p a.toNat = p b.toNat → ¬ hi < lv) ∧ (p a.toNat ≠ p b.toNat → ¬ lv ≤ lo) := by
  unfold fitO at h
  constructor
  · intro e hl
    rw [e, beq_self_eq_true, decide_eq_true hl] at h
    cases h
  · intro e hl
    rw [beq_eq_false_iff_ne.2 e, decide_eq_true hl] at h
    cases h
theorem fitO_mk {lv a b lo hi : Int} {p : Nat → Int} (h1 : p a.toNat = p b.toNat → ¬ hi < lv) (h2 : p a.toNat ≠ p b.toNat → ¬ lv ≤ lo) : fitO lv p a b lo hi = true := by
  unfold fitO
  by_cases e : p a.toNat = p b.toNat
  · rw [e, beq_self_eq_true, decide_eq_false (h1 e)]; rfl
  · rw [beq_eq_false_iff_ne.2 e, decide_eq_false (h2 e)]; rfl
theorem rel_2 {v : Svy} (hok : okV v) {i j : Nat} (hi : i < 10) (hj : j < 10) (e : relV v i j = 2) : groupsM v i = groupsM v j := by
  rw [relV_eq hi hj] at e
  cases h : (groupsM v i == groupsM v j) with
  | true => simpa using h
  | false =>
    rw [h] at e
    revert e
    cases isB v.lv (gL v) v.n v.s (i : Int) (j : Int) <;> simp
theorem rel_0 {v : Svy} (hok : okV v) {i j : Nat} (hi : i < 10) (hj : j < 10) (e : relV v i j = 0) : apartB v i j := by
  rw [relV_eq hi hj] at e
  cases h : (groupsM v i == groupsM v j) with
  | true => rw [h] at e; simp at e
  | false =>
    rw [h] at e
    cases h2 : isB v.lv (gL v) v.n v.s (i : Int) (j : Int) with
    | true => exact (isB_iff hok hi hj).1 h2
    | false => rw [h2] at e; simp at e
theorem rel_1 {v : Svy} (hok : okV v) {i j : Nat} (hi : i < 10) (hj : j < 10) (e : relV v i j = 1) : groupsM v i ≠ groupsM v j ∧ ¬ apartB v i j := by
  constructor
  · intro h
    rw [rel_yes hi hj h] at e; cases e
  · intro h
    have hne : groupsM v i ≠ groupsM v j := fun h => by rw [rel_yes hi hj h] at e; cases e
    rw [rel_no hok hi hj hne h] at e; cases e
theorem rel_any {v : Svy} {i j : Nat} (hi : i < 10) (hj : j < 10) : relV v i j = 0 ∨ relV v i j = 1 ∨ relV v i j = 2 := by
  rw [relV_eq hi hj]
  cases (groupsM v i == groupsM v j) with
  | true => simp
  | false => cases isB v.lv (gL v) v.n v.s (i : Int) (j : Int) <;> simp
/-- In a division that fits, wells by No are apart. -/
theorem fits_no {v : Svy} (hok : okV v) {p : Nat → Int} (hf : fitsM v p = true) {i j : Nat} (hi : i < 10) (hj : j < 10) (ha : apartB v i j) : p i ≠ p j := by
  intro e
  have hw := hok.wl
  obtain ⟨m, hm, h1, h2⟩ := ha
  obtain ⟨⟨ka, ka'⟩, ⟨kb, kb'⟩, _⟩ := hok.s m hm
  have hfa := (fitO_eq (fits_at hf hm)).1
  have g := fun {x y : Nat} (hx : x < 10) (hy : y < 10) h => fits_groups hok hf hx hy h
  refine hfa ?_ h1
  rcases h2 with ⟨h3, h4⟩ | ⟨h3, h4⟩
  · rw [g (by omega) hi h3, g (by omega) hj h4]; exact e
  · rw [g (by omega) hj h3, g (by omega) hi h4]; exact e.symm
def oneP (v : Svy) (i j x : Nat) : Int := bif (groupsM v x == groupsM v j) then groupsM v i else groupsM v x
/-- Two groups that may be one: with them as one part it fits, too. -/
theorem one_fits {v : Svy} (hok : okV v) (hc : clashB v = false) {i j : Nat} (hi : i < 10) (hj : j < 10) (e : relV v i j = 1) : fitsM v (oneP v i j) = true := by
  have hw := hok.wl
  obtain ⟨hne, hna⟩ := rel_1 hok hi hj e
  have hf := groups_fit hok hc
  refine allN_t fun m hm => ?_
  obtain ⟨⟨ka, ka'⟩, ⟨kb, kb'⟩, _⟩ := hok.s m hm
  obtain ⟨h1, h2⟩ := fitO_eq (fits_at hf hm)
  show fitO _ _ _ _ _ _ = true
  refine fitO_mk (fun he => ?_) fun he => h2 fun hg => he ?_
  · by_cases hg : groupsM v (v.s m).a.toNat = groupsM v (v.s m).b.toNat
    · exact h1 hg
    · intro hl
      refine hna ⟨m, hm, hl, ?_⟩
      unfold oneP at he
      cases ha : (groupsM v (v.s m).a.toNat == groupsM v j) with
      | true =>
        have ha' : groupsM v (v.s m).a.toNat = groupsM v j := by simpa using ha
        have hb : (groupsM v (v.s m).b.toNat == groupsM v j) = false := beq_eq_false_iff_ne.2 fun h => hg (ha'.trans h.symm)
        rw [ha, hb] at he
        exact .inr ⟨ha', he.symm⟩
      | false =>
        cases hb : (groupsM v (v.s m).b.toNat == groupsM v j) with
        | true =>
          have hb' : groupsM v (v.s m).b.toNat = groupsM v j := by simpa using hb
          rw [ha, hb] at he
          exact .inl ⟨he, hb'⟩
        | false => rw [ha, hb] at he; exact (hg he).elim
  · unfold oneP; rw [hg]
end Go.Proofs.Ytnjhbmcambofgaa
