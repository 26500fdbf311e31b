/- Layer 4: plans, as mathematics. -/
import Derived.Test.YtnjhbmcambofgaaS53
import Derived.Test.YtnjhbmcambofgaaS65
namespace Go.Proofs.Ytnjhbmcambofgaa
open Go.V
set_option linter.unusedSimpArgs false
set_option linter.unusedVariables false
set_option linter.unusedSectionVars false

-- WHICH LISTS DECIDE
theorem allN2_iff {f : Nat → Nat → Bool} {n : Nat} : allN (fun a => allN (f a) n) n = true ↔ ∀ a b, a < n → b < n → f a b = true :=
  ⟨fun h a b ha hb => allN_all (allN_all h a ha) b hb, fun h => allN_t fun a ha => allN_t fun b hb => h a b ha hb⟩
theorem pulB_iff {v : Svy} {l : List Int} {q : Nat} : decide (0 ≤ pulB (relsG v) l.length (fun i => intL (l.getD i 0)) q) = true ↔ ∃ x ∈ l, relV v x.toNat q = 2 := by
  unfold pulB
  rw [firstN_dec]
  constructor
  · rintro ⟨i, hi, h⟩
    refine ⟨l.getD i 0, ?_, ?_⟩
    · rw [List.getD, List.getElem?_eq_getElem hi]; exact List.getElem_mem _
    · have h : (relV v (l.getD i 0).toNat q == 2) = true := h
      simpa using h
  · rintro ⟨x, hx, h⟩
    obtain ⟨i, hi, e⟩ := List.getElem_of_mem hx
    refine ⟨i, hi, ?_⟩
    show (relV v (l.getD i 0).toNat q == 2) = true
    rw [List.getD, List.getElem?_eq_getElem hi]
    show (relV v (l[i]).toNat q == 2) = true
    rw [e, h]; rfl
theorem decL_iff {v : Svy} {N : Nat} {l : List Int} : decL N (relsG v) l = true ↔ ∀ a b, a < N → b < N → relV v a b = 1 → (∃ x ∈ l, relV v x.toNat a = 2) ∨ ∃ x ∈ l, relV v x.toNat b = 2 := by
  unfold decL decB
  refine allN2_iff.trans (forall_congr' fun a => forall_congr' fun b => forall_congr' fun ha => forall_congr' fun hb => ?_)
  rw [← pulB_iff (l := l) (q := a), ← pulB_iff (l := l) (q := b)]
  unfold cellB
  show (!((relV v a b == 1) && _)) = true ↔ _
  cases h1 : decide (0 ≤ pulB (relsG v) l.length (fun i => intL (l.getD i 0)) a) <;> cases h2 : decide (0 ≤ pulB (relsG v) l.length (fun i => intL (l.getD i 0)) b) <;> simp
-- THE FIRST WELLS
def upL : Nat → Int → List Int
  | 0, _ => []
  | n + 1, q => q :: upL n (q + 1)
theorem upL_len : ∀ n q, (upL n q).length = n
  | 0, _ => rfl
  | n + 1, q => congrArg (· + 1) (upL_len n (q + 1))
theorem upL_rise {W : Int} : ∀ n q, q + (n : Nat) ≤ W → Rise W q (upL n q)
  | 0, _, _ => trivial
  | n + 1, q, h => ⟨by omega, by omega, upL_rise n (q + 1) (by omega)⟩
theorem upL_mem {x : Int} : ∀ {n : Nat} {q : Int}, q ≤ x → x < q + (n : Nat) → x ∈ upL n q
  | 0, q, h1, h2 => by omega
  | n + 1, q, h1, h2 => by
    by_cases h : x = q
    · subst h; exact List.mem_cons_self
    · exact List.mem_cons_of_mem _ (upL_mem (by omega) (by omega))
theorem rise_mem {W x : Int} : ∀ {l : List Int} {q : Int}, Rise W q l → x ∈ l → q ≤ x ∧ x < W
  | y :: t, q, ⟨h1, h2, h3⟩, hx => by
    rcases List.mem_cons.1 hx with rfl | hx
    · exact ⟨h1, h2⟩
    · have := rise_mem h3 hx
      omega
theorem relV_self {v : Svy} {a : Nat} (ha : a < 10) : relV v a a = 2 := rel_yes ha ha rfl
theorem rel2_iff {v : Svy} {a b : Nat} (ha : a < 10) (hb : b < 10) : relV v a b = 2 ↔ groupsM v a = groupsM v b := by
  rw [relV_eq ha hb]
  by_cases e : groupsM v a = groupsM v b
  · simp [e]
  · rw [beq_eq_false_iff_ne.2 e]
    cases isB v.lv (gL v) v.n v.s (a : Int) (b : Int) <;> simp [e]
theorem rel1_iff {v : Svy} (h : okV v) {a b : Nat} (ha : a < 10) (hb : b < 10) : relV v a b = 1 ↔ groupsM v a ≠ groupsM v b ∧ ¬ apartB v a b := by
  rw [relV_eq ha hb, ← isB_iff h ha hb]
  by_cases e : groupsM v a = groupsM v b
  · simp [e]
  · rw [beq_eq_false_iff_ne.2 e]
    cases isB v.lv (gL v) v.n v.s (a : Int) (b : Int) <;> simp [e]
theorem dec_full {v : Svy} {k : Nat} (hk0 : 1 ≤ k) (hk : k ≤ 10) : decL k (relsG v) (upL (k - 1) 0) = true := by
  refine decL_iff.2 fun a b ha hb h => ?_
  by_cases hak : a < k - 1
  · exact .inl ⟨(a : Int), upL_mem (by omega) (by omega), relV_self (by omega)⟩
  · by_cases hbk : b < k - 1
    · exact .inr ⟨(b : Int), upL_mem (by omega) (by omega), relV_self (by omega)⟩
    · obtain rfl : a = b := by omega
      rw [relV_self (by omega)] at h
      exact absurd h (by decide)
/-- What Plan returns where there is no clash. -/
theorem plan_sem {v : Svy} {k : Nat} (h : okV v) (hk : (k : Int) = v.wl) (hc : clashB v = false) :
    okPS k (planR v) ∧ (planR v).k ≤ k ∧ decL k (relsG v) (toL (planR v)) = true ∧ Rise k 0 (toL (planR v)) ∧
    ∀ s, Rise k 0 s → decL k (relsG v) s = true → (planR v).k ≤ s.length ∧ (s.length = (planR v).k → ¬ lexlt s (toL (planR v))) := by
  have hw := h.wl
  have e : planR v = planP k k (relsG v) k 0 ⟨0, fun _ => [], 0⟩ := by
    unfold planR relE2 relE
    rw [svE_okV h, hc, ← hk]; rfl
  have h1 := planP_L (W := k) (N := k) (rows := relsG v) (by omega) k 0 ⟨0, fun _ => [], 0⟩ (fun i hi => absurd hi (Nat.not_lt_zero i)) rfl
  have h2 := planL_sem (W := k) (D := decL k (relsG v)) k 0 ⟨upL (k - 1) 0, by rw [upL_len]; omega, upL_rise _ _ (by omega), dec_full (by omega) (by omega)⟩ (fun s hs => by omega)
  rw [← e] at h1
  rw [← h1.1] at h2
  refine ⟨h1.2.1, by have := h1.2.2; omega, h2.1, h2.2.1, fun s hr hd => ?_⟩
  have := h2.2.2 s hr hd
  rw [toL_len] at this
  exact this
theorem apart_swap {v : Svy} {a b : Nat} : apartB v a b ↔ apartB v b a := by
  unfold apartB
  exact exists_congr fun m => and_congr_right fun _ => and_congr_right fun _ => Or.comm
theorem relV_of {v : Svy} (h : okV v) {a b c d : Nat} (ha : a < 10) (hb : b < 10) (hc : c < 10) (hd : d < 10) (e1 : groupsM v a = groupsM v c) (e2 : groupsM v b = groupsM v d) : relV v a b = relV v c d := by
  rw [relV_eq ha hb, relV_eq hc hd]
  have : isB v.lv (gL v) v.n v.s (a : Int) (b : Int) = isB v.lv (gL v) v.n v.s (c : Int) (d : Int) := by
    rw [Bool.eq_iff_iff, isB_iff h ha hb, isB_iff h hc hd]
    unfold apartB
    rw [e1, e2]
  rw [this, e1, e2]
theorem relV_swap {v : Svy} (h : okV v) {a b : Nat} (ha : a < 10) (hb : b < 10) : relV v a b = relV v b a := by
  rw [relV_eq ha hb, relV_eq hb ha]
  have : isB v.lv (gL v) v.n v.s (a : Int) (b : Int) = isB v.lv (gL v) v.n v.s (b : Int) (a : Int) := by
    rw [Bool.eq_iff_iff, isB_iff h ha hb, isB_iff h hb ha]
    exact apart_swap
  rw [this, show (groupsM v a == groupsM v b) = (groupsM v b == groupsM v a) from BEq.comm]
def olist (b : Nat → Bool) : Nat → List Int
  | 0 => []
  | i + 1 => bif b i then olist b i ++ [(i : Int)] else olist b i
theorem rise_snoc {W W' : Int} : ∀ {l : List Int} {q : Int}, Rise W q l → q ≤ W → W < W' → Rise W' q (l ++ [W])
  | [], q, _, h1, h2 => ⟨h1, h2, trivial⟩
  | x :: t, q, ⟨k1, k2, k3⟩, h1, h2 => ⟨k1, by omega, rise_snoc k3 (by omega) h2⟩
theorem rise_up {W W' : Int} : ∀ {l : List Int} {q : Int}, Rise W q l → W ≤ W' → Rise W' q l
  | [], _, _, _ => trivial
  | _ :: _, _, ⟨k1, k2, k3⟩, h => ⟨k1, by omega, rise_up k3 h⟩
theorem olist_rise (b : Nat → Bool) : ∀ n : Nat, Rise (n : Int) 0 (olist b n) ∧ (olist b n).length ≤ n
  | 0 => ⟨trivial, Nat.le_refl _⟩
  | n + 1 => by
    have ih := olist_rise b n
    unfold olist
    cases b n with
    | true => exact ⟨rise_snoc ih.1 (by omega) (by omega), by rw [cond_true, List.length_append]; show _ + 1 ≤ n + 1; omega⟩
    | false => exact ⟨rise_up ih.1 (by omega), by rw [cond_false]; omega⟩
theorem getD_mem {l : List Int} {j : Nat} (h : j < l.length) : l.getD j 0 ∈ l := by
  rw [List.getD, List.getElem?_eq_getElem h]; exact List.getElem_mem _
theorem mem_getD {l : List Int} {x : Int} (h : x ∈ l) : ∃ j, j < l.length ∧ l.getD j 0 = x := by
  obtain ⟨j, hj, e⟩ := List.getElem_of_mem h
  exact ⟨j, hj, by rw [List.getD, List.getElem?_eq_getElem hj]; exact e⟩
end Go.Proofs.Ytnjhbmcambofgaa
