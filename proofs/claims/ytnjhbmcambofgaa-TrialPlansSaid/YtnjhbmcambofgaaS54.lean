/- Layer 4: plans and pulses, one after another, as mathematics. -/
import Derived.Test.YtnjhbmcambofgaaS53
import Derived.Test.YtnjhbmcambofgaaS48
namespace Go.Proofs.Ytnjhbmcambofgaa
open Go.V
set_option linter.unusedSimpArgs false
set_option linter.unusedVariables false

-- WHICH LISTS DECIDE
theorem allN2_iff {f : Nat → Nat → Bool} {n : Nat} : allN (fun a => allN (f a) n) n = true ↔ ∀ a b, a < n → b < n → f a b = true :=
  ⟨fun h a b ha hb => allN_all (allN_all h a ha) b hb, fun h => allN_t fun a ha => allN_t fun b hb => h a b ha hb⟩
theorem pulB_iff {v : Svy} {l : List Int} {q : Nat} : decide (0 ≤ pulB (relsG v) l.length (fun i => intL (l.getD i 0)) q) = true ↔ ∃ x ∈ l, relV v x.toNat q = 2 := by
  unfold pulB
  rw [firstN_dec]
  constructor
  · rintro ⟨i, hi, h⟩
    refine ⟨l.getD i 0, ?_, ?_⟩
    · rw [List.getD, List.getElem?_eq_getElem hi]; exact List.getElem_mem _
    · have h : (relV v (l.getD i 0).toNat q == 2) = true := h
      simpa using h
  · rintro ⟨x, hx, h⟩
    obtain ⟨i, hi, e⟩ := List.getElem_of_mem hx
    refine ⟨i, hi, ?_⟩
    show (relV v (l.getD i 0).toNat q == 2) = true
    rw [List.getD, List.getElem?_eq_getElem hi]
    show (relV v (l[i]).toNat q == 2) = true
    rw [e, h]; rfl
theorem decL_iff {v : Svy} {N : Nat} {l : List Int} : decL N (relsG v) l = true ↔ ∀ a b, a < N → b < N → relV v a b = 1 → (∃ x ∈ l, relV v x.toNat a = 2) ∨ ∃ x ∈ l, relV v x.toNat b = 2 := by
  unfold decL decB
  refine allN2_iff.trans (forall_congr' fun a => forall_congr' fun b => forall_congr' fun ha => forall_congr' fun hb => ?_)
  rw [← pulB_iff (l := l) (q := a), ← pulB_iff (l := l) (q := b)]
  unfold cellB
  show (!((relV v a b == 1) && _)) = true ↔ _
  cases h1 : decide (0 ≤ pulB (relsG v) l.length (fun i => intL (l.getD i 0)) a) <;> cases h2 : decide (0 ≤ pulB (relsG v) l.length (fun i => intL (l.getD i 0)) b) <;> simp
-- THE FIRST WELLS
def upL : Nat → Int → List Int
  | 0, _ => []
  | n + 1, q => q :: upL n (q + 1)
theorem upL_len : ∀ n q, (upL n q).length = n
  | 0, _ => rfl
  | n + 1, q => congrArg (· + 1) (upL_len n (q + 1))
theorem upL_rise {W : Int} : ∀ n q, q + (n : Nat) ≤ W → Rise W q (upL n q)
  | 0, _, _ => trivial
  | n + 1, q, h => ⟨by omega, by omega, upL_rise n (q + 1) (by omega)⟩
theorem upL_mem {x : Int} : ∀ {n : Nat} {q : Int}, q ≤ x → x < q + (n : Nat) → x ∈ upL n q
  | 0, q, h1, h2 => by omega
  | n + 1, q, h1, h2 => by
    by_cases h : x = q
    · subst h; exact List.mem_cons_self
    · exact List.mem_cons_of_mem _ (upL_mem (by omega) (by omega))
theorem rise_mem {W x : Int} : ∀ {l : List Int} {q : Int}, Rise W q l → x ∈ l → q ≤ x ∧ x < W
  | y :: t, q, ⟨h1, h2, h3⟩, hx => by
    rcases List.mem_cons.1 hx with rfl | hx
    · exact ⟨h1, h2⟩
    · have := rise_mem h3 hx
      omega
theorem relV_self {v : Svy} {a : Nat} (ha : a < 10) : relV v a a = 2 := rel_yes ha ha rfl
theorem rel2_iff {v : Svy} {a b : Nat} (ha : a < 10) (hb : b < 10) : relV v a b = 2 ↔ groupsM v a = groupsM v b := by
  rw [relV_eq ha hb]
  by_cases e : groupsM v a = groupsM v b
  · simp [e]
  · rw [beq_eq_false_iff_ne.2 e]
    cases isB v.lv (gL v) v.n v.s (a : Int) (b : Int) <;> simp [e]
theorem rel1_iff {v : Svy} (h : okV v) {a b : Nat} (ha : a < 10) (hb : b < 10) : relV v a b = 1 ↔ groupsM v a ≠ groupsM v b ∧ ¬ apartB v a b := by
  rw [relV_eq ha hb, ← isB_iff h ha hb]
  by_cases e : groupsM v a = groupsM v b
  · simp [e]
  · rw [beq_eq_false_iff_ne.2 e]
    cases isB v.lv (gL v) v.n v.s (a : Int) (b : Int) <;> simp [e]
theorem dec_full {v : Svy} {k : Nat} (hk0 : 1 ≤ k) (hk : k ≤ 10) : decL k (relsG v) (upL (k - 1) 0) = true := by
  refine decL_iff.2 fun a b ha hb h => ?_
  by_cases hak : a < k - 1
  · exact .inl ⟨(a : Int), upL_mem (by omega) (by omega), relV_self (by omega)⟩
  · by_cases hbk : b < k - 1
    · exact .inr ⟨(b : Int), upL_mem (by omega) (by omega), relV_self (by omega)⟩
    · obtain rfl : a = b := by omega
      rw [relV_self (by omega)] at h
      exact absurd h (by decide)
/-- What Plan returns where there is no clash. -/
theorem plan_sem {v : Svy} {k : Nat} (h : okV v) (hk : (k : Int) = v.wl) (hc : clashB v = false) :
    okPS k (planR v) ∧ (planR v).k ≤ k ∧ decL k (relsG v) (toL (planR v)) = true ∧ Rise k 0 (toL (planR v)) ∧
    ∀ s, Rise k 0 s → decL k (relsG v) s = true → (planR v).k ≤ s.length ∧ (s.length = (planR v).k → ¬ lexlt s (toL (planR v))) := by
  have hw := h.wl
  have e : planR v = planP k k (relsG v) k 0 ⟨0, fun _ => [], 0⟩ := by
    unfold planR relE2 relE
    rw [svE_okV h, hc, ← hk]; rfl
  have h1 := planP_L (W := k) (N := k) (rows := relsG v) (by omega) k 0 ⟨0, fun _ => [], 0⟩ (fun i hi => absurd hi (Nat.not_lt_zero i)) rfl
  have h2 := planL_sem (W := k) (D := decL k (relsG v)) k 0 ⟨upL (k - 1) 0, by rw [upL_len]; omega, upL_rise _ _ (by omega), dec_full (by omega) (by omega)⟩ (fun s hs => by omega)
  rw [← e] at h1
  rw [← h1.1] at h2
  refine ⟨h1.2.1, by have := h1.2.2; omega, h2.1, h2.2.1, fun s hr hd => ?_⟩
  have := h2.2.2 s hr hd
  rw [toL_len] at this
  exact this
-- PULSES
def itU (v : Svy) (pl p : Nat → Int) (k : Nat) : Nat → Svy
  | 0 => v
  | i + 1 => pulR (itU v pl p k i) (pl i) k p
def roomB (v : Svy) (pl p : Nat → Int) (k : Nat) (i : Nat) : Bool := decide ((itU v pl p k i).n + k ≤ 61)
theorem apart_swap {v : Svy} {a b : Nat} : apartB v a b ↔ apartB v b a := by
  unfold apartB
  exact exists_congr fun m => and_congr_right fun _ => and_congr_right fun _ => Or.comm
theorem relV_of {v : Svy} (h : okV v) {a b c d : Nat} (ha : a < 10) (hb : b < 10) (hc : c < 10) (hd : d < 10) (e1 : groupsM v a = groupsM v c) (e2 : groupsM v b = groupsM v d) : relV v a b = relV v c d := by
  rw [relV_eq ha hb, relV_eq hc hd]
  have : isB v.lv (gL v) v.n v.s (a : Int) (b : Int) = isB v.lv (gL v) v.n v.s (c : Int) (d : Int) := by
    rw [Bool.eq_iff_iff, isB_iff h ha hb, isB_iff h hc hd]
    unfold apartB
    rw [e1, e2]
  rw [this, e1, e2]
theorem relV_swap {v : Svy} (h : okV v) {a b : Nat} (ha : a < 10) (hb : b < 10) : relV v a b = relV v b a := by
  rw [relV_eq ha hb, relV_eq hb ha]
  have : isB v.lv (gL v) v.n v.s (a : Int) (b : Int) = isB v.lv (gL v) v.n v.s (b : Int) (a : Int) := by
    rw [Bool.eq_iff_iff, isB_iff h ha hb, isB_iff h hb ha]
    exact apart_swap
  rw [this, show (groupsM v a == groupsM v b) = (groupsM v b == groupsM v a) from BEq.comm]
section
variable {v : Svy} (h : okV v) (hlv : ¬ v.lv = -2000000000) {k : Nat} (hk : (k : Int) = v.wl) {p : Nat → Int} (hf : fitsM v p = true) {pl : Nat → Int} {m : Nat} (hpl : ∀ i, i < m → 0 ≤ pl i ∧ pl i < k)
include h hlv hk hf hpl
theorem itU_ok : ∀ i, i ≤ m → (∀ j, j < i → roomB v pl p k j = true) → okV (itU v pl p k i) ∧ (itU v pl p k i).wl = v.wl ∧ (itU v pl p k i).lv = v.lv ∧ fitsM (itU v pl p k i) p = true
  | 0, _, _ => ⟨h, rfl, rfl, hf⟩
  | i + 1, hi, hr => by
    obtain ⟨h1, h2, h3, h4⟩ := itU_ok i (by omega) fun j hj => hr j (by omega)
    obtain ⟨q, hq⟩ : ∃ q : Nat, pl i = (q : Int) := ⟨(pl i).toNat, by have := (hpl i (by omega)).1; omega⟩
    have hqk : q < k := by have := (hpl i (by omega)).2; omega
    have hn : (itU v pl p k i).n + k ≤ 61 := of_decide_eq_true (hr i (by omega))
    have e := next_e h1 (by rw [h3]; exact hlv) (hk.trans h2.symm) hqk hn h4
    have e1 : itU v pl p k (i + 1) = pulV (itU v pl p k i) (q : Int) p k := by
      show pulR (itU v pl p k i) (pl i) k p = _
      rw [hq]; unfold pulR; rw [e]; rfl
    rw [e1]
    exact ⟨next_ok h1 (by rw [h3]; exact hlv) (hk.trans h2.symm) hqk hn, h2, h3, next_fits h1 (by rw [h3]; exact hlv) (hk.trans h2.symm) hqk hn h4⟩
theorem itU_next {i : Nat} (hi : i < m) (hr : ∀ j, j < i → roomB v pl p k j = true) (hri : roomB v pl p k i = true) : ∃ q : Nat, pl i = (q : Int) ∧ q < k ∧ (itU v pl p k i).n + k ≤ 61 ∧ itU v pl p k (i + 1) = pulV (itU v pl p k i) (q : Int) p k ∧ pulE (itU v pl p k i) (pl i) k p = 0 := by
  obtain ⟨h1, h2, h3, h4⟩ := itU_ok h hlv hk hf hpl i (by omega) hr
  obtain ⟨q, hq⟩ : ∃ q : Nat, pl i = (q : Int) := ⟨(pl i).toNat, by have := (hpl i (by omega)).1; omega⟩
  have hqk : q < k := by have := (hpl i (by omega)).2; omega
  have hn : (itU v pl p k i).n + k ≤ 61 := of_decide_eq_true hri
  have e := next_e h1 (by rw [h3]; exact hlv) (hk.trans h2.symm) hqk hn h4
  refine ⟨q, hq, hqk, hn, ?_, by rw [hq]; exact e⟩
  show pulR (itU v pl p k i) (pl i) k p = _
  rw [hq]; unfold pulR; rw [e]; rfl
theorem itU_full {i : Nat} (hi : i < m) (hr : ∀ j, j < i → roomB v pl p k j = true) (hri : roomB v pl p k i = false) : pulE (itU v pl p k i) (pl i) k p = 3 := by
  obtain ⟨h1, h2, h3, h4⟩ := itU_ok h hlv hk hf hpl i (by omega) hr
  have hw := h1.wl
  have hn0 := h1.n
  have hq := hpl i hi
  have hn : ¬ (itU v pl p k i).n + k ≤ 61 := of_decide_eq_false hri
  unfold pulE
  have e1 : decide (okWell (itU v pl p k i).wl (pl i)) = true := by
    refine decide_eq_true ?_
    show 0 ≤ pl i ∧ pl i ≤ w ((itU v pl p k i).wl - 1)
    rw [wj (n := (itU v pl p k i).wl - 1) (by omega)]
    omega
  rw [e1, hk, h2, beq_self_eq_true, h4, h3, beq_eq_false_iff_ne.2 hlv]
  rw [show IntKind.i64.wrap (IntKind.i64.wrap (((itU v pl p k i).n : Int) + v.wl) - 1) = ((itU v pl p k i).n : Int) + v.wl - 1 by rw [show IntKind.i64.wrap (((itU v pl p k i).n : Int) + v.wl) = ((itU v pl p k i).n : Int) + v.wl from wj (by omega)]; exact wj (by omega)]
  rw [decide_eq_true (show (60 < ((itU v pl p k i).n : Int) + v.wl - 1) by omega)]
  rfl
theorem itU_keep : ∀ i, i ≤ m → (∀ j, j < i → roomB v pl p k j = true) →
    (∀ a b, a < 10 → b < 10 → relV v a b ≠ 1 → relV (itU v pl p k i) a b = relV v a b) ∧
    (∀ a b, a < 10 → b < 10 → groupsM v a = groupsM v b → groupsM (itU v pl p k i) a = groupsM (itU v pl p k i) b) ∧
    (∀ j a, j < i → a < k → relV (itU v pl p k i) (pl j).toNat a ≠ 1)
  | 0, _, _ => ⟨fun _ _ _ _ _ => rfl, fun _ _ _ _ e => e, fun j _ hj => absurd hj (Nat.not_lt_zero j)⟩
  | i + 1, hi, hr => by
    obtain ⟨k1, k2, k3⟩ := itU_keep i (by omega) fun j hj => hr j (by omega)
    obtain ⟨h1, h2, h3, h4⟩ := itU_ok h hlv hk hf hpl i (by omega) fun j hj => hr j (by omega)
    obtain ⟨q, hq, hqk, hn, e, _⟩ := itU_next h hlv hk hf hpl (i := i) (by omega) (fun j hj => hr j (by omega)) (hr i (by omega))
    have hl : ¬ (itU v pl p k i).lv = -2000000000 := by rw [h3]; exact hlv
    have hkk := hk.trans h2.symm
    have hw := h.wl
    rw [e]
    refine ⟨fun a b ha hb hne => ?_, fun a b ha hb hg => ?_, fun j a hj ha => ?_⟩
    · have := k1 a b ha hb hne
      rw [next_rel h1 hl hkk hqk hn h4 ha hb (by rw [this]; exact hne), this]
    · exact next_tog h1 hl hkk hqk hn h4 ha hb (k2 a b ha hb hg)
    · rcases Nat.lt_succ_iff_lt_or_eq.1 hj with hj | rfl
      · have hj0 := hpl j (by omega)
        have := k3 j a hj ha
        rw [next_rel h1 hl hkk hqk hn h4 (by omega) (by omega) this]
        exact this
      · rw [hq, Int.toNat_natCast]
        exact next_known h1 hl hkk hqk hn h4 ha
/-- After the wells of a list that decides were pulsed, all relations are known. -/
theorem itU_known (hr : ∀ j, j < m → roomB v pl p k j = true) (hd : ∀ a b, a < k → b < k → relV v a b = 1 → (∃ j, j < m ∧ relV v (pl j).toNat a = 2) ∨ ∃ j, j < m ∧ relV v (pl j).toNat b = 2) {a b : Nat} (ha : a < k) (hb : b < k) : relV (itU v pl p k m) a b ≠ 1 := by
  obtain ⟨k1, k2, k3⟩ := itU_keep h hlv hk hf hpl m (Nat.le_refl m) hr
  obtain ⟨h1, h2, h3, h4⟩ := itU_ok h hlv hk hf hpl m (Nat.le_refl m) hr
  have hw := h.wl
  by_cases h0 : relV v a b = 1
  · rcases hd a b ha hb h0 with ⟨j, hj, e⟩ | ⟨j, hj, e⟩
    · have hj0 := hpl j hj
      have eg := k2 _ _ (by omega) (by omega) ((rel2_iff (by omega) (by omega)).1 e)
      rw [relV_of h1 (by omega) (by omega) (by omega) (by omega) eg.symm rfl]
      exact k3 j b hj hb
    · have hj0 := hpl j hj
      have eg := k2 _ _ (by omega) (by omega) ((rel2_iff (by omega) (by omega)).1 e)
      rw [relV_swap h1 (by omega) (by omega), relV_of h1 (by omega) (by omega) (by omega) (by omega) eg.symm rfl]
      exact k3 j a hj ha
  · rw [k1 a b (by omega) (by omega) h0]; exact h0
theorem itU_obs : ∀ i, i ≤ m → (∀ j, j < i → roomB v pl p k j = true) → ∀ t, t < (itU v pl p k i).n → (∃ j, j < v.n ∧ (itU v pl p k i).s t = v.s j) ∨ ∃ j, j < i ∧ ((itU v pl p k i).s t).a = pl j
  | 0, _, _, t, ht => .inl ⟨t, ht, rfl⟩
  | i + 1, hi, hr, t, ht => by
    obtain ⟨q, hq, hqk, hn, e, _⟩ := itU_next h hlv hk hf hpl (i := i) (by omega) (fun j hj => hr j (by omega)) (hr i (by omega))
    have ih := itU_obs i (by omega) fun j hj => hr j (by omega)
    rw [e] at ht ⊢
    rcases pulG_cases (v := itU v pl p k i) ht with ⟨h1, e1⟩ | hm
    · rcases ih t h1 with ⟨j, hj, e2⟩ | ⟨j, hj, e2⟩
      · exact .inl ⟨j, hj, (show (pulV (itU v pl p k i) (q : Int) p k).s t = _ from e1).trans e2⟩
      · exact .inr ⟨j, by omega, (congrArg Obs.a (show (pulV (itU v pl p k i) (q : Int) p k).s t = _ from e1)).trans e2⟩
    · obtain ⟨a, _, _, e3⟩ := (mem_pul k).1 hm
      refine .inr ⟨i, by omega, ?_⟩
      rw [hq]
      exact congrArg Obs.a (show (pulV (itU v pl p k i) (q : Int) p k).s t = _ from e3)
end
/-- A relation that no pulse of either group asks for stays open, if the division is into groups. -/
theorem itU_still {v : Svy} (h : okV v) (hlv : ¬ v.lv = -2000000000) {k : Nat} (hk : (k : Int) = v.wl) {p : Nat → Int} (hf : fitsM v p = true) (hpg : ∀ a, a < k → p a = groupsM v a) {pl : Nat → Int} {m : Nat} (hpl : ∀ i, i < m → 0 ≤ pl i ∧ pl i < k)
    (hr : ∀ j, j < m → roomB v pl p k j = true) {a b : Nat} (ha : a < k) (hb : b < k) (h0 : relV v a b = 1) (hn : ∀ j, j < m → relV v (pl j).toNat a ≠ 2 ∧ relV v (pl j).toNat b ≠ 2) : relV (itU v pl p k m) a b = 1 := by
  obtain ⟨h1, h2, h3, h4⟩ := itU_ok h hlv hk hf hpl m (Nat.le_refl m) hr
  have hw := h.wl
  obtain ⟨g1, g2⟩ := (rel1_iff h (by omega) (by omega)).1 h0
  have back : ∀ x y, x < k → y < k → groupsM (itU v pl p k m) x = groupsM (itU v pl p k m) y → groupsM v x = groupsM v y := fun x y hx hy e => by
    have := fits_groups h1 h4 (by omega) (by omega) e
    rw [hpg x hx, hpg y hy] at this
    exact this
  refine (rel1_iff h1 (by omega) (by omega)).2 ⟨fun e => g1 (back a b ha hb e), ?_⟩
  rintro ⟨t, ht, hlo, hh⟩
  obtain ⟨ka, kb, _⟩ := h1.s t ht
  rcases itU_obs h hlv hk hf hpl m (Nat.le_refl m) hr t ht with ⟨j, hj, e⟩ | ⟨j, hj, e⟩
  · refine g2 ⟨j, hj, by rw [← e, ← h3]; exact hlo, ?_⟩
    rw [e] at hh ka kb
    rcases hh with ⟨e1, e2⟩ | ⟨e1, e2⟩
    · exact .inl ⟨back _ _ (by omega) ha e1, back _ _ (by omega) hb e2⟩
    · exact .inr ⟨back _ _ (by omega) hb e1, back _ _ (by omega) ha e2⟩
  · have hj0 := hpl j hj
    rw [e] at hh
    rcases hh with ⟨e1, _⟩ | ⟨e1, _⟩
    · exact (hn j hj).1 ((rel2_iff (by omega) (by omega)).2 (back _ _ (by omega) ha e1))
    · exact (hn j hj).2 ((rel2_iff (by omega) (by omega)).2 (back _ _ (by omega) hb e1))
end Go.Proofs.Ytnjhbmcambofgaa
