/- Layer 4: ways by breadth, and by distances, as mathematics. -/
import Derived.Test.YtnjhbmcambofgaaS57
namespace Go.Proofs.Ytnjhbmcambofgaa
open Go.V
set_option linter.unusedSimpArgs false
set_option linter.unusedVariables false

def lastN (w : List Nat) : Nat := w.getD (w.length - 1) 0
theorem lastN_app (w : List Nat) (n : Nat) : lastN (w ++ [n]) = n := by simp [lastN, List.getD]
structure Bq where
  o : List (Nat × List Nat)
  m : Nat → Bool
def pa (o : List (Nat × List Nat)) (i : Nat) : Nat := (o.getD i (0, [])).1
def wy (o : List (Nat × List Nat)) (i : Nat) : List Nat := (o.getD i (0, [])).2
def la (o : List (Nat × List Nat)) (i : Nat) : Nat := lastN (wy o i)
def kst (L : Nat → Nat → Bool) (k : Nat) (w : List Nat) (q : Bq) : Nat → Bq
  | 0 => q
  | n + 1 => bif !(kst L k w q n).m n && L (lastN w) n then ⟨(kst L k w q n).o ++ [(k, w ++ [n])], fun x => bif Nat.beq x n then true else (kst L k w q n).m x⟩ else kst L k w q n
def bfs (L : Nat → Nat → Bool) (W fr : Nat) : Nat → Bq
  | 0 => ⟨[(0, [fr])], fun x => Nat.beq x fr⟩
  | k + 1 => kst L k (wy (bfs L W fr k).o k) (bfs L W fr k) W
theorem getD_old {o : List (Nat × List Nat)} {e : Nat × List Nat} {i : Nat} (h : i < o.length) : (o ++ [e]).getD i (0, []) = o.getD i (0, []) := by
  simp [List.getD, List.getElem?_append_left h]
theorem getD_new {o : List (Nat × List Nat)} {e : Nat × List Nat} : (o ++ [e]).getD o.length (0, []) = e := by
  simp [List.getD]
theorem pa_old {o : List (Nat × List Nat)} {e : Nat × List Nat} {i : Nat} (h : i < o.length) : pa (o ++ [e]) i = pa o i := by unfold pa; rw [getD_old h]
theorem wy_old {o : List (Nat × List Nat)} {e : Nat × List Nat} {i : Nat} (h : i < o.length) : wy (o ++ [e]) i = wy o i := by unfold wy; rw [getD_old h]
theorem la_old {o : List (Nat × List Nat)} {e : Nat × List Nat} {i : Nat} (h : i < o.length) : la (o ++ [e]) i = la o i := by unfold la; rw [wy_old h]
theorem pa_new {o : List (Nat × List Nat)} {e : Nat × List Nat} : pa (o ++ [e]) o.length = e.1 := by unfold pa; rw [getD_new]
theorem wy_new {o : List (Nat × List Nat)} {e : Nat × List Nat} : wy (o ++ [e]) o.length = e.2 := by unfold wy; rw [getD_new]
structure KInv (L : Nat → Nat → Bool) (W fr k n : Nat) (o : List (Nat × List Nat)) (m : Nat → Bool) : Prop where
  hd : wy o 0 = [fr]
  klt : k < o.length
  met : ∀ x, m x = true ↔ ∃ i, i < o.length ∧ la o i = x
  inj : ∀ i j, i < j → j < o.length → la o i ≠ la o j
  par : ∀ i, 0 < i → i < o.length → pa o i ≤ k ∧ pa o i < i ∧ wy o i = wy o (pa o i) ++ [la o i] ∧ L (la o (pa o i)) (la o i) = true ∧ la o i < W ∧ ∀ j, j < pa o i → L (la o j) (la o i) = false
  mono : ∀ i j, 0 < i → i < j → j < o.length → pa o i ≤ pa o j ∧ (pa o i = pa o j → la o i < la o j)
  newb : ∀ i, 0 < i → i < o.length → pa o i = k → la o i < n
  cl : ∀ j, j < k → ∀ x, x < W → L (la o j) x = true → m x = true
  cl' : ∀ x, x < n → L (la o k) x = true → m x = true
  cnt : o.length ≤ cnN m W
structure BInv (L : Nat → Nat → Bool) (W fr k : Nat) (o : List (Nat × List Nat)) (m : Nat → Bool) : Prop where
  hd : wy o 0 = [fr]
  pos : 0 < o.length
  kl : k ≤ o.length
  met : ∀ x, m x = true ↔ ∃ i, i < o.length ∧ la o i = x
  inj : ∀ i j, i < j → j < o.length → la o i ≠ la o j
  par : ∀ i, 0 < i → i < o.length → pa o i < k ∧ pa o i < i ∧ wy o i = wy o (pa o i) ++ [la o i] ∧ L (la o (pa o i)) (la o i) = true ∧ la o i < W ∧ ∀ j, j < pa o i → L (la o j) (la o i) = false
  mono : ∀ i j, 0 < i → i < j → j < o.length → pa o i ≤ pa o j ∧ (pa o i = pa o j → la o i < la o j)
  cl : ∀ j, j < k → ∀ x, x < W → L (la o j) x = true → m x = true
  cnt : o.length ≤ cnN m W
section
variable {L : Nat → Nat → Bool} {W fr k n : Nat} {o : List (Nat × List Nat)} {m : Nat → Bool}
theorem KInv.add (h : KInv L W fr k n o m) (hn : n < W) (h1 : m n = false) (h2 : L (la o k) n = true) : KInv L W fr k (n + 1) (o ++ [(k, wy o k ++ [n])]) fun x => bif Nat.beq x n then true else m x := by
  have hk := h.klt
  have hlen : (o ++ [(k, wy o k ++ [n])]).length = o.length + 1 := by simp
  have lan : la (o ++ [(k, wy o k ++ [n])]) o.length = n := by unfold la; rw [wy_new]; exact lastN_app _ _
  have hnew : ∀ i, i < o.length → la o i ≠ n := fun i hi e => by
    have := (h.met n).2 ⟨i, hi, e⟩
    rw [h1] at this; cases this
  have mx : ∀ x, (bif Nat.beq x n then true else m x) = true ↔ x = n ∨ m x = true := fun x => by
    cases hb : Nat.beq x n with
    | true => have := Nat.eq_of_beq_eq_true hb; simp [this]
    | false =>
      have : x ≠ n := fun e => by rw [e] at hb; simp at hb
      simp [this]
  constructor
  · rw [wy_old (by omega)]; exact h.hd
  · rw [hlen]; omega
  · intro x
    rw [mx]
    constructor
    · rintro (rfl | hx)
      · exact ⟨o.length, by rw [hlen]; omega, lan⟩
      · obtain ⟨i, hi, e⟩ := (h.met x).1 hx
        exact ⟨i, by rw [hlen]; omega, by rw [la_old hi]; exact e⟩
    · rintro ⟨i, hi, e⟩
      rw [hlen] at hi
      by_cases hl : i < o.length
      · rw [la_old hl] at e
        exact .inr ((h.met x).2 ⟨i, hl, e⟩)
      · obtain rfl : i = o.length := by omega
        rw [lan] at e
        exact .inl e.symm
  · intro i j hij hj
    rw [hlen] at hj
    by_cases hl : j < o.length
    · rw [la_old hl, la_old (by omega)]; exact h.inj i j hij hl
    · obtain rfl : j = o.length := by omega
      rw [lan, la_old hij]; exact hnew i hij
  · intro i h0 hi
    rw [hlen] at hi
    by_cases hl : i < o.length
    · obtain ⟨q1, q2, q3, q4, q5, q6⟩ := h.par i h0 hl
      rw [pa_old hl, wy_old hl, la_old hl, wy_old (by omega), la_old (by omega)]
      exact ⟨q1, q2, q3, q4, q5, fun j hj => by rw [la_old (by omega)]; exact q6 j hj⟩
    · obtain rfl : i = o.length := by omega
      rw [pa_new, wy_new, lan]
      simp only
      rw [wy_old hk, la_old hk]
      exact ⟨Nat.le_refl _, hk, rfl, h2, hn, fun j hj => by
        rw [la_old (by omega)]
        cases e : L (la o j) n with
        | false => rfl
        | true => have := h.cl j hj n hn e; rw [h1] at this; cases this⟩
  · intro i j h0 hij hj
    rw [hlen] at hj
    by_cases hl : j < o.length
    · rw [pa_old hl, la_old hl, pa_old (by omega), la_old (by omega)]; exact h.mono i j h0 hij hl
    · obtain rfl : j = o.length := by omega
      rw [pa_new, lan, pa_old hij, la_old hij]
      exact ⟨(h.par i h0 hij).1, fun e => h.newb i h0 hij e⟩
  · intro i h0 hi e
    rw [hlen] at hi
    by_cases hl : i < o.length
    · rw [pa_old hl] at e
      rw [la_old hl]
      have := h.newb i h0 hl e
      omega
    · obtain rfl : i = o.length := by omega
      rw [lan]; omega
  · intro j hj x hx e
    rw [la_old (by omega)] at e
    exact (mx x).2 (.inr (h.cl j hj x hx e))
  · intro x hx e
    rw [la_old hk] at e
    rcases Nat.lt_succ_iff_lt_or_eq.1 hx with h3 | rfl
    · exact (mx x).2 (.inr (h.cl' x h3 e))
    · exact (mx x).2 (.inl rfl)
  · rw [hlen]
    have := h.cnt
    have := cnN_lt (f := m) (g := fun x => bif Nat.beq x n then true else m x) (n := W) (x := n) hn (fun x _ hx => (mx x).2 (.inr hx)) h1 ((mx n).2 (.inl rfl))
    omega
theorem KInv.skip (h : KInv L W fr k n o m) (hc : (!m n && L (la o k) n) = false) : KInv L W fr k (n + 1) o m :=
  { h with
    newb := fun i h0 hi e => Nat.lt_succ_of_lt (h.newb i h0 hi e)
    cl' := fun x hx e => by
      rcases Nat.lt_succ_iff_lt_or_eq.1 hx with h3 | rfl
      · exact h.cl' x h3 e
      · rw [e, Bool.and_true] at hc
        cases hm : m x with
        | true => rfl
        | false => rw [hm] at hc; cases hc }
theorem KInv.start (h : BInv L W fr k o m) (hk : k < o.length) : KInv L W fr k 0 o m :=
  { hd := h.hd, klt := hk, met := h.met, inj := h.inj, mono := h.mono, cl := h.cl, cnt := h.cnt
    par := fun i h0 hi => by
      obtain ⟨q1, q⟩ := h.par i h0 hi
      exact ⟨by omega, q⟩
    newb := fun i h0 hi e => by
      have := (h.par i h0 hi).1
      omega
    cl' := fun x hx => absurd hx (Nat.not_lt_zero x) }
theorem KInv.fin (h : KInv L W fr k W o m) : BInv L W fr (k + 1) o m :=
  { hd := h.hd, pos := Nat.lt_of_le_of_lt (Nat.zero_le _) h.klt, kl := h.klt, met := h.met, inj := h.inj, mono := h.mono, cnt := h.cnt
    par := fun i h0 hi => by
      obtain ⟨q1, q⟩ := h.par i h0 hi
      exact ⟨by omega, q⟩
    cl := fun j hj x hx e => by
      rcases Nat.lt_succ_iff_lt_or_eq.1 hj with h3 | rfl
      · exact h.cl j h3 x hx e
      · exact h.cl' x hx e }
theorem kst_wy {q : Bq} (w : List Nat) (hk : k < q.o.length) : ∀ n, ∃ ext, (kst L k w q n).o = q.o ++ ext
  | 0 => ⟨[], by simp [kst]⟩
  | n + 1 => by
    obtain ⟨ext, e⟩ := kst_wy w hk n
    unfold kst
    cases (!(kst L k w q n).m n && L (lastN w) n) with
    | true => exact ⟨ext ++ [(k, w ++ [n])], by simp [e]⟩
    | false => exact ⟨ext, e⟩
theorem getD_pre {a b : List (Nat × List Nat)} {i : Nat} (h : i < a.length) : (a ++ b).getD i (0, []) = a.getD i (0, []) := by
  simp [List.getD, List.getElem?_append_left h]
theorem kst_inv {q : Bq} (h : BInv L W fr k q.o q.m) (hk : k < q.o.length) : ∀ n, n ≤ W → KInv L W fr k n (kst L k (wy q.o k) q n).o (kst L k (wy q.o k) q n).m
  | 0, _ => KInv.start h hk
  | n + 1, hn => by
    have ih := kst_inv h hk n (by omega)
    obtain ⟨ext, e⟩ := kst_wy (L := L) (wy q.o k) hk n
    have ew : wy (kst L k (wy q.o k) q n).o k = wy q.o k := by
      show ((kst L k (wy q.o k) q n).o.getD k (0, [])).2 = (q.o.getD k (0, [])).2
      rw [e, getD_pre hk]
    have el : la (kst L k (wy q.o k) q n).o k = lastN (wy q.o k) := by show lastN (wy _ _) = _; rw [ew]
    unfold kst
    cases hc : (!(kst L k (wy q.o k) q n).m n && L (lastN (wy q.o k)) n) with
    | true =>
      rw [Bool.and_eq_true] at hc
      have := ih.add (by omega) (by simpa using hc.1) (by rw [el]; exact hc.2)
      rw [ew] at this
      exact this
    | false => exact ih.skip (by rw [el]; exact hc)
theorem bfs_0 (hf : fr < W) : BInv L W fr 0 (bfs L W fr 0).o (bfs L W fr 0).m where
  hd := rfl
  pos := Nat.one_pos
  kl := Nat.zero_le _
  met := fun x => by
    show Nat.beq x fr = true ↔ _
    constructor
    · intro h
      exact ⟨0, Nat.one_pos, (Nat.eq_of_beq_eq_true h).symm⟩
    · rintro ⟨i, hi, e⟩
      have : i = 0 := by have : i < 1 := hi; omega
      subst this
      have : fr = x := e
      subst this
      simp
  inj := fun i j hij hj => by have : j < 1 := hj; omega
  par := fun i h0 hi => by have : i < 1 := hi; omega
  mono := fun i j h0 hij hj => by have : j < 1 := hj; omega
  cl := fun j hj => absurd hj (Nat.not_lt_zero j)
  cnt := by
    have := cnN_lt (f := fun _ => false) (g := fun x => Nat.beq x fr) (n := W) (x := fr) hf (fun _ _ h => by cases h) rfl (by simp)
    show 1 ≤ cnN (fun x => Nat.beq x fr) W
    omega
/-- The ways go on: k of them can be taken, and none of these is at the end. -/
def goes (L : Nat → Nat → Bool) (W fr to k : Nat) : Prop := ∀ j, j < k → j < (bfs L W fr j).o.length ∧ la (bfs L W fr j).o j ≠ to
theorem bfs_inv (hf : fr < W) {to : Nat} : ∀ {k : Nat}, goes L W fr to k → BInv L W fr k (bfs L W fr k).o (bfs L W fr k).m
  | 0, _ => bfs_0 hf
  | k + 1, h => (kst_inv (bfs_inv hf fun j hj => h j (Nat.lt_succ_of_lt hj)) (h k (Nat.lt_succ_self k)).1 W (Nat.le_refl _)).fin
theorem bfs_pre {to : Nat} {j : Nat} : ∀ {k : Nat}, goes L W fr to k → j ≤ k → ∃ ext, (bfs L W fr k).o = (bfs L W fr j).o ++ ext
  | 0, _, hj => by
    obtain rfl : j = 0 := by omega
    exact ⟨[], by simp⟩
  | k + 1, h, hj => by
    by_cases e : j = k + 1
    · subst e; exact ⟨[], by simp⟩
    · obtain ⟨x, hx⟩ := bfs_pre (j := j) (k := k) (fun j hj => h j (Nat.lt_succ_of_lt hj)) (by omega)
      obtain ⟨y, hy⟩ := kst_wy (L := L) (q := bfs L W fr k) (wy (bfs L W fr k).o k) (h k (Nat.lt_succ_self k)).1 W
      refine ⟨x ++ y, ?_⟩
      show (kst L k (wy (bfs L W fr k).o k) (bfs L W fr k) W).o = _
      rw [hy, hx, List.append_assoc]
theorem bfs_reach (hf : fr < W) {to : Nat} (hs : ∀ a b, L a b = L b a) (hcl : ∀ p : Nat → Bool, (∀ a b, a < W → b < W → L a b = true → p a = p b) → p fr = p to) (hl : ∀ k, goes L W fr to k → ∀ i, i < (bfs L W fr k).o.length → la (bfs L W fr k).o i < W) :
    ∃ K, goes L W fr to K ∧ K < (bfs L W fr K).o.length ∧ la (bfs L W fr K).o K = to := by
  have main : ∀ k, (∃ K, goes L W fr to K ∧ K < (bfs L W fr K).o.length ∧ la (bfs L W fr K).o K = to) ∨ goes L W fr to k := by
    intro k
    induction k with
    | zero => exact .inr fun j hj => absurd hj (Nat.not_lt_zero j)
    | succ k ih =>
      rcases ih with h | h
      · exact .inl h
      · have hI := bfs_inv hf h
        by_cases hk : k < (bfs L W fr k).o.length
        · by_cases ht : la (bfs L W fr k).o k = to
          · exact .inl ⟨k, h, hk, ht⟩
          · refine .inr fun j hj => ?_
            rcases Nat.lt_succ_iff_lt_or_eq.1 hj with h3 | rfl
            · exact h j h3
            · exact ⟨hk, ht⟩
        · exfalso
          have hkl : (bfs L W fr k).o.length = k := by have := hI.kl; omega
          have half : ∀ a b, b < W → L a b = true → (bfs L W fr k).m a = true → (bfs L W fr k).m b = true := fun a b hb e ha => by
            obtain ⟨i, hi, rfl⟩ := (hI.met a).1 ha
            exact hI.cl i (by omega) b hb e
          have hp := hcl (bfs L W fr k).m fun a b ha hb e => by
            cases h1 : (bfs L W fr k).m a with
            | true => exact (half a b hb e h1).symm
            | false =>
              cases h2 : (bfs L W fr k).m b with
              | false => rfl
              | true => have := half b a ha (by rw [hs]; exact e) h2; rw [h1] at this; cases this
          have hfr : (bfs L W fr k).m fr = true := (hI.met fr).2 ⟨0, hI.pos, by unfold la; rw [hI.hd]; rfl⟩
          rw [hfr] at hp
          obtain ⟨i, hi, e⟩ := (hI.met to).1 hp.symm
          obtain ⟨hi1, hi2⟩ := h i (by omega)
          obtain ⟨x, hx⟩ := bfs_pre h (show i ≤ k by omega)
          refine hi2 (Eq.trans ?_ e)
          unfold la wy
          rw [hx, getD_pre hi1]
  rcases main (W + 1) with h | h
  · exact h
  · exfalso
    have h1 := h W (Nat.lt_succ_self W)
    have hI := bfs_inv (k := W) hf fun j hj => h j (Nat.lt_succ_of_lt hj)
    have h2 := hI.cnt
    have h3 := cnN_le (bfs L W fr W).m W
    omega
end
/-- A way of so many steps to a well. -/
def Pth (L : Nat → Nat → Bool) (W to : Nat) : Nat → Nat → Prop
  | 0, x => x = to
  | m + 1, x => ∃ y, y < W ∧ L x y = true ∧ Pth L W to m y
def lev (o : List (Nat × List Nat)) (i : Nat) : Nat := (wy o i).length
section
variable {L : Nat → Nat → Bool} {W fr K to : Nat} {o : List (Nat × List Nat)} {m : Nat → Bool}
theorem lev_par (h : BInv L W fr K o m) {i : Nat} (h0 : 0 < i) (hi : i < o.length) : lev o i = lev o (pa o i) + 1 := by
  unfold lev
  have := congrArg List.length (h.par i h0 hi).2.2.1
  simpa using this
theorem lev_0 (h : BInv L W fr K o m) : lev o 0 = 1 := by unfold lev; rw [h.hd]; rfl
theorem lev_pos (h : BInv L W fr K o m) {i : Nat} (hi : i < o.length) : 1 ≤ lev o i := by
  by_cases h0 : i = 0
  · subst h0; rw [lev_0 h]; exact Nat.le_refl _
  · rw [lev_par h (by omega) hi]; omega
theorem lev_mono (h : BInv L W fr K o m) : ∀ j, j < o.length → ∀ i, i ≤ j → lev o i ≤ lev o j := by
  intro j
  induction j using Nat.strongRecOn with
  | ind j ih =>
    intro hj i hij
    by_cases e : i = j
    · subst e; exact Nat.le_refl _
    · have hlt : i < j := by omega
      by_cases h0 : i = 0
      · subst h0; rw [lev_0 h]; exact lev_pos h hj
      · rw [lev_par h (by omega) (by omega), lev_par h (by omega) hj]
        have := (h.mono i j (by omega) hlt hj).1
        have := ih (pa o j) (h.par j (by omega) hj).2.1 (by have := (h.par j (by omega) hj).2.1; omega) (pa o i) this
        omega
theorem lev_le (h : BInv L W fr K o m) : ∀ i, i < o.length → lev o i ≤ i + 1 := by
  intro i
  induction i using Nat.strongRecOn with
  | ind i ih =>
    intro hi
    by_cases h0 : i = 0
    · subst h0; rw [lev_0 h]; exact Nat.le_refl _
    · have h1 := (h.par i (by omega) hi).2.1
      rw [lev_par h (by omega) hi]
      have := ih (pa o i) h1 (by omega)
      omega
/-- What is beside a way that was taken has a way itself, not behind the former's own. -/
theorem beside_way (h : BInv L W fr K o m) {i y : Nat} (hi : i < K) (hy : y < W) (e : L (la o i) y = true) : ∃ j, j < o.length ∧ la o j = y ∧ (0 < j → pa o j ≤ i) := by
  obtain ⟨j, hj, rfl⟩ := (h.met y).1 (h.cl i hi y hy e)
  refine ⟨j, hj, rfl, fun h0 => ?_⟩
  refine Classical.byContradiction fun hc => ?_
  have := (h.par j h0 hj).2.2.2.2.2 i (by omega)
  rw [e] at this
  cases this
theorem far_low (h : BInv L W fr K o m) (hK : K < o.length) (hto : la o K = to) : ∀ (r i : Nat), i < o.length → Pth L W to r (la o i) → lev o K ≤ lev o i + r
  | 0, i, hi, hp => by
    have : la o i = to := hp
    have e : i = K := by
      rcases Nat.lt_trichotomy i K with h1 | h1 | h1
      · exact (h.inj i K h1 hK (this.trans hto.symm)).elim
      · exact h1
      · exact (h.inj K i h1 hi (hto.trans this.symm)).elim
    subst e
    exact Nat.le_refl _
  | r + 1, i, hi, hp => by
    obtain ⟨y, hy, e, hp⟩ := hp
    by_cases hiK : i < K
    · obtain ⟨j, hj, rfl, hpa⟩ := beside_way h hiK hy e
      have ih := far_low h hK hto r j hj hp
      by_cases h0 : j = 0
      · subst h0
        rw [lev_0 h] at ih
        have := lev_pos h hi
        omega
      · have h1 := lev_par h (by omega) hj
        have h2 := lev_mono h i hi (pa o j) (hpa (by omega))
        omega
    · have := lev_mono h i hi K (by omega)
      omega
/-- No way ahead of this one leads on as fast. -/
def ahead (L : Nat → Nat → Bool) (W to K : Nat) (o : List (Nat × List Nat)) (j : Nat) : Prop := ∀ i, i < j → ¬ Pth L W to (lev o K - lev o j) (la o i)
theorem ahead_K (h : BInv L W fr K o m) (hK : K < o.length) (hto : la o K = to) : ahead L W to K o K := by
  intro i hi hp
  rw [Nat.sub_self] at hp
  exact h.inj i K hi hK ((show la o i = to from hp).trans hto.symm)
theorem not_behind (h : BInv L W fr K o m) {j i' i : Nat} (hj0 : 0 < j) (hj : j < o.length) (hi' : i' < o.length) (hpa : 0 < i' → pa o i' ≤ i) (hi : i < pa o j) : i' < j := by
  refine Classical.byContradiction fun hc => ?_
  by_cases e : i' = j
  · subst e
    have := hpa hj0
    omega
  · have h1 := (h.mono j i' hj0 (by omega) hi').1
    have := hpa (by omega)
    omega
theorem ahead_par (h : BInv L W fr K o m) (hK : K < o.length) {j : Nat} (hj0 : 0 < j) (hj : j < o.length) (hle : lev o j ≤ lev o K) (ha : ahead L W to K o j) (hpK : pa o j ≤ K) : ahead L W to K o (pa o j) := by
  intro i hi hp
  have e1 := lev_par h hj0 hj
  have e2 : lev o K - lev o (pa o j) = (lev o K - lev o j) + 1 := by omega
  rw [e2] at hp
  obtain ⟨y, hy, e, hp⟩ := hp
  obtain ⟨i', hi', rfl, hpa⟩ := beside_way h (show i < K by omega) hy e
  exact ha i' (not_behind h hj0 hj hi' hpa hi) hp
def anc (o : List (Nat × List Nat)) (K : Nat) : Nat → Nat
  | 0 => K
  | s + 1 => pa o (anc o K s)
theorem anc_ok (h : BInv L W fr K o m) (hK : K < o.length) (hto : la o K = to) : ∀ s, s + 1 ≤ lev o K → anc o K s ≤ K ∧ lev o (anc o K s) = lev o K - s ∧ ahead L W to K o (anc o K s) ∧ Pth L W to s (la o (anc o K s))
  | 0, _ => ⟨Nat.le_refl _, rfl, ahead_K h hK hto, hto⟩
  | s + 1, hs => by
    obtain ⟨h1, h2, h3, h4⟩ := anc_ok h hK hto s (by omega)
    have h0 : 0 < anc o K s := by
      refine Nat.pos_of_ne_zero fun e => ?_
      rw [e, lev_0 h] at h2
      omega
    have hlt : anc o K s < o.length := by omega
    obtain ⟨q1, q2, q3, q4, q5, q6⟩ := h.par _ h0 hlt
    have e1 := lev_par h h0 hlt
    refine ⟨by show pa o _ ≤ K; omega, by show lev o (pa o _) = _; omega, ahead_par h hK h0 hlt (by omega) h3 (by omega), ⟨_, q5, q4, h4⟩⟩
/-- The way that is found, step by step. -/
structure Steps (L : Nat → Nat → Bool) (W fr to d : Nat) (v : Nat → Nat) (ws : Nat → List Nat) : Prop where
  w0 : ws 0 = [fr]
  v0 : v 0 = fr
  vd : v d = to
  dW : d < W
  ws : ∀ t, t < d → ws (t + 1) = ws t ++ [v (t + 1)]
  lk : ∀ t, t < d → L (v t) (v (t + 1)) = true
  vW : ∀ t, t ≤ d → v t < W
  p : ∀ t, t ≤ d → Pth L W to (d - t) (v t)
  low : ∀ t, t ≤ d → ∀ r, Pth L W to r (v t) → d - t ≤ r
  first : ∀ t, t < d → ∀ n, n < v (t + 1) → L (v t) n = true → ¬ Pth L W to (d - (t + 1)) n
theorem bfs_steps (h : BInv L W fr K o m) (hf : fr < W) (hK : K < o.length) (hto : la o K = to) : ∃ d v ws, Steps L W fr to d v ws ∧ ws d = wy o K := by
  have hp := lev_pos h hK
  have hlast : anc o K (lev o K - 1) = 0 := by
    obtain ⟨h1, h2, _⟩ := anc_ok h hK hto (lev o K - 1) (by omega)
    refine Classical.byContradiction fun hc => ?_
    have := lev_par h (Nat.pos_of_ne_zero hc) (by omega)
    have := lev_pos h (i := pa o (anc o K (lev o K - 1))) (by have := (h.par _ (Nat.pos_of_ne_zero hc) (by omega)).2.1; omega)
    omega
  have hW : o.length ≤ W := by have := h.cnt; have := cnN_le m W; omega
  have hlev := lev_le h K hK
  have key : ∀ t, t < lev o K - 1 → 0 < anc o K (lev o K - 1 - (t + 1)) ∧ anc o K (lev o K - 1 - (t + 1)) < o.length ∧ anc o K (lev o K - 1 - t) = pa o (anc o K (lev o K - 1 - (t + 1))) := by
    intro t ht
    obtain ⟨h1, h2, _⟩ := anc_ok h hK hto (lev o K - 1 - (t + 1)) (by omega)
    refine ⟨Nat.pos_of_ne_zero fun e => ?_, by omega, ?_⟩
    · rw [e, lev_0 h] at h2
      omega
    · have : lev o K - 1 - t = (lev o K - 1 - (t + 1)) + 1 := by omega
      rw [this]; rfl
  refine ⟨lev o K - 1, fun t => la o (anc o K (lev o K - 1 - t)), fun t => wy o (anc o K (lev o K - 1 - t)), ?_, by simp [anc]⟩
  constructor
  · show wy o (anc o K (lev o K - 1 - 0)) = _
    rw [Nat.sub_zero, hlast]; exact h.hd
  · show la o (anc o K (lev o K - 1 - 0)) = _
    rw [Nat.sub_zero, hlast]; unfold la; rw [h.hd]; rfl
  · show la o (anc o K (lev o K - 1 - (lev o K - 1))) = _
    rw [Nat.sub_self]; exact hto
  · omega
  · intro t ht
    obtain ⟨k1, k2, k3⟩ := key t ht
    show wy o _ = wy o _ ++ _
    rw [k3]; exact (h.par _ k1 k2).2.2.1
  · intro t ht
    obtain ⟨k1, k2, k3⟩ := key t ht
    show L (la o _) (la o _) = true
    rw [k3]; exact (h.par _ k1 k2).2.2.2.1
  · intro t ht
    obtain ⟨h1, _⟩ := anc_ok h hK hto (lev o K - 1 - t) (by omega)
    show la o _ < W
    generalize anc o K (lev o K - 1 - t) = i at h1
    by_cases h0 : i = 0
    · subst h0; unfold la; rw [h.hd]; exact hf
    · exact (h.par i (by omega) (by omega)).2.2.2.2.1
  · intro t ht
    exact (anc_ok h hK hto (lev o K - 1 - t) (by omega)).2.2.2
  · intro t ht r hr
    obtain ⟨h1, h2, _⟩ := anc_ok h hK hto (lev o K - 1 - t) (by omega)
    have := far_low h hK hto r _ (by omega) hr
    omega
  · intro t ht n hn hL hP
    obtain ⟨k1, k2, k3⟩ := key t ht
    obtain ⟨h1, h2, h3, _⟩ := anc_ok h hK hto (lev o K - 1 - (t + 1)) (by omega)
    obtain ⟨g1, g2, _⟩ := anc_ok h hK hto (lev o K - 1 - t) (by omega)
    have hn' : n < la o (anc o K (lev o K - 1 - (t + 1))) := hn
    have hL' : L (la o (anc o K (lev o K - 1 - t))) n = true := hL
    have hvW : la o (anc o K (lev o K - 1 - (t + 1))) < W := (h.par _ k1 k2).2.2.2.2.1
    have hlt := (h.par _ k1 k2).2.1
    rw [k3] at hL'
    obtain ⟨i', hi', rfl, hpa⟩ := beside_way h (i := pa o (anc o K (lev o K - 1 - (t + 1)))) (by omega) (by omega) hL'
    generalize anc o K (lev o K - 1 - (t + 1)) = j at *
    have hij : i' < j := by
      refine Classical.byContradiction fun hc => ?_
      by_cases e : i' = j
      · subst e; omega
      · obtain ⟨m1, m2⟩ := h.mono j i' k1 (by omega) hi'
        have := hpa (by omega)
        have := m2 (by omega)
        omega
    refine h3 i' hij ?_
    have : lev o K - lev o j = lev o K - 1 - (t + 1) := by omega
    rw [this]; exact hP
end
end Go.Proofs.Ytnjhbmcambofgaa
