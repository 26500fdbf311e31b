/- Layer 1: the order of remainders, the greatest first, of equal ones the first one first. -/
import Derived.Test.YtiidjohhcappdaaS5
namespace Go.Proofs.Ytiidjohhcappdaa
open Go.V

/-- i comes before j. -/
def bef (r : Nat → Int) (i j : Nat) : Prop := r j < r i ∨ (r i = r j ∧ i < j)
theorem bef_irr {r : Nat → Int} {i : Nat} : ¬ bef r i i := by unfold bef; omega
theorem bef_trans {r : Nat → Int} {i j k : Nat} (h : bef r i j) (h' : bef r j k) : bef r i k := by unfold bef at *; omega
theorem bef_total {r : Nat → Int} {i j : Nat} (h : i ≠ j) : bef r i j ∨ bef r j i := by unfold bef; omega

/-- An order of the first k numbers. -/
structure Srt (r : Nat → Int) (k : Nat) (o : Nat → Nat) : Prop where
  lt : ∀ p, p < k → o p < k
  srt : ∀ p q, p < q → q < k → bef r (o p) (o q)
  sur : ∀ i, i < k → ∃ p, p < k ∧ o p = i
theorem Srt.inj {r : Nat → Int} {k : Nat} {o : Nat → Nat} (h : Srt r k o) {p q : Nat} (hp : p < k) (hq : q < k) (e : o p = o q) : p = q := by
  rcases Nat.lt_trichotomy p q with h1 | h1 | h1
  · have := h.srt p q h1 hq; rw [e] at this; exact (bef_irr this).elim
  · exact h1
  · have := h.srt q p h1 hp; rw [e] at this; exact (bef_irr this).elim

/-- k, put at the place j among the first k. -/
def ins (o : Nat → Nat) (k j : Nat) : Nat → Nat := fun x => if x < j then o x else if x = j then k else if x ≤ k then o (x - 1) else x
/-- How far k moves. -/
def stop (r : Nat → Int) (o : Nat → Nat) (k : Nat) : Nat → Nat
  | 0 => 0
  | j + 1 => if r (o j) < r k then stop r o k j else j + 1
def ordR (r : Nat → Int) : Nat → Nat → Nat
  | 0 => fun x => x
  | k + 1 => ins (ordR r k) k (stop r (ordR r k) k k)
theorem stop_le {r : Nat → Int} {o : Nat → Nat} {k : Nat} : ∀ j, stop r o k j ≤ j
  | 0 => Nat.le_refl _
  | j + 1 => by
    unfold stop
    split
    · have := stop_le (r := r) (o := o) (k := k) j; omega
    · exact Nat.le_refl _
theorem stop_above {r : Nat → Int} {o : Nat → Nat} {k : Nat} : ∀ j p, stop r o k j ≤ p → p < j → r (o p) < r k
  | 0, p, _, h => by omega
  | j + 1, p, h, hp => by
    unfold stop at h
    split at h
    · rename_i hj
      by_cases e : p = j
      · subst e; exact hj
      · exact stop_above j p h (by omega)
    · omega
theorem stop_at {r : Nat → Int} {o : Nat → Nat} {k : Nat} : ∀ j, 0 < stop r o k j → ¬ r (o (stop r o k j - 1)) < r k
  | 0, h => by simp [stop] at h
  | j + 1, h => by
    unfold stop at h ⊢
    split at h
    · rename_i hj
      rw [if_pos hj]
      exact stop_at j h
    · rename_i hj
      rw [if_neg hj]
      exact hj
theorem srt_step {r : Nat → Int} {k : Nat} {o : Nat → Nat} (h : Srt r k o) : Srt r (k + 1) (ins o k (stop r o k k)) := by
  generalize hs : stop r o k k = j
  have hj : j ≤ k := by rw [← hs]; exact stop_le k
  have hab : ∀ p, j ≤ p → p < k → bef r k (o p) := fun p h1 h2 => .inl (stop_above k p (by omega) h2)
  have hbl : ∀ p, p < j → bef r (o p) k := by
    intro p hp
    have h0 : ¬ r (o (j - 1)) < r k := by rw [← hs]; exact stop_at k (by omega)
    have h1 : bef r (o (j - 1)) k := by
      have := h.lt (j - 1) (by omega)
      unfold bef; omega
    by_cases e : p = j - 1
    · subst e; exact h1
    · exact bef_trans (h.srt p (j - 1) (by omega) (by omega)) h1
  have e1 : ∀ x, x < j → ins o k j x = o x := fun x hx => if_pos hx
  have e2 : ins o k j j = k := by unfold ins; rw [if_neg (by omega), if_pos rfl]
  have e3 : ∀ x, j < x → x ≤ k → ins o k j x = o (x - 1) := fun x h1 h2 => by unfold ins; rw [if_neg (by omega), if_neg (by omega), if_pos h2]
  refine ⟨fun p hp => ?_, fun p q hpq hq => ?_, fun i hi => ?_⟩
  · rcases Nat.lt_trichotomy p j with h1 | h1 | h1
    · rw [e1 p h1]; have := h.lt p (by omega); omega
    · subst h1; rw [e2]; omega
    · rw [e3 p h1 (by omega)]; have := h.lt (p - 1) (by omega); omega
  · rcases Nat.lt_trichotomy p j with h1 | h1 | h1
    · rw [e1 p h1]
      rcases Nat.lt_trichotomy q j with h2 | h2 | h2
      · rw [e1 q h2]; exact h.srt p q hpq (by omega)
      · subst h2; rw [e2]; exact hbl p h1
      · rw [e3 q h2 (by omega)]; exact h.srt p (q - 1) (by omega) (by omega)
    · subst h1
      rw [e2, e3 q hpq (by omega)]
      exact hab (q - 1) (by omega) (by omega)
    · rw [e3 p h1 (by omega), e3 q (by omega) (by omega)]
      exact h.srt (p - 1) (q - 1) (by omega) (by omega)
  · by_cases hik : i = k
    · exact ⟨j, by omega, by rw [e2, hik]⟩
    · obtain ⟨p, hp, e⟩ := h.sur i (by omega)
      by_cases h1 : p < j
      · exact ⟨p, by omega, by rw [e1 p h1, e]⟩
      · exact ⟨p + 1, by omega, by rw [e3 (p + 1) (by omega) (by omega), Nat.add_sub_cancel, e]⟩
theorem ordR_srt (r : Nat → Int) : ∀ k, Srt r k (ordR r k)
  | 0 => ⟨fun p hp => by omega, fun p q _ hq => by omega, fun i hi => by omega⟩
  | k + 1 => srt_step (ordR_srt r k)
theorem ordR_out (r : Nat → Int) : ∀ k x, k ≤ x → ordR r k x = x
  | 0, x, _ => rfl
  | k + 1, x, h => by
    have := stop_le (r := r) (o := ordR r k) (k := k) k
    show ins (ordR r k) k _ x = x
    unfold ins
    rw [if_neg (by omega), if_neg (by omega), if_neg (by omega)]
theorem ins_start {o : Nat → Nat} {k : Nat} (h : ∀ x, k ≤ x → o x = x) : ins o k k = o := by
  funext x
  unfold ins
  split
  · rfl
  · split
    · rename_i e; subst e; exact (h _ (Nat.le_refl _)).symm
    · split
      · omega
      · exact (h x (by omega)).symm

/-- How often a number is among the first t. -/
def cnt (o : Nat → Nat) : Nat → Nat → Int
  | 0, _ => 0
  | t + 1, x => cnt o t x + (if o t = x then 1 else 0)
def sumZ (f : Nat → Int) : Nat → Int
  | 0 => 0
  | n + 1 => sumZ f n + f n
theorem sumZ_add (f g : Nat → Int) : ∀ n, sumZ (fun x => f x + g x) n = sumZ f n + sumZ g n
  | 0 => rfl
  | n + 1 => by simp only [sumZ, sumZ_add f g n]; omega
theorem sumZ_one (y : Nat) : ∀ n, sumZ (fun x => if y = x then (1 : Int) else 0) n = if y < n then 1 else 0
  | 0 => rfl
  | n + 1 => by
    simp only [sumZ, sumZ_one y n]
    by_cases h : y < n
    · rw [if_pos h, if_neg (by omega), if_pos (by omega)]; rfl
    · by_cases e : y = n
      · rw [if_neg h, if_pos e, if_pos (by omega)]; rfl
      · rw [if_neg h, if_neg e, if_neg (by omega)]; rfl
theorem sumZ_congr {f g : Nat → Int} : ∀ {n}, (∀ x, x < n → f x = g x) → sumZ f n = sumZ g n
  | 0, _ => rfl
  | n + 1, h => by
    simp only [sumZ]
    rw [sumZ_congr (n := n) (fun x hx => h x (by omega)), h n (by omega)]
theorem cnt_sum {o : Nat → Nat} {n : Nat} : ∀ t, (∀ p, p < t → o p < n) → sumZ (cnt o t) n = t
  | 0, _ => by
    have : ∀ n, sumZ (cnt o 0) n = 0 := by
      intro n
      induction n with
      | zero => rfl
      | succ n ih => show sumZ (cnt o 0) n + 0 = 0; omega
    exact this n
  | t + 1, h => by
    have e : sumZ (cnt o (t + 1)) n = sumZ (fun x => cnt o t x + (if o t = x then 1 else 0)) n := rfl
    rw [e, sumZ_add, cnt_sum t (fun p hp => h p (by omega)), sumZ_one, if_pos (h t (by omega))]
    omega
theorem cnt_nn {o : Nat → Nat} {x : Nat} : ∀ t, 0 ≤ cnt o t x
  | 0 => by simp [cnt]
  | t + 1 => by
    have := cnt_nn (o := o) (x := x) t
    simp only [cnt]
    split <;> omega
/-- Among the first t, or not. -/
theorem cnt_of {r : Nat → Int} {n : Nat} {o : Nat → Nat} (h : Srt r n o) : ∀ t, t ≤ n → ∀ p, p < n → cnt o t (o p) = if p < t then 1 else 0
  | 0, _, p, _ => rfl
  | t + 1, ht, p, hp => by
    simp only [cnt, cnt_of h t (by omega) p hp]
    by_cases e : p = t
    · subst e
      rw [if_neg (by omega), if_pos rfl, if_pos (by omega)]; rfl
    · have hne : o t ≠ o p := fun e' => e (h.inj hp (by omega) e'.symm)
      rw [if_neg hne]
      by_cases h1 : p < t
      · rw [if_pos h1, if_pos (by omega)]; rfl
      · rw [if_neg h1, if_neg (by omega)]; rfl
/-- What is left over is a part of each remainder that is not 0. -/
theorem sumZ_le {f : Nat → Int} {B : Int} : ∀ n, (∀ x, x < n → f x ≤ B) → sumZ f n ≤ B * n
  | 0, _ => by simp [sumZ]
  | n + 1, h => by
    have h1 := sumZ_le n (fun x hx => h x (by omega))
    have h2 := h n (by omega)
    simp only [sumZ]
    have e : B * ((n + 1 : Nat) : Int) = B * n + B := by rw [Int.natCast_add, Int.mul_add]; simp
    rw [e]; omega
theorem sumZ_nn {f : Nat → Int} : ∀ n, (∀ x, x < n → 0 ≤ f x) → 0 ≤ sumZ f n
  | 0, _ => Int.le_refl _
  | n + 1, h => by
    have h1 := sumZ_nn n (fun x hx => h x (by omega))
    have h2 := h n (by omega)
    simp only [sumZ]
    omega
end Go.Proofs.Ytiidjohhcappdaa
