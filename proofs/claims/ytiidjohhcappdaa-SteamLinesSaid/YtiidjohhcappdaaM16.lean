/- Layer 1: levels and the saturation, as numbers. -/
import Derived.Test.YtiidjohhcappdaaS21
namespace Go.Proofs.Ytiidjohhcappdaa
open Go.V

theorem P_lt {n : Nat} {t : Nat → Row} (h : okT n t) : ∀ j i, i < j → j < n → (t i).P < (t j).P := by
  intro j
  induction j with
  | zero => intro i hi; omega
  | succ j ih =>
    intro i hi hj
    have hb := (h.2.2.all (j + 1) hj).2 (by omega)
    simp only [belP, Nat.add_sub_cancel] at hb
    by_cases hij : i = j
    · subst hij; omega
    · have := ih i (by omega) (by omega)
      omega
theorem lev_mid {n : Nat} {t : Nat → Row} (h : okT n t) {p : Int} {k : Nat} (h1 : (t k).P ≤ p) (h2 : k + 1 < n → p < (t (k + 1)).P) : ∀ j, k < j → j ≤ n → lev t p j = k
  | 0, hk, _ => by omega
  | j + 1, hk, hj => by
    show (if (t j).P ≤ p then (j : Int) else lev t p j) = k
    by_cases hjk : j = k
    · subst hjk; rw [if_pos h1]
    · have h3 := h2 (by omega)
      have : (t (k + 1)).P ≤ (t j).P := by
        by_cases he : k + 1 = j
        · rw [he]; omega
        · have := P_lt h j (k + 1) (by omega) (by omega)
          omega
      rw [if_neg (by omega)]
      exact lev_mid h h1 h2 j (by omega) (by omega)
theorem lev_none {n : Nat} {t : Nat → Row} (h : okT n t) {p : Int} (h1 : p < (t 0).P) : ∀ j, j ≤ n → lev t p j = -1
  | 0, _ => rfl
  | j + 1, hj => by
    show (if (t j).P ≤ p then (j : Int) else lev t p j) = -1
    have : (t 0).P ≤ (t j).P := by
      by_cases he : j = 0
      · subst he; omega
      · have := P_lt h j 0 (by omega) (by omega)
        omega
    rw [if_neg (by omega)]
    exact lev_none h h1 j (by omega)
theorem nx_spec {n : Nat} {t : Nat → Row} {x : Int} (h2 : x ≤ (t (n - 1)).T) : ∀ f j, 1 ≤ j → j + f = n → 1 ≤ f → (t (j - 1)).T ≤ x → (1 < j → (t (j - 1)).T < x) →
    ∃ k, nx t x j f = k ∧ j ≤ k ∧ k < n ∧ (t (k - 1)).T ≤ x ∧ (1 < k → (t (k - 1)).T < x) ∧ x ≤ (t k).T := by
  intro f
  induction f with
  | zero => intro j _ _ hf; omega
  | succ f ih =>
    intro j hj hjf _ hlo hst
    by_cases ht : (t j).T < x
    · have hf : 1 ≤ f := by
        apply Classical.byContradiction
        intro hc
        have : j = n - 1 := by omega
        rw [this] at ht
        omega
      obtain ⟨k, g1, g2, g3, g4, g5, g6⟩ := ih (j + 1) (by omega) (by omega) hf (by rw [Nat.add_sub_cancel]; omega) (fun _ => by rw [Nat.add_sub_cancel]; omega)
      refine ⟨k, ?_, by omega, g3, g4, g5, g6⟩
      show (if (t j).T < x then nx t x (j + 1) f else j) = k
      rw [if_pos ht]; exact g1
    · refine ⟨j, ?_, Nat.le_refl _, by omega, hlo, hst, by omega⟩
      show (if (t j).T < x then nx t x (j + 1) f else j) = j
      rw [if_neg ht]

/-- The saturation at a temperature: its numbers, before they are made small. -/
theorem sat_nums {n : Nat} {t : Nat → Row} (h : okT n t) {x : Int} (h1 : (t 0).T ≤ x) (h2 : x ≤ (t (n - 1)).T) :
    ∃ (k : Nat) (a d g : Nat), 1 ≤ k ∧ k < n ∧ (t (k - 1)).T ≤ x ∧ (1 < k → (t (k - 1)).T < x) ∧ x ≤ (t k).T ∧ satB t x (nx t x 1 (n - 1)) = (((a / g : Nat) : Int), ((d / g : Nat) : Int)) ∧ g = Nat.gcd a d ∧ 0 < d ∧ d ≤ 400 ∧ a ≤ 8000000 ∧
      (a : Int) = betN (t (k - 1)) (t k) x ∧ (d : Int) = (t k).T - (t (k - 1)).T := by
  have hn := h.1
  obtain ⟨k, g1, g2, g3, g4, g5, g6⟩ := nx_spec h2 (n - 1) 1 (Nat.le_refl _) (by omega) (by omega) h1 (fun hc => by omega)
  have r1 := (h.2.2.all k g3).1
  have r0 := (h.2.2.all (k - 1) (by omega)).1
  have rb := (h.2.2.all k g3).2 (by omega)
  simp only [okR] at r1 r0
  simp only [belP] at rb
  have p1 := Int.mul_nonneg (show 0 ≤ (t (k - 1)).P by omega) (show 0 ≤ (t k).T - (t (k - 1)).T by omega)
  have p2 := Int.mul_nonneg (show 0 ≤ (t k).P - (t (k - 1)).P by omega) (show 0 ≤ x - (t (k - 1)).T by omega)
  have p3 := Int.mul_le_mul (show (t (k - 1)).P ≤ 10000 by omega) (show (t k).T - (t (k - 1)).T ≤ 400 by omega) (by omega) (by omega)
  have p4 := Int.mul_le_mul (show (t k).P - (t (k - 1)).P ≤ 10000 by omega) (show x - (t (k - 1)).T ≤ 400 by omega) (by omega) (by omega)
  have hb : 0 ≤ betN (t (k - 1)) (t k) x ∧ betN (t (k - 1)) (t k) x ≤ 8000000 := by unfold betN; omega
  obtain ⟨a, ha⟩ := Int.eq_ofNat_of_zero_le hb.1
  obtain ⟨d, hd⟩ := Int.eq_ofNat_of_zero_le (show 0 ≤ (t k).T - (t (k - 1)).T by omega)
  refine ⟨k, a, d, Nat.gcd a d, by omega, g3, g4, g5, g6, ?_, rfl, by omega, by omega, by omega, ha.symm, hd.symm⟩
  rw [g1]
  unfold satB betG
  rw [ha, hd]
  show (Int.tdiv (a : Int) ((Nat.gcd a d : Nat) : Int), Int.tdiv (d : Int) ((Nat.gcd a d : Nat) : Int)) = _
  rw [← Int.ofNat_tdiv, ← Int.ofNat_tdiv]

theorem sat_small {a d g : Nat} (hg : g = Nat.gcd a d) (hd : 0 < d) : Nat.gcd (a / g) (d / g) = 1 ∧ 1 ≤ d / g ∧ a / g * g = a ∧ d / g * g = d ∧ 0 < g := by
  have hp : 0 < Nat.gcd a d := Nat.gcd_pos_of_pos_right _ hd
  subst hg
  have h1 := Nat.div_mul_cancel (Nat.gcd_dvd_left a d)
  have h2 := Nat.div_mul_cancel (Nat.gcd_dvd_right a d)
  refine ⟨Nat.coprime_div_gcd_div_gcd hp, ?_, h1, h2, hp⟩
  rcases Nat.eq_zero_or_pos (d / Nat.gcd a d) with h0 | h0
  · rw [h0] at h2
    omega
  · exact h0

/-- The saturation rises. -/
theorem sat_lt {n : Nat} {t : Nat → Row} (h : okT n t) {x y : Int} {k k' a d a' d' : Nat} (hxy : x < y) (hk : 1 ≤ k) (hkn : k < n) (hx0 : (t (k - 1)).T ≤ x) (hx1 : x ≤ (t k).T)
    (hk' : 1 ≤ k') (hkn' : k' < n) (hy0 : (t (k' - 1)).T ≤ y) (hys : 1 < k' → (t (k' - 1)).T < y) (hy1 : y ≤ (t k').T)
    (ha : (a : Int) = betN (t (k - 1)) (t k) x) (hd : (d : Int) = (t k).T - (t (k - 1)).T) (ha' : (a' : Int) = betN (t (k' - 1)) (t k') y) (hd' : (d' : Int) = (t k').T - (t (k' - 1)).T) : (a : Int) * d' < a' * d := by
  have pk := P_lt h k (k - 1) (by omega) hkn
  have pk' := P_lt h k' (k' - 1) (by omega) hkn'
  have tk := T_lt h k (k - 1) (by omega) hkn
  have tk' := T_lt h k' (k' - 1) (by omega) hkn'
  have hkk : k ≤ k' := by
    apply Classical.byContradiction
    intro hc
    have : (t k').T ≤ (t (k - 1)).T := by
      by_cases he : k' = k - 1
      · rw [he]; omega
      · have := T_lt h (k - 1) k' (by omega) (by omega)
        omega
    omega
  by_cases he : k = k'
  · subst he
    rw [ha, ha', hd, hd']
    unfold betN
    refine Int.mul_lt_mul_of_pos_right ?_ (by omega)
    have := Int.mul_lt_mul_of_pos_left (show x - (t (k - 1)).T < y - (t (k - 1)).T by omega) (show 0 < (t k).P - (t (k - 1)).P by omega)
    omega
  · -- a ≤ P_k d, P_(k'-1) d' < a'
    have u1 : (a : Int) ≤ (t k).P * d := by
      rw [ha, hd]
      unfold betN
      have := Int.mul_le_mul_of_nonneg_left (show x - (t (k - 1)).T ≤ (t k).T - (t (k - 1)).T by omega) (show 0 ≤ (t k).P - (t (k - 1)).P by omega)
      have e : (t k).P * ((t k).T - (t (k - 1)).T) = (t (k - 1)).P * ((t k).T - (t (k - 1)).T) + ((t k).P - (t (k - 1)).P) * ((t k).T - (t (k - 1)).T) := by rw [← Int.add_mul]; congr 1; omega
      omega
    have u2 : (t (k' - 1)).P * d' < (a' : Int) := by
      rw [ha', hd']
      unfold betN
      have := Int.mul_pos (show 0 < (t k').P - (t (k' - 1)).P by omega) (show 0 < y - (t (k' - 1)).T by have := hys (by omega); omega)
      omega
    have hP : (t k).P ≤ (t (k' - 1)).P := by
      by_cases he : k = k' - 1
      · rw [← he]; omega
      · have := P_lt h (k' - 1) k (by omega) (by omega)
        omega
    have hdp : (0 : Int) < d := by omega
    have hdp' : (0 : Int) < d' := by omega
    have v1 : (a : Int) * d' ≤ (t k).P * d * d' := Int.mul_le_mul_of_nonneg_right u1 (by omega)
    have v2 : (t k).P * d * d' ≤ (t (k' - 1)).P * d * d' := Int.mul_le_mul_of_nonneg_right (Int.mul_le_mul_of_nonneg_right hP (by omega)) (by omega)
    have v3 : (t (k' - 1)).P * d' * d < a' * d := Int.mul_lt_mul_of_pos_right u2 hdp
    have e : (t (k' - 1)).P * d * d' = (t (k' - 1)).P * d' * d := Int.mul_right_comm ..
    omega
/-- So it does when its numbers are made small. -/
theorem small_lt {a d g a' d' g' : Nat} (h1 : a / g * g = a) (h2 : d / g * g = d) (h1' : a' / g' * g' = a') (h2' : d' / g' * g' = d') (h : (a : Int) * d' < a' * d) :
    ((a / g : Nat) : Int) * ((d' / g' : Nat) : Int) < ((a' / g' : Nat) : Int) * ((d / g : Nat) : Int) := by
  have h : a * d' < a' * d := by exact_mod_cast h
  have : a / g * (d' / g') < a' / g' * (d / g) := by
    generalize a / g = A at *
    generalize d / g = D at *
    generalize a' / g' = A' at *
    generalize d' / g' = D' at *
    subst h1 h2 h1' h2'
    have e1 : A * g * (D' * g') = A * D' * (g * g') := by rw [Nat.mul_mul_mul_comm]
    have e2 : A' * g' * (D * g) = A' * D * (g * g') := by rw [Nat.mul_mul_mul_comm, Nat.mul_comm g' g]
    rw [e1, e2] at h
    exact Nat.lt_of_mul_lt_mul_right h
  exact_mod_cast this
end Go.Proofs.Ytiidjohhcappdaa
