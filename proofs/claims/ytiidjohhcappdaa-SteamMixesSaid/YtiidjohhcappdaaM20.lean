/- Layer 1: the greatest remainder that is left. -/
import Derived.Test.YtiidjohhcappdaaM18
namespace Go.Proofs.Ytiidjohhcappdaa
open Go.V

/-- Among the first t. -/
def dn (o : Nat → Nat) : Nat → Nat → Bool
  | 0, _ => false
  | t + 1, i => bif Nat.beq i (o t) then true else dn o t i
def bs (r : Nat → Int) (d : Nat → Bool) : Nat → Int
  | 0 => -1
  | i + 1 => bif d i then bs r d i else if bs r d i < 0 ∨ r (bs r d i).toNat < r i then (i : Int) else bs r d i
theorem bs_bd {r : Nat → Int} {d : Nat → Bool} : ∀ i, -1 ≤ bs r d i ∧ bs r d i < i
  | 0 => by simp [bs]
  | i + 1 => by
    have ih := bs_bd (r := r) (d := d) i
    unfold bs
    cases d i with
    | true => simp only [cond_true]; omega
    | false =>
      simp only [cond_false]
      split <;> omega
theorem dn_at {r : Nat → Int} {n : Nat} {o : Nat → Nat} (h : Srt r n o) : ∀ t, t ≤ n → ∀ p, p < n → (dn o t (o p) = true ↔ p < t)
  | 0, _, p, _ => by simp [dn]
  | t + 1, ht, p, hp => by
    have ih := dn_at h t (by omega) p hp
    unfold dn
    by_cases e : p = t
    · subst e
      rw [show Nat.beq (o p) (o p) = true from Nat.beq_refl _]
      simp
    · have hne : o p ≠ o t := fun e' => e (h.inj hp (by omega) e')
      have : Nat.beq (o p) (o t) = false := by rw [Bool.eq_false_iff]; intro e; exact hne (Nat.eq_of_beq_eq_true e)
      rw [this, cond_false, ih]
      omega
structure Bst (r : Nat → Int) (d : Nat → Bool) (k : Nat) (b : Int) : Prop where
  none : b < 0 → ∀ j, j < k → d j = true
  some : 0 ≤ b → d b.toNat = false ∧ ∀ j, j < k → d j = false → j ≠ b.toNat → bef r b.toNat j
theorem bs_bst {r : Nat → Int} {d : Nat → Bool} : ∀ k, Bst r d k (bs r d k)
  | 0 => ⟨fun _ j hj => by omega, fun h => by simp [bs] at h⟩
  | k + 1 => by
    have ih := bs_bst (r := r) (d := d) k
    have hb := bs_bd (r := r) (d := d) k
    unfold bs
    cases hd : d k with
    | true =>
      simp only [cond_true]
      refine ⟨fun h j hj => ?_, fun h => ⟨(ih.some h).1, fun j hj hj2 hne => ?_⟩⟩
      · by_cases e : j = k
        · subst e; exact hd
        · exact ih.none h j (by omega)
      · by_cases e : j = k
        · subst e; rw [hd] at hj2; cases hj2
        · exact (ih.some h).2 j (by omega) hj2 hne
    | false =>
      simp only [cond_false]
      by_cases hc : bs r d k < 0 ∨ r (bs r d k).toNat < r k
      · rw [if_pos hc]
        refine ⟨fun h => by omega, fun _ => ?_⟩
        rw [Int.toNat_natCast]
        refine ⟨hd, fun j hj hj2 hne => ?_⟩
        have hj : j < k := by omega
        rcases hc with hc | hc
        · have := ih.none hc j hj
          rw [this] at hj2; cases hj2
        · by_cases h0 : bs r d k < 0
          · have := ih.none h0 j hj
            rw [this] at hj2; cases hj2
          · obtain ⟨_, h2⟩ := ih.some (by omega)
            by_cases e : j = (bs r d k).toNat
            · subst e; exact .inl hc
            · have := h2 j hj hj2 e
              unfold bef at *
              omega
      · rw [if_neg hc]
        have h0 : 0 ≤ bs r d k := by omega
        obtain ⟨h1, h2⟩ := ih.some h0
        refine ⟨fun h => by omega, fun _ => ⟨h1, fun j hj hj2 hne => ?_⟩⟩
        by_cases e : j = k
        · subst e
          unfold bef
          omega
        · exact h2 j (by omega) hj2 hne
theorem bs_ord {r : Nat → Int} {n : Nat} {o : Nat → Nat} (h : Srt r n o) {t : Nat} (ht : t < n) : bs r (dn o t) n = (o t : Int) := by
  have hB := bs_bst (r := r) (d := dn o t) n
  have hb := bs_bd (r := r) (d := dn o t) n
  have hot : dn o t (o t) = false := by
    rw [Bool.eq_false_iff]
    intro e
    have := (dn_at h t (by omega) t ht).1 e
    omega
  by_cases h0 : bs r (dn o t) n < 0
  · have := hB.none h0 (o t) (h.lt t ht)
    rw [hot] at this; cases this
  · obtain ⟨h1, h2⟩ := hB.some (by omega)
    obtain ⟨p, hp, e⟩ := h.sur (bs r (dn o t) n).toNat (by omega)
    have hpt : t ≤ p := by
      by_cases hlt : p < t
      · have := (dn_at h t (by omega) p hp).2 hlt
        rw [e] at this
        rw [this] at h1; cases h1
      · omega
    by_cases e' : p = t
    · subst e'; omega
    · have b1 := h.srt t p (by omega) hp
      have b2 := h2 (o t) (h.lt t ht) hot (fun e'' => by rw [← e] at e''; exact e' (h.inj hp ht e''.symm))
      rw [← e] at b2
      exact (bef_irr (bef_trans b1 b2)).elim
end Go.Proofs.Ytiidjohhcappdaa
