/- Layer 1: parts are valid, and weigh what the stream weighs. -/
import Derived.Test.YtiidjohhcappdaaS37
import Derived.Test.YtiidjohhcappdaaS20
namespace Go.Proofs.Ytiidjohhcappdaa
open Go.V

theorem sumZ_sh {n : Nat} {w : Nat → Int} {M : Int} {t : Nat} (ht : t ≤ n) : sumZ (shM M w n t) n = sq (sumZ w n) M w n + t := by
  have e : sumZ (shM M w n t) n = sumZ (fun x => qF (sumZ w n) M w n x + cnt (ordR (rF (sumZ w n) M w n) n) t x) n := rfl
  rw [e, sumZ_add, cnt_sum t (fun p hp => (ordR_srt _ n).lt p (by omega))]
  have : sumZ (qF (sumZ w n) M w n) n = sq (sumZ w n) M w n := sumZ_congr fun x hx => qF_lt hx
  rw [this]
theorem shM_nn {n : Nat} {w : Nat → Int} {M : Int} {t : Nat} (h : okW n w) (hM : 0 ≤ M ∧ M ≤ 1000000) (i : Nat) : 0 ≤ shM M w n t i := by
  have h1 := (qF_bd h hM i).1
  have h2 := cnt_nn (o := ordR (rF (sumZ w n) M w n) n) (x := i) t
  unfold shM; omega
theorem sumZ_at {f : Nat → Int} {i : Nat} : ∀ {n}, i < n → (∀ x, x < n → 0 ≤ f x) → f i ≤ sumZ f n
  | 0, h, _ => by omega
  | n + 1, h, h0 => by
    have h1 := sumZ_nn n (fun x hx => h0 x (by omega))
    have h2 := h0 n (by omega)
    simp only [sumZ]
    by_cases e : i = n
    · subst e; omega
    · have := @sumZ_at f i n (by omega) (fun x hx => h0 x (by omega))
      omega
theorem sh_sum {n : Nat} {w : Nat → Int} {M : Int} (h : okW n w) (hM : 0 ≤ M ∧ M ≤ 1000000) : sumZ (shMass M w n) n = M := by
  have hl := left_bd h hM
  have e : sumZ (shMass M w n) n = sq (sumZ w n) M w n + ((leftM M w n).toNat : Int) := sumZ_sh (by omega)
  rw [e]
  have : leftM M w n = M - sq (sumZ w n) M w n := rfl
  omega
theorem sh_bd {n : Nat} {w : Nat → Int} {M : Int} (h : okW n w) (hM : 0 ≤ M ∧ M ≤ 1000000) {i : Nat} (hi : i < n) : 0 ≤ shMass M w n i ∧ shMass M w n i ≤ M := by
  refine ⟨shM_nn h hM i, ?_⟩
  have := sumZ_at (f := shMass M w n) hi (fun x _ => shM_nn h hM x)
  rw [sh_sum h hM] at this
  exact this
theorem part_le {a m M c : Int} (hM : 0 < M) (hm : 0 ≤ m) (ha : a ≤ c * M) : a * m / M ≤ c * m := by
  have h1 : a * m ≤ c * M * m := Int.mul_le_mul_of_nonneg_right ha hm
  have h2 : c * M * m = c * m * M := by rw [Int.mul_assoc, Int.mul_comm M m, ← Int.mul_assoc]
  rw [h2] at h1
  have := Int.ediv_le_ediv hM h1
  rwa [Int.mul_ediv_cancel _ (Int.ne_of_gt hM)] at this
theorem okS_prt {x : Stream} {m : Int} (hx : okS x) (hm : 0 ≤ m ∧ m ≤ x.m) : okS (prtS x m) := by
  obtain ⟨h0, h1, h2, h3, h4, h5, h6, h7⟩ := hx
  by_cases hz : x.m = 0
  · have : prtS x m = zeroS := if_pos hz
    rw [this]; decide
  · have : prtS x m = ⟨x.m * m / x.m, x.h * m / x.m, x.s * m / x.m, x.g * m / x.m⟩ := if_neg hz
    rw [this]
    have hp : 0 < x.m := by omega
    have e : x.m * m / x.m = m := Int.mul_ediv_cancel_left _ hz
    have a1 := part_le hp hm.1 h3
    have a2 := part_le hp hm.1 h5
    have a3 : x.g * m / x.m ≤ x.g := by
      have h1 : x.g * m ≤ x.g * x.m := Int.mul_le_mul_of_nonneg_left hm.2 h6
      have := Int.ediv_le_ediv hp h1
      rwa [Int.mul_ediv_cancel _ hz] at this
    have n1 : 0 ≤ x.h * m / x.m := Int.ediv_nonneg (Int.mul_nonneg h2 hm.1) h0
    have n2 : 0 ≤ x.s * m / x.m := Int.ediv_nonneg (Int.mul_nonneg h4 hm.1) h0
    have n3 : 0 ≤ x.g * m / x.m := Int.ediv_nonneg (Int.mul_nonneg h6 hm.1) h0
    simp only [okS, e]
    omega
theorem mx_pos {w : Nat → Int} : ∀ k, 0 < mx w k → ∃ i, i ≤ k ∧ 0 < w i
  | 0, h => ⟨0, Nat.le_refl _, h⟩
  | k + 1, h => by
    unfold mx at h
    split at h
    · exact ⟨k + 1, Nat.le_refl _, h⟩
    · obtain ⟨i, hi, h⟩ := mx_pos k h
      exact ⟨i, by omega, h⟩
theorem mx_ge {w : Nat → Int} : ∀ k i, i ≤ k → w i ≤ mx w k
  | 0, i, h => by obtain rfl : i = 0 := by omega
                  exact Int.le_refl _
  | k + 1, i, h => by
    unfold mx
    by_cases e : i = k + 1
    · subst e; split <;> omega
    · have := mx_ge (w := w) k i (by omega)
      split <;> omega
theorem wt_ok {n : Nat} {w : Nat → Int} (h : wtP n w) : okW n w := by
  obtain ⟨h1, h2, h3, h4⟩ := h
  refine ⟨h1, h2, fun i hi => h3.all i hi, ?_⟩
  obtain ⟨i, hi, h5⟩ := mx_pos _ h4
  have := sumZ_at (f := w) (i := i) (n := n) (by omega) fun x hx => (h3.all x hx).1
  omega
theorem ok_wt {n : Nat} {w : Nat → Int} (h : okW n w) : wtP n w := by
  refine ⟨h.h1, h.h2, ⟨fun i hi => h.w0 i hi⟩, ?_⟩
  have hp := h.pos
  have h1 := h.h1
  by_cases hm : 0 < mx w (n - 1)
  · exact hm
  · have : sumZ w n ≤ 0 * n := sumZ_le n fun x hx => by have := mx_ge (w := w) (n - 1) x (by omega); omega
    omega
theorem wtB_get {n : Nat} {w : Nat → Int} (h : wtB n w = true) : okW n w := wt_ok (@of_decide_eq_true _ (Classical.propDecidable _) h)
theorem wtB_no {n : Nat} {w : Nat → Int} (h : wtB n w = false) : ¬ okW n w := fun h' => @of_decide_eq_false _ (Classical.propDecidable _) h (ok_wt h')
end Go.Proofs.Ytiidjohhcappdaa
