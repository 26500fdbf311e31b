/- Layer 1: parts are fair. -/
import Derived.Test.YtiidjohhcappdaaS38
namespace Go.Proofs.Ytiidjohhcappdaa
open Go.V

theorem cnt_le {r : Nat → Int} {n : Nat} {o : Nat → Nat} (h : Srt r n o) {t : Nat} (ht : t ≤ n) {i : Nat} (hi : i < n) : cnt o t i = 0 ∨ cnt o t i = 1 := by
  obtain ⟨p, hp, e⟩ := h.sur i hi
  rw [← e, cnt_of h t ht p hp]
  split <;> simp
/-- A part that gets one more has something left over. -/
theorem top_pos {n : Nat} {w : Nat → Int} {M : Int} (h : okW n w) (hM : 0 ≤ M ∧ M ≤ 1000000) {p : Nat} (hp : (p : Int) < leftM M w n) : 0 < rF (sumZ w n) M w n (ordR (rF (sumZ w n) M w n) n p) := by
  have hl := left_bd h hM
  have hS := ordR_srt (rF (sumZ w n) M w n) n
  have hs := left_sum (n := n) (w := w) (M := M)
  have hpos := h.pos
  have hr0 : ∀ i, i < n → 0 ≤ rF (sumZ w n) M w n i := fun i hi => by rw [rF_lt hi]; exact Int.emod_nonneg _ (by omega)
  have hr1 : ∀ i, i < n → rF (sumZ w n) M w n i ≤ sumZ w n - 1 := fun i hi => by rw [rF_lt hi]; have := Int.emod_lt_of_pos (M * w i) h.pos; omega
  generalize ordR (rF (sumZ w n) M w n) n = o at hS ⊢
  generalize rF (sumZ w n) M w n = r at *
  generalize sumZ w n = W at *
  generalize leftM M w n = L at *
  have hpn : p < n := by omega
  by_cases h0 : 0 < r (o p)
  · exact h0
  · exfalso
    have hz : r (o p) = 0 := by have := hr0 (o p) (hS.lt p hpn); omega
    have hle : ∀ i, i < n → r i ≤ (W - 1) * cnt o p i := by
      intro i hi
      obtain ⟨q, hq, e⟩ := hS.sur i hi
      rw [← e, cnt_of hS p (by omega) q hq]
      by_cases hqp : q < p
      · rw [if_pos hqp, Int.mul_one]; exact hr1 _ (hS.lt q hq)
      · rw [if_neg hqp, Int.mul_zero]
        by_cases e2 : q = p
        · subst e2; omega
        · have := hS.srt p q (by omega) hq
          have := hr0 (o q) (hS.lt q hq)
          unfold bef at *
          omega
    have h1 := sumZ_mono n hle
    rw [sumZ_mul, cnt_sum p (fun q hq => hS.lt q (by omega)), ← hs] at h1
    have h2 : W * L = W * (L - p) + W * p := by rw [← Int.mul_add]; congr 1; omega
    have h3 : (W - 1) * (p : Int) = W * p - p := by rw [Int.sub_mul, Int.one_mul]
    have h4 : W * 1 ≤ W * (L - p) := Int.mul_le_mul_of_nonneg_left (by omega) (by omega)
    omega
theorem prt_eq' {x : Stream} {m : Int} (hm : 0 ≤ m ∧ m ≤ x.m) : (⟨m, if x.m = 0 then 0 else x.h * m / x.m, if x.m = 0 then 0 else x.s * m / x.m, if x.m = 0 then 0 else x.g * m / x.m⟩ : Stream) = prtS x m := by
  by_cases hz : x.m = 0
  · have e : prtS x m = zeroS := if_pos hz
    obtain rfl : m = 0 := by omega
    rw [e, if_pos hz, if_pos hz, if_pos hz]; rfl
  · have e : prtS x m = ⟨x.m * m / x.m, x.h * m / x.m, x.s * m / x.m, x.g * m / x.m⟩ := if_neg hz
    rw [e, if_neg hz, if_neg hz, if_neg hz, Int.mul_ediv_cancel_left _ hz]
theorem prt_m {x : Stream} {m : Int} (hm : 0 ≤ m ∧ m ≤ x.m) : (prtS x m).m = m := by
  rw [← prt_eq' hm]
theorem fair {n : Nat} {w : Nat → Int} {M : Int} (h : okW n w) (hM : 0 ≤ M ∧ M ≤ 1000000) {i : Nat} (hi : i < n) : -sumZ w n < shMass M w n i * sumZ w n - M * w i ∧ shMass M w n i * sumZ w n - M * w i < sumZ w n := by
  have hl := left_bd h hM
  have hS := ordR_srt (rF (sumZ w n) M w n) n
  have ht : (leftM M w n).toNat ≤ n := by omega
  have hc := cnt_le hS ht hi
  have hpos := h.pos
  have hr0 := Int.emod_nonneg (M * w i) (show sumZ w n ≠ 0 by omega)
  have hr1 := Int.emod_lt_of_pos (M * w i) hpos
  have hd := Int.mul_ediv_add_emod (M * w i) (sumZ w n)
  have e : shMass M w n i * sumZ w n = sumZ w n * (M * w i / sumZ w n) + cnt (ordR (rF (sumZ w n) M w n) n) (leftM M w n).toNat i * sumZ w n := by
    show (qF _ M w n i + _) * _ = _
    rw [qF_lt hi, Int.add_mul, Int.mul_comm (M * w i / sumZ w n)]
  rw [e]
  rcases hc with hc | hc
  · rw [hc, Int.zero_mul]; omega
  · have : 0 < M * w i % sumZ w n := by
      obtain ⟨p, hp, ep⟩ := hS.sur i hi
      rw [← ep, cnt_of hS _ ht p hp] at hc
      have hpt : p < (leftM M w n).toNat := by
        by_cases hpt : p < (leftM M w n).toNat
        · exact hpt
        · rw [if_neg hpt] at hc; exact absurd hc (by decide)
      have := top_pos h hM (p := p) (by omega)
      rw [ep, rF_lt hi] at this
      exact this
    rw [hc, Int.one_mul]; omega
theorem sumS_m (l : Nat → Stream) : ∀ n, (sumS l n).m = sumZ (fun i => (l i).m) n
  | 0 => rfl
  | n + 1 => by show (sumS l n).m + (l n).m = _; rw [sumS_m l n]; rfl
theorem sumS_h (l : Nat → Stream) : ∀ n, (sumS l n).h = sumZ (fun i => (l i).h) n
  | 0 => rfl
  | n + 1 => by show (sumS l n).h + (l n).h = _; rw [sumS_h l n]; rfl
theorem sumS_s (l : Nat → Stream) : ∀ n, (sumS l n).s = sumZ (fun i => (l i).s) n
  | 0 => rfl
  | n + 1 => by show (sumS l n).s + (l n).s = _; rw [sumS_s l n]; rfl
theorem sumS_g (l : Nat → Stream) : ∀ n, (sumS l n).g = sumZ (fun i => (l i).g) n
  | 0 => rfl
  | n + 1 => by show (sumS l n).g + (l n).g = _; rw [sumS_g l n]; rfl
theorem sh_m {n : Nat} {w : Nat → Int} {x : Stream} (h : okW n w) (hM : 0 ≤ x.m ∧ x.m ≤ 1000000) : (sumS (shP x n w) n).m = x.m := by
  rw [sumS_m]
  have : sumZ (fun i => (shP x n w i).m) n = sumZ (shMass x.m w n) n := sumZ_congr fun i hi => prt_m (sh_bd h hM hi)
  rw [this, sh_sum h hM]
/-- What rounding leaves over. -/
theorem loss_bd {n : Nat} {f : Nat → Int} {M a : Int} (hn : 1 ≤ n) (hM : 0 < M) (hf : sumZ f n = M) : 0 ≤ a - sumZ (fun i => a * f i / M) n ∧ a - sumZ (fun i => a * f i / M) n ≤ n - 1 := by
  have e1 : M * sumZ (fun i => a * f i / M) n = sumZ (fun i => M * (a * f i / M)) n := (sumZ_mul _ _ n).symm
  have e2 : a * M = sumZ (fun i => a * f i) n := by rw [sumZ_mul, hf]
  have e3 : sumZ (fun i => a * f i) n = sumZ (fun i => M * (a * f i / M) + a * f i % M) n := sumZ_congr fun i _ => (Int.mul_ediv_add_emod _ _).symm
  rw [sumZ_add, ← e1, ← e2] at e3
  have h0 : 0 ≤ sumZ (fun i => a * f i % M) n := sumZ_nn n fun i _ => Int.emod_nonneg _ (by omega)
  have h1 : sumZ (fun i => a * f i % M) n ≤ (M - 1) * n := sumZ_le n fun i _ => by have := Int.emod_lt_of_pos (a * f i) hM; omega
  generalize sumZ (fun i => a * f i / M) n = S at *
  have e4 : M * (a - S) = sumZ (fun i => a * f i % M) n := by rw [Int.mul_sub, Int.mul_comm M a]; omega
  rw [← e4] at h0 h1
  refine ⟨Int.nonneg_of_mul_nonneg_right h0 hM, ?_⟩
  rw [Int.sub_mul, Int.one_mul] at h1
  have h2 : M * (a - S) < M * n := by omega
  have := Int.lt_of_mul_lt_mul_left h2 (Int.le_of_lt hM)
  omega
theorem sh_loss {n : Nat} {w : Nat → Int} {x : Stream} (h : okW n w) (hM : 0 ≤ x.m ∧ x.m ≤ 1000000) (hz : ¬ x.m = 0) :
    (0 ≤ x.h - (sumS (shP x n w) n).h ∧ x.h - (sumS (shP x n w) n).h ≤ n - 1) ∧ (0 ≤ x.s - (sumS (shP x n w) n).s ∧ x.s - (sumS (shP x n w) n).s ≤ n - 1) ∧ 0 ≤ x.g - (sumS (shP x n w) n).g ∧ x.g - (sumS (shP x n w) n).g ≤ n - 1 := by
  have hp : 0 < x.m := by omega
  have hs := sh_sum h hM
  have e : ∀ i, shP x n w i = ⟨x.m * shMass x.m w n i / x.m, x.h * shMass x.m w n i / x.m, x.s * shMass x.m w n i / x.m, x.g * shMass x.m w n i / x.m⟩ := fun i => if_neg hz
  refine ⟨?_, ?_, ?_⟩
  · rw [sumS_h, sumZ_congr (fun i _ => by rw [e i])]; exact loss_bd h.h1 hp hs
  · rw [sumS_s, sumZ_congr (fun i _ => by rw [e i])]; exact loss_bd h.h1 hp hs
  · rw [sumS_g, sumZ_congr (fun i _ => by rw [e i])]; exact loss_bd h.h1 hp hs
end Go.Proofs.Ytiidjohhcappdaa
