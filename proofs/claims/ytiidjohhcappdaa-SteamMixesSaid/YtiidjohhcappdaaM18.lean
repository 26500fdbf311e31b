/- Layer 1: what each of a stream's parts weighs. -/
import Derived.Test.YtiidjohhcappdaaM17
namespace Go.Proofs.Ytiidjohhcappdaa
open Go.V

def qF (W M : Int) (w : Nat → Int) (m : Nat) (i : Nat) : Int := bif Nat.blt i m then M * w i / W else 0
def rF (W M : Int) (w : Nat → Int) (m : Nat) (i : Nat) : Int := bif Nat.blt i m then M * w i % W else 0
theorem qF_lt {W M : Int} {w : Nat → Int} {m i : Nat} (h : i < m) : qF W M w m i = M * w i / W := by unfold qF; rw [blt_t h]; rfl
theorem rF_lt {W M : Int} {w : Nat → Int} {m i : Nat} (h : i < m) : rF W M w m i = M * w i % W := by unfold rF; rw [blt_t h]; rfl
theorem qF_ge {W M : Int} {w : Nat → Int} {m i : Nat} (h : ¬ i < m) : qF W M w m i = 0 := by unfold qF; rw [blt_f h]; rfl
theorem rF_ge {W M : Int} {w : Nat → Int} {m i : Nat} (h : ¬ i < m) : rF W M w m i = 0 := by unfold rF; rw [blt_f h]; rfl
theorem sumZ_mul (c : Int) (f : Nat → Int) : ∀ n, sumZ (fun x => c * f x) n = c * sumZ f n
  | 0 => by simp [sumZ]
  | n + 1 => by simp only [sumZ, sumZ_mul c f n, Int.mul_add]
/-- Valid weights. -/
structure okW (n : Nat) (w : Nat → Int) : Prop where
  h1 : 1 ≤ n
  h2 : n ≤ 20
  w0 : ∀ i, i < n → 0 ≤ w i ∧ w i ≤ 1000
  pos : 0 < sumZ w n
def sq (W M : Int) (w : Nat → Int) (m : Nat) : Int := sumZ (fun i => M * w i / W) m
theorem sumZ_mono {f g : Nat → Int} : ∀ n, (∀ x, x < n → f x ≤ g x) → sumZ f n ≤ sumZ g n
  | 0, _ => Int.le_refl _
  | n + 1, h => by
    have h1 := sumZ_mono n (fun x hx => h x (by omega))
    have h2 := h n (by omega)
    simp only [sumZ]
    omega
theorem sumZ_step {f : Nat → Int} : ∀ {n m}, m ≤ n → (∀ x, x < n → 0 ≤ f x) → sumZ f m ≤ sumZ f n
  | n, m, h, h0 => by
    induction n with
    | zero => obtain rfl : m = 0 := by omega
              exact Int.le_refl _
    | succ n ih =>
      by_cases e : m = n + 1
      · subst e; exact Int.le_refl _
      · have := ih (by omega) (fun x hx => h0 x (by omega))
        have := h0 n (by omega)
        simp only [sumZ]
        omega
theorem okW.le {n : Nat} {w : Nat → Int} (h : okW n w) {m : Nat} (hm : m ≤ n) : 0 ≤ sumZ w m ∧ sumZ w m ≤ 1000 * m := ⟨sumZ_nn m fun i hi => (h.w0 i (by omega)).1, sumZ_le m fun i hi => (h.w0 i (by omega)).2⟩
def leftM (M : Int) (w : Nat → Int) (n : Nat) : Int := M - sq (sumZ w n) M w n
theorem sq_bd {n : Nat} {w : Nat → Int} {M : Int} (h : okW n w) (hM : 0 ≤ M ∧ M ≤ 1000000) {m : Nat} (hm : m ≤ n) : 0 ≤ sq (sumZ w n) M w m ∧ sq (sumZ w n) M w m ≤ M := by
  have hp : ∀ x, x < n → 0 ≤ M * w x := fun x hx => Int.mul_nonneg hM.1 (h.w0 x hx).1
  have hq : ∀ x, x < n → 0 ≤ M * w x / sumZ w n := fun x hx => Int.ediv_nonneg (hp x hx) (Int.le_of_lt h.pos)
  refine ⟨sumZ_nn m fun i hi => hq i (by omega), ?_⟩
  have h1 : sq (sumZ w n) M w m ≤ sq (sumZ w n) M w n := sumZ_step hm hq
  refine Int.le_trans h1 ?_
  have h2 : sumZ w n * sq (sumZ w n) M w n ≤ sumZ w n * M := by
    have e1 : sumZ w n * sq (sumZ w n) M w n = sumZ (fun i => sumZ w n * (M * w i / sumZ w n)) n := (sumZ_mul _ _ n).symm
    have e2 : sumZ w n * M = sumZ (fun i => M * w i) n := by rw [sumZ_mul, Int.mul_comm]
    rw [e1, e2]
    refine sumZ_mono n fun x hx => ?_
    have := Int.mul_ediv_add_emod (M * w x) (sumZ w n)
    have := Int.emod_nonneg (M * w x) (Int.ne_of_gt h.pos)
    omega
  exact Int.le_of_mul_le_mul_left h2 h.pos
theorem left_sum {n : Nat} {w : Nat → Int} {M : Int} : sumZ w n * leftM M w n = sumZ (rF (sumZ w n) M w n) n := by
  have e1 : sumZ w n * sq (sumZ w n) M w n = sumZ (fun i => sumZ w n * (M * w i / sumZ w n)) n := (sumZ_mul _ _ n).symm
  have e2 : sumZ w n * M = sumZ (fun i => M * w i) n := by rw [sumZ_mul, Int.mul_comm]
  have e3 : sumZ (fun i => M * w i) n = sumZ (fun i => sumZ w n * (M * w i / sumZ w n) + rF (sumZ w n) M w n i) n := by
    refine sumZ_congr fun x hx => ?_
    rw [rF_lt hx]
    exact (Int.mul_ediv_add_emod (M * w x) (sumZ w n)).symm
  unfold leftM
  rw [Int.mul_sub, e1, e2, e3, sumZ_add]
  omega
theorem left_bd {n : Nat} {w : Nat → Int} {M : Int} (h : okW n w) (hM : 0 ≤ M ∧ M ≤ 1000000) : 0 ≤ leftM M w n ∧ leftM M w n < n := by
  refine ⟨by have := (sq_bd h hM (Nat.le_refl n)).2; unfold leftM; omega, ?_⟩
  have h1 : sumZ (rF (sumZ w n) M w n) n ≤ (sumZ w n - 1) * n := sumZ_le n fun x hx => by
    rw [rF_lt hx]
    have := Int.emod_lt_of_pos (M * w x) h.pos
    omega
  rw [← left_sum] at h1
  have hn := h.h1
  have hp := h.pos
  generalize sumZ w n = W at *
  generalize leftM M w n = L at *
  rw [Int.sub_mul] at h1
  have h2 : W * L < W * n := by omega
  exact Int.lt_of_mul_lt_mul_left h2 (Int.le_of_lt hp)
end Go.Proofs.Ytiidjohhcappdaa
