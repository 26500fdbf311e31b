/- Layer 4: what is known of families: who is one, what encloses them. -/
import Derived.Test.YtnjhbmcambofgaaS33
namespace Go.Proofs.Ytnjhbmcambofgaa
open Go.V
set_option linter.unusedSimpArgs false
set_option linter.unusedVariables false

theorem mul_bd {x y X Y : Int} (hx : 0 ≤ x) (hX : x ≤ X) (hy : 0 ≤ y) (hY : y ≤ Y) : 0 ≤ x * y ∧ x * y ≤ X * Y :=
  ⟨Int.mul_nonneg hx hy, Int.mul_le_mul hX hY hy (Int.le_trans hx hX)⟩
/-- What a curve draws down, but for its A. -/
def dropP (B C q : Int) : Int := B * q + C * q * q
abbrev inBq (B : Int) : Prop := 0 ≤ B ∧ B ≤ 10000
abbrev inCq (C : Int) : Prop := 0 ≤ C ∧ C ≤ 1000
abbrev inQ (q : Int) : Prop := 0 ≤ q ∧ q ≤ 1000
theorem drop_parts {B C q : Int} (hB : inBq B) (hC : inCq C) (hq : inQ q) : (0 ≤ B * q ∧ B * q ≤ 10000000) ∧ (0 ≤ C * q ∧ C * q ≤ 1000000) ∧ (0 ≤ C * q * q ∧ C * q * q ≤ 1000000000) := by
  have h1 := mul_bd hB.1 hB.2 hq.1 hq.2
  have h2 := mul_bd hC.1 hC.2 hq.1 hq.2
  have h3 := mul_bd h2.1 h2.2 hq.1 hq.2
  exact ⟨⟨h1.1, by omega⟩, ⟨h2.1, by omega⟩, h3.1, by omega⟩
theorem dropP_bd {B C q : Int} (hB : inBq B) (hC : inCq C) (hq : inQ q) : 0 ≤ dropP B C q ∧ dropP B C q ≤ 1010000000 := by
  obtain ⟨h1, h2, h3⟩ := drop_parts hB hC hq
  unfold dropP
  omega
theorem wi {n : Int} (h : -9000000000000000000 ≤ n ∧ n ≤ 9000000000000000000) : w n = n := w64 (by omega) (by omega)
theorem dropI_eq {A B C q : Int} (hA : -3000000000 ≤ A ∧ A ≤ 3000000000) (hB : inBq B) (hC : inCq C) (hq : inQ q) : dropI A B C q = A + dropP B C q := by
  obtain ⟨h1, h2, h3⟩ := drop_parts hB hC hq
  unfold dropI dropP
  rw [wi (n := B * q) (by omega), wi (n := C * q) (by omega), wi (n := C * q * q) (by omega), wi (n := A + B * q) (by omega), wi (by omega)]
  omega
theorem dropP_mono {B C q q' : Int} (hB : 0 ≤ B) (hC : 0 ≤ C) (hq : 0 ≤ q) (h : q ≤ q') : dropP B C q ≤ dropP B C q' := by
  unfold dropP
  have h1 := Int.mul_le_mul_of_nonneg_left h hB
  have h2 := Int.mul_le_mul_of_nonneg_left h hC
  have h3 : C * q * q ≤ C * q' * q' := Int.mul_le_mul h2 h hq (Int.mul_nonneg hC (Int.le_trans hq h))
  omega
-- WHO IS A FAMILY
theorem mem_addF {t : Tst} {b c : Int} {l : List Fam} {x : Fam} : x ∈ addF t b c l ↔ x ∈ l ∨ ((setM t b c).lo ≤ (setM t b c).hi ∧ x = famM t b c) := by
  unfold addF
  cases hp : decide ((setM t b c).lo ≤ (setM t b c).hi) with
  | true =>
    have := of_decide_eq_true hp
    simp [this]
  | false =>
    have := of_decide_eq_false hp
    simp [this]
theorem mem_rowF {t : Tst} {b : Int} {l : List Fam} {x : Fam} : ∀ j, x ∈ rowF t b l j ↔ x ∈ l ∨ ∃ k : Nat, k < j ∧ (setM t b (t.c.lo + k)).lo ≤ (setM t b (t.c.lo + k)).hi ∧ x = famM t b (t.c.lo + k)
  | 0 => by simp [rowF]
  | j + 1 => by
    show x ∈ addF t b (t.c.lo + j) (rowF t b l j) ↔ _
    rw [mem_addF, mem_rowF j]
    constructor
    · rintro ((h | ⟨k, hk, h⟩) | h)
      · exact .inl h
      · exact .inr ⟨k, by omega, h⟩
      · exact .inr ⟨j, by omega, h⟩
    · rintro (h | ⟨k, hk, h⟩)
      · exact .inl (.inl h)
      · by_cases e : k = j
        · subst e; exact .inr h
        · exact .inl (.inr ⟨k, by omega, h⟩)
theorem mem_allF {t : Tst} {x : Fam} : ∀ i, x ∈ allF t i ↔ ∃ m : Nat, m < i ∧ ∃ k : Nat, k < t.nc ∧ (setM t (t.b.lo + m) (t.c.lo + k)).lo ≤ (setM t (t.b.lo + m) (t.c.lo + k)).hi ∧ x = famM t (t.b.lo + m) (t.c.lo + k)
  | 0 => by simp [allF]
  | i + 1 => by
    show x ∈ rowF t (t.b.lo + i) (allF t i) t.nc ↔ _
    rw [mem_rowF, mem_allF i]
    constructor
    · rintro (⟨m, hm, h⟩ | h)
      · exact ⟨m, by omega, h⟩
      · exact ⟨i, by omega, h⟩
    · rintro ⟨m, hm, h⟩
      by_cases e : m = i
      · subst e; exact .inr h
      · exact .inl ⟨m, by omega, h⟩
theorem mem_fams {t : Tst} {x : Fam} : x ∈ famsM t ↔ ∃ b c : Int, (t.b.lo ≤ b ∧ b ≤ t.b.hi) ∧ (t.c.lo ≤ c ∧ c ≤ t.c.hi) ∧ (setM t b c).lo ≤ (setM t b c).hi ∧ x = famM t b c := by
  unfold famsM
  rw [mem_allF]
  constructor
  · rintro ⟨m, hm, k, hk, h⟩
    unfold Tst.nb at hm
    unfold Tst.nc at hk
    exact ⟨t.b.lo + m, t.c.lo + k, by omega, by omega, h⟩
  · rintro ⟨b, c, hb, hc, h⟩
    refine ⟨(b - t.b.lo).toNat, by unfold Tst.nb; omega, (c - t.c.lo).toNat, by unfold Tst.nc; omega, ?_⟩
    rw [show t.b.lo + ((b - t.b.lo).toNat : Int) = b by omega, show t.c.lo + ((c - t.c.lo).toNat : Int) = c by omega]
    exact h
-- WHICH A AGREE
theorem cutM_mem {f : Rng} {r : Nat → Rng} {A : Int} : ∀ n, ((cutM f r n).lo ≤ A ∧ A ≤ (cutM f r n).hi) ↔ (f.lo ≤ A ∧ A ≤ f.hi) ∧ ∀ i, i < n → (r i).lo ≤ A ∧ A ≤ (r i).hi
  | 0 => ⟨fun h => ⟨h, fun i hi => absurd hi (Nat.not_lt_zero i)⟩, fun h => h.1⟩
  | n + 1 => by
    have ih := cutM_mem (f := f) (r := r) (A := A) n
    have e : ((cutM f r (n + 1)).lo ≤ A ∧ A ≤ (cutM f r (n + 1)).hi) ↔ ((cutM f r n).lo ≤ A ∧ A ≤ (cutM f r n).hi) ∧ ((r n).lo ≤ A ∧ A ≤ (r n).hi) := by
      show (gmax (cutM f r n).lo (r n).lo ≤ A ∧ A ≤ gmin (cutM f r n).hi (r n).hi) ↔ _
      unfold gmax gmin
      split <;> split <;> omega
    rw [e, ih]
    constructor
    · rintro ⟨⟨h1, h2⟩, h3⟩
      refine ⟨h1, fun i hi => ?_⟩
      rcases Nat.lt_succ_iff_lt_or_eq.1 hi with h | rfl
      · exact h2 i h
      · exact h3
    · rintro ⟨h1, h2⟩
      exact ⟨⟨h1, fun i hi => h2 i (by omega)⟩, h2 n (by omega)⟩
theorem setM_mem {t : Tst} (h : okT t) {b c A : Int} (hb : t.b.lo ≤ b ∧ b ≤ t.b.hi) (hc : t.c.lo ≤ c ∧ c ≤ t.c.hi) : ((setM t b c).lo ≤ A ∧ A ≤ (setM t b c).hi) ↔ (t.a.lo ≤ A ∧ A ≤ t.a.hi) ∧ ∀ i, i < t.n → (t.s i).lo ≤ A + dropP b c (t.s i).q ∧ A + dropP b c (t.s i).q ≤ (t.s i).hi := by
  unfold setM
  rw [cutM_mem]
  have h1 := h.b
  have h2 := h.c
  refine and_congr Iff.rfl (forall_congr' fun i => forall_congr' fun hi => ?_)
  rw [room_eq]
  have hs := h.s i hi
  obtain ⟨hq, hl, hm, hu⟩ := hs
  have hd := dropP_bd (B := b) (C := c) (q := (t.s i).q) (by omega) (by omega) (by omega)
  unfold roomR
  rw [dropI_eq (by omega) (by omega) (by omega) (by omega)]
  show (w ((t.s i).lo - (0 + dropP b c (t.s i).q)) ≤ A ∧ A ≤ w ((t.s i).hi - (0 + dropP b c (t.s i).q))) ↔ _
  rw [wi (by omega), wi (by omega)]
  omega
/-- A family's numbers. -/
structure okFm (x : Fam) : Prop where
  A : x.A = 0
  B : inBq x.B
  C : inCq x.C
  f : okF x
theorem fams_ok {t : Tst} (h : okT t) {x : Fam} (hx : x ∈ famsM t) : okFm x := by
  have h4 := allF_ok h t.nb x hx
  obtain ⟨b, c, hb, hc, _, rfl⟩ := mem_fams.1 hx
  have h1 := h.b
  have h2 := h.c
  exact ⟨rfl, ⟨by show 0 ≤ b; omega, by show b ≤ 10000; omega⟩, ⟨by show 0 ≤ c; omega, by show c ≤ 1000; omega⟩, h4⟩
theorem agrB_iff {t : Tst} (h : okT t) {A B C : Int} : agrB t A B C = true ↔ (t.b.lo ≤ B ∧ B ≤ t.b.hi) ∧ (t.c.lo ≤ C ∧ C ≤ t.c.hi) ∧ (setM t B C).lo ≤ A ∧ A ≤ (setM t B C).hi := by
  have h0 := h.a
  have h1 := h.b
  have h2 := h.c
  unfold agrB inB stepsB
  simp only [Bool.and_eq_true, decide_eq_true_eq, allN_iff]
  constructor
  · rintro ⟨ha, hb, hc, hs⟩
    refine ⟨hb, hc, (setM_mem h hb hc).2 ⟨ha, fun i hi => ?_⟩⟩
    have hq := (h.s i hi).1
    have := hs i hi
    rw [dropI_eq (by omega) (by omega) (by omega) (by omega)] at this
    exact this
  · rintro ⟨hb, hc, hA⟩
    obtain ⟨ha, hs⟩ := (setM_mem h hb hc).1 hA
    refine ⟨ha, hb, hc, fun i hi => ?_⟩
    have hq := (h.s i hi).1
    rw [dropI_eq (by omega) (by omega) (by omega) (by omega)]
    exact hs i hi
/-- A curve agrees just if it is one of a family. -/
theorem agrB_fam {t : Tst} (h : okT t) {A B C : Int} : agrB t A B C = true ↔ ∃ x ∈ famsM t, x.B = B ∧ x.C = C ∧ x.lo ≤ A ∧ A ≤ x.hi := by
  rw [agrB_iff h]
  constructor
  · rintro ⟨hb, hc, hA⟩
    exact ⟨famM t B C, mem_fams.2 ⟨B, C, hb, hc, by omega, rfl⟩, rfl, rfl, hA⟩
  · rintro ⟨x, hx, rfl, rfl, hA⟩
    obtain ⟨b, c, hb, hc, _, rfl⟩ := mem_fams.1 hx
    exact ⟨hb, hc, hA⟩
-- WHAT ENCLOSES
theorem span_lo (a b : Rng) : (span a b).lo ≤ a.lo ∧ (span a b).lo ≤ b.lo ∧ ((span a b).lo = a.lo ∨ (span a b).lo = b.lo) := by
  unfold span gmin gmax
  simp only
  split <;> omega
theorem span_hi (a b : Rng) : a.hi ≤ (span a b).hi ∧ b.hi ≤ (span a b).hi ∧ ((span a b).hi = a.hi ∨ (span a b).hi = b.hi) := by
  unfold span gmin gmax
  simp only
  (repeat' split) <;> omega
theorem encM_spec (g : Fam → Rng) (fs : Nat → Fam) : ∀ k, (∀ i, i < k → (encM g fs k).lo ≤ (g (fs i)).lo ∧ (g (fs i)).hi ≤ (encM g fs k).hi) ∧ (∃ i, (i < k ∨ i = 0) ∧ (encM g fs k).lo = (g (fs i)).lo) ∧ ∃ i, (i < k ∨ i = 0) ∧ (encM g fs k).hi = (g (fs i)).hi
  | 0 => ⟨fun i hi => absurd hi (Nat.not_lt_zero i), ⟨0, .inr rfl, rfl⟩, 0, .inr rfl, rfl⟩
  | k + 1 => by
    obtain ⟨h1, ⟨i, hi, h2⟩, j, hj, h3⟩ := encM_spec g fs k
    have l := span_lo (encM g fs k) (g (fs k))
    have u := span_hi (encM g fs k) (g (fs k))
    have e : encM g fs (k + 1) = span (encM g fs k) (g (fs k)) := rfl
    rw [e]
    refine ⟨fun m hm => ?_, ?_, ?_⟩
    · rcases Nat.lt_succ_iff_lt_or_eq.1 hm with hm | rfl
      · have := h1 m hm
        omega
      · omega
    · rcases l.2.2 with h | h
      · exact ⟨i, by omega, h.trans h2⟩
      · exact ⟨k, by omega, h⟩
    · rcases u.2.2 with h | h
      · exact ⟨j, by omega, h.trans h3⟩
      · exact ⟨k, by omega, h⟩
theorem getF_mem {l : List Fam} {i : Nat} (hi : i < l.length) : getF l i ∈ l := by
  unfold getF
  rw [List.getD, List.getElem?_eq_getElem hi]
  exact List.getElem_mem hi
theorem mem_getF {l : List Fam} {x : Fam} (h : x ∈ l) : ∃ i, i < l.length ∧ getF l i = x := by
  obtain ⟨i, hi, e⟩ := List.getElem_of_mem h
  exact ⟨i, hi, by unfold getF; rw [List.getD, List.getElem?_eq_getElem hi]; exact e⟩
theorem encL_le {g : Fam → Rng} {l : List Fam} {x : Fam} (hx : x ∈ l) : (encL g l).lo ≤ (g x).lo ∧ (g x).hi ≤ (encL g l).hi := by
  obtain ⟨i, hi, rfl⟩ := mem_getF hx
  rw [encL_pos (by omega)]
  exact (encM_spec g (getF l) l.length).1 i hi
theorem encL_lo {g : Fam → Rng} {l : List Fam} (h : 0 < l.length) : ∃ x ∈ l, (encL g l).lo = (g x).lo := by
  rw [encL_pos h]
  obtain ⟨i, hi, e⟩ := (encM_spec g (getF l) l.length).2.1
  exact ⟨getF l i, getF_mem (by omega), e⟩
theorem encL_hi {g : Fam → Rng} {l : List Fam} (h : 0 < l.length) : ∃ x ∈ l, (encL g l).hi = (g x).hi := by
  rw [encL_pos h]
  obtain ⟨i, hi, e⟩ := (encM_spec g (getF l) l.length).2.2
  exact ⟨getF l i, getF_mem (by omega), e⟩
theorem dropF_eq {x : Fam} (h : okFm x) {q : Int} (hq : inQ q) : dropF q x = ⟨x.lo + dropP x.B x.C q, x.hi + dropP x.B x.C q⟩ := by
  have h1 := h.f.lo
  have h2 := h.f.le
  have h3 := h.f.hi
  have hB := h.B
  have hC := h.C
  have hd := dropP_bd hB hC hq
  unfold dropF
  rw [h.A, dropI_eq (by omega) hB hC hq, wi (by omega), wi (by omega)]
  simp
theorem enc_drop {t : Tst} (h : okT t) (hp : 0 < (famsM t).length) {q : Int} (hq : inQ q) : 0 ≤ (encL (dropF q) (famsM t)).lo ∧ (encL (dropF q) (famsM t)).lo ≤ (encL (dropF q) (famsM t)).hi ∧ (encL (dropF q) (famsM t)).hi ≤ 1010100000 := by
  obtain ⟨x, hx, e1⟩ := encL_lo (g := dropF q) hp
  obtain ⟨y, hy, e2⟩ := encL_hi (g := dropF q) hp
  have hle := encL_le (g := dropF q) hx
  have kx := fams_ok h hx
  have ky := fams_ok h hy
  have dx := dropP_bd kx.B kx.C hq
  have dy := dropP_bd ky.B ky.C hq
  have x1 := kx.f.lo
  have x2 := kx.f.le
  have y3 := ky.f.hi
  rw [dropF_eq kx hq] at e1 hle
  rw [dropF_eq ky hq] at e2
  simp only at e1 e2 hle
  omega
end Go.Proofs.Ytnjhbmcambofgaa
