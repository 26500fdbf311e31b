/- Layer 4: what shows that no curve agrees, and what does not. -/
import Derived.Test.YtnjhbmcambofgaaS38
namespace Go.Proofs.Ytnjhbmcambofgaa
open Go.V
set_option linter.unusedSimpArgs false
set_option linter.unusedVariables false

theorem firstN_at {f : Nat → Bool} {n : Nat} (h : decide (0 ≤ firstN f n) = true) : ∃ m, m < n ∧ firstN f n = (m : Int) ∧ f m = true ∧ ∀ i, i < m → f i = false := by
  induction n with
  | zero => cases h
  | succ n ih =>
    unfold firstN at h ⊢
    cases hd : decide (0 ≤ firstN f n) with
    | true =>
      obtain ⟨m, h1, h2, h3, h4⟩ := ih hd
      exact ⟨m, by omega, h2, h3, h4⟩
    | false =>
      rw [hd] at h
      cases hf : f n with
      | false => rw [hf] at h; cases h
      | true =>
        refine ⟨n, by omega, rfl, hf, fun i hi => ?_⟩
        cases hi2 : f i with
        | false => rfl
        | true => rw [firstN_some ⟨i, hi, hi2⟩] at hd; cases hd
theorem rowP_old (t : Tst) (b : Int) (l : List (Int × Int)) : ∀ j {x : Nat}, x < l.length → (rowP t b l j).getD x (0, 0) = l.getD x (0, 0)
  | 0, x, h => rfl
  | j + 1, x, h => by
    show (rowP t b l j ++ [_]).getD x (0, 0) = _
    have hl : x < (rowP t b l j).length := by rw [rowP_len]; omega
    rw [List.getD, List.getElem?_append_left hl]
    exact rowP_old t b l j h
theorem rowP_get (t : Tst) (b : Int) (l : List (Int × Int)) : ∀ j {x : Nat}, x < j → (rowP t b l j).getD (l.length + x) (0, 0) = fstP t b (t.c.lo + (x : Nat))
  | 0, x, h => absurd h (Nat.not_lt_zero x)
  | j + 1, x, h => by
    show (rowP t b l j ++ [_]).getD (l.length + x) (0, 0) = _
    by_cases e : x = j
    · subst e
      have hl : (rowP t b l x).length = l.length + x := rowP_len ..
      rw [List.getD, ← hl]
      simp
    · have hl : l.length + x < (rowP t b l j).length := by rw [rowP_len]; omega
      rw [List.getD, List.getElem?_append_left hl]
      exact rowP_get t b l j (by omega)
theorem allP_get (t : Tst) : ∀ n {i j : Nat}, i < n → j < t.nc → (allP t n).getD (i * t.nc + j) (0, 0) = fstP t (t.b.lo + (i : Nat)) (t.c.lo + (j : Nat))
  | 0, i, j, hi, _ => absurd hi (Nat.not_lt_zero i)
  | n + 1, i, j, hi, hj => by
    show (rowP t (t.b.lo + (n : Nat)) (allP t n) t.nc).getD (i * t.nc + j) (0, 0) = _
    by_cases e : i = n
    · subst e
      have := rowP_get t (t.b.lo + (i : Nat)) (allP t i) t.nc hj
      rw [allP_len] at this
      exact this
    · rw [rowP_old _ _ _ _ (by rw [allP_len]; exact lt_mul (by omega) hj)]
      exact allP_get t n (by omega) hj
theorem conB_fst {t : Tst} {b c : Int} (h : conH t b c = true) : conB t b c (fstP t b c).1 (fstP t b c).2 = true := by
  unfold conH at h
  obtain ⟨i, hi, e1, e2, _⟩ := firstN_at h
  obtain ⟨j, hj, e3, e4, _⟩ := firstN_at e2
  have e5 : fstP t b c = (-1 + (i : Int), -1 + (j : Int)) := by
    unfold fstP
    rw [h]
    have e1 : fstC t b c = (i : Int) := e1
    rw [e1, Int.toNat_natCast, cond_true]
    have e3 : rowC t b c i = (j : Int) := e3
    rw [e3]
  rw [e5]
  exact e4
theorem own_sh {t : Tst} (h : allH t = true) : shA t (fun i => (allP t t.nb).getD i (0, 0)) = true := by
  refine allN_t fun i hi => allN_t fun j hj => ?_
  show conB t _ _ ((allP t t.nb).getD (i * t.nc + j) (0, 0)).1 ((allP t t.nb).getD (i * t.nc + j) (0, 0)).2 = true
  rw [allP_get t t.nb hi hj]
  exact conB_fst (allN_all (allN_all h i hi) j hj)
theorem sh_all {t : Tst} (hn : t.n ≤ 12) {p : Nat → Int × Int} (h : shA t p = true) : allH t = true := by
  refine allN_t fun i hi => allN_t fun j hj => ?_
  have hc := allN_all (allN_all h i hi) j hj
  have hc : conB t (t.b.lo + (i : Nat)) (t.c.lo + (j : Nat)) (p (i * t.nc + j)).1 (p (i * t.nc + j)).2 = true := hc
  have hx := hc
  unfold conB inRm at hx
  simp only [Bool.and_eq_true, decide_eq_true_eq] at hx
  obtain ⟨hx, hy, _⟩ := hx
  rw [wi (by omega)] at hx hy
  refine firstN_some ⟨((p (i * t.nc + j)).1 + 1).toNat, by omega, firstN_some ⟨((p (i * t.nc + j)).2 + 1).toNat, by omega, ?_⟩⟩
  show conB t _ _ (-1 + (((p (i * t.nc + j)).1 + 1).toNat : Int)) (-1 + (((p (i * t.nc + j)).2 + 1).toNat : Int)) = true
  rw [show -1 + (((p (i * t.nc + j)).1 + 1).toNat : Int) = (p (i * t.nc + j)).1 by omega, show -1 + (((p (i * t.nc + j)).2 + 1).toNat : Int) = (p (i * t.nc + j)).2 by omega]
  exact hc
/-- Where some curve agrees, no list is a proof of none. -/
theorem prv_none {t : Tst} (h : okT t) (hp : 0 < (famsM t).length) (k : Nat) (p : Nat → Int × Int) : prvB t k p = false := by
  unfold prvB
  cases hA : shA t p with
  | false => simp
  | true => rw [(allH_iff h).1 (sh_all h.n hA)] at hp; cases hp
theorem prv_own {t : Tst} (h : okT t) (hF : famsM t = []) : prvB t (allP t t.nb).length (fun i => (allP t t.nb).getD i (0, 0)) = true := by
  unfold prvB
  rw [own_sh ((allH_iff h).2 hF), tfE_okT h, decide_eq_true (allP_len t t.nb)]
  rfl
/-- Ahead of the step to blame some curve agrees, with it none does. -/
theorem bl_first {t : Tst} (h : okT t) (hF : famsM t = []) : ∃ m : Nat, m < t.n ∧ blM t = (m : Int) ∧ agrE (cutT t m) true = 0 ∧ agrE (cutT t (m + 1)) true = 7 := by
  obtain ⟨m, hm, e1, e2, e3⟩ := firstN_at (bl_some h hF)
  refine ⟨m, hm, e1, ?_, ?_⟩
  · have hp : 0 < (famsM (cutT t m)).length := by
      cases m with
      | zero => exact fams_zero (cutT_ok h (by omega)) rfl
      | succ m =>
        have := e3 m (by omega)
        have : ¬ ((famsM (cutT t (m + 1))).length : Int) = 0 := by simpa using this
        omega
    unfold agrE
    rw [tfE_okT (cutT_ok h (by omega))]
    have : (((famsM (cutT t m)).length : Int) == 0) = false := by rw [beq_eq_false_iff_ne]; omega
    simp [this]
  · unfold agrE
    rw [tfE_okT (cutT_ok h (by omega))]
    have e2 : (((famsM (cutT t (m + 1))).length : Int) == 0) = true := e2
    simp [e2]
def pairsS (t : Tst) (p : Nat → Int × Int) (m : Nat) (v : PV) : V.Spec
  | [.agg x, .slice none k g] => (some (x = tstC t ∧ k = m ∧ ∀ i, i < m → g i = pairL (p i)), v)
  | _ => bad
theorem sf_pairs {f : Nat} {t : Tst} {p : Nat → Int × Int} {m : Nat} {v : PV} (h : SF Try.prog f (V.atS [.agg (tstC t), .slice none m fun i => pairL (p i)] v)) : SF Try.prog f (pairsS t p m v) := by
  refine sf_args h fun args hx => ?_
  unfold pairsS at hx ⊢
  split at hx
  · rename_i x k g
    obtain ⟨rfl, rfl, hg⟩ : x = tstC t ∧ k = m ∧ ∀ i, i < m → g i = pairL (p i) := hx
    refine ⟨[.agg (tstC t), .slice none k fun i => pairL (p i)], rfl, fun i hi => ?_, rfl, rfl⟩
    match i, hi with
    | 0, _ => exact .refl _
    | 1, _ => exact .slice _ _ _ _ hg
  · exact hx.elim
theorem agr_none {t : Tst} (h : okT t) (hF : famsM t = []) (A B C : Int) : agrB t A B C = false := by
  cases hb : agrB t A B C with
  | false => rfl
  | true =>
    obtain ⟨x, hx, _⟩ := (agrB_fam h).1 hb
    rw [hF] at hx
    cases hx
end Go.Proofs.Ytnjhbmcambofgaa
