/- Layer 4: Fits asked with any lists; groups and relations asked. -/
import Derived.Test.YtnjhbmcambofgaaS76
import Derived.Test.YtnjhbmcambofgaaS52
import Derived.Test.YtnjhbmcambofgaaS46
import Derived.Test.YtnjhbmcambofgaaS74
namespace Go.Proofs.Ytnjhbmcambofgaa
open Go.V
set_option linter.unusedSimpArgs false
set_option linter.unusedVariables false

def sv4 (k n : Nat) (lv : Int) (s : Nat → Obs) : Svy := ⟨(k : Int), lv, n, s⟩
theorem d50c (v : Svy) (hn : v.n ≤ 1000) : SF Try.prog 50 (V.atS [.agg (svyC v)] (.tup [.slice none (relN2 v) (relsG v), I (relE2 v)])) := sf_at sf50 (show isL obsL v.n _ from isLo v hn) rfl
theorem d42c (v : Svy) (hn : v.n ≤ 1000) : SF Try.prog 42 (V.atS [.agg (svyC v)] (.tup [.slice none (groupsN v) (fun i => intL (groupsM v i)), I (svE v)])) := sf_at sf42 (show isL obsL v.n _ from isLo v hn) rfl
def oneF (v : Svy) (a b w i : Nat) : Int := bif Nat.blt i w && (groupsM v i == groupsM v b) then groupsM v a else groupsM v i
theorem oneF_end {v : Svy} {a b k i : Nat} (h : i < k) : intL (oneF v a b k i) = intL (oneP v a b i) := by
  unfold oneF oneP
  rw [blt_t h, Bool.true_and]
theorem oneF_at (v : Svy) (a b w : Nat) : oneF v a b w w = groupsM v w := by
  unfold oneF
  rw [blt_f (Nat.lt_irrefl w), Bool.false_and]; rfl
theorem oneF_t {v : Svy} {a b w K : Nat} (q : (groupsM v w == groupsM v b) = true) : ∀ j, j < K → (bif Nat.beq j w then fillL (intL (oneF v a b w w)) 0 [I (groupsM v a)] else intL (oneF v a b w j)) = intL (oneF v a b (w + 1) j) := fun j _ => by
  cases e : Nat.beq j w with
  | true =>
    obtain rfl := Nat.eq_of_beq_eq_true e
    unfold oneF
    rw [blt_t (Nat.lt_succ_self j), q]; rfl
  | false =>
    have hne : j ≠ w := fun h => by rw [h] at e; simp at e
    unfold oneF
    by_cases hl : j < w
    · rw [blt_t hl, blt_t (show j < w + 1 by omega)]; rfl
    · rw [blt_f hl, blt_f (show ¬ j < w + 1 by omega)]; rfl
theorem oneF_f {v : Svy} {a b w K : Nat} (q : (groupsM v w == groupsM v b) = false) : ∀ j, j < K → intL (oneF v a b w j) = intL (oneF v a b (w + 1) j) := fun j _ => by
  unfold oneF
  by_cases e : j = w
  · subst e
    rw [q, Bool.and_false, Bool.and_false]
  · by_cases hl : j < w
    · rw [blt_t hl, blt_t (show j < w + 1 by omega)]
    · rw [blt_f hl, blt_f (show ¬ j < w + 1 by omega)]
theorem allN_congr {f g : Nat → Bool} : ∀ {n : Nat}, (∀ i, i < n → f i = g i) → allN f n = allN g n := fun {n} h => by
  cases hg : allN g n with
  | true => exact allN_t fun i hi => (h i hi).trans (allN_all hg i hi)
  | false =>
    cases hf : allN f n with
    | false => rfl
    | true => rw [allN_t fun i hi => (h i hi).symm.trans (allN_all hf i hi)] at hg; cases hg
theorem fitO_congr {lv a b lo hi : Int} {p p' : Nat → Int} (h1 : p a.toNat = p' a.toNat) (h2 : p b.toNat = p' b.toNat) : fitO lv p a b lo hi = fitO lv p' a b lo hi := by
  unfold fitO; rw [h1, h2]
theorem fitB_of {v : Svy} (h : okV v) {k : Nat} {g : Nat → List PV} {p : Nat → Int} (hg : ∀ i, i < k → g i = intL (p i)) : fitB v k (fun i => intOf (g i)) = fitB v k p := by
  unfold fitB
  cases hk : ((k : Int) == v.wl) with
  | false => simp
  | true =>
    have hk : (k : Int) = v.wl := by simpa using hk
    have e : fitsM v (fun i => intOf (g i)) = fitsM v p := by
      unfold fitsM
      refine allN_congr fun i hi => ?_
      obtain ⟨ha, hb, _⟩ := h.s i hi
      unfold fitAt
      rw [fitO_congr (p' := p) (by show intOf (g _) = _; rw [hg _ (by omega)]; rfl) (by show intOf (g _) = _; rw [hg _ (by omega)]; rfl)]
    rw [e]
def fitsGS : V.Spec
  | [.agg [.int .i64 wl, .int .i64 lv, .slice none n f], .slice none m g] => (some (isL obsL n f ∧ isL intL m g ∧ n ≤ 1000 ∧ m ≤ 1000), .bool (fitB (svyOf wl lv n f) m fun i => intOf (g i)))
  | _ => bad
theorem sf_fitsGS : SF Try.prog 54 fitsGS := by
  refine sf_each ⟨_, _, Try.func54, by kernel_rfl, rfl⟩ fun args h => ?_
  unfold fitsGS at h ⊢
  split at h
  · rename_i wl lv n f m g
    obtain ⟨h1, h2, h3, h4⟩ : isL obsL n f ∧ isL intL m g ∧ n ≤ 1000 ∧ m ≤ 1000 := h
    obtain ⟨hn, s, rfl⟩ := isL.get h1
    obtain ⟨hm, p, rfl⟩ := isL.get h2
    exact d54 ⟨wl, lv, n, s⟩ h3 m p h4
  · exact h.elim
def fitsGW : V.Spec
  | [.agg [.int .i64 wl, .int .i64 lv, .slice none n f], .slice none m g] => (some (isL obsL n f ∧ n ≤ 1000 ∧ m ≤ 1000 ∧ ∀ i, i < m → g i = intL (intOf (g i))), .bool (fitB (svyOf wl lv n f) m fun i => intOf (g i)))
  | _ => bad
theorem sf_fitsGW : SF Try.prog 54 fitsGW := by
  refine sf_args sf_fitsGS fun args h => ?_
  unfold fitsGW at h ⊢
  split at h
  · rename_i wl lv n f m g
    obtain ⟨h1, h2, h3, h4⟩ : isL obsL n f ∧ n ≤ 1000 ∧ m ≤ 1000 ∧ ∀ i, i < m → g i = intL (intOf (g i)) := h
    refine ⟨[.agg [.int .i64 wl, .int .i64 lv, .slice none n f], .slice none m fun i => intL (intOf (g i))], rfl, fun i hi => ?_, ⟨h1, .mk _ (by omega) rfl, h2, h3⟩, rfl⟩
    match i, hi with
    | 0, _ => exact .refl _
    | 1, _ => exact .slice _ _ _ _ h4
  · exact h.elim
end Go.Proofs.Ytnjhbmcambofgaa
