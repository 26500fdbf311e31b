/- Layer 4: what a plan has to do with pulses, as mathematics. -/
import Derived.Test.YtnjhbmcambofgaaS55
namespace Go.Proofs.Ytnjhbmcambofgaa
open Go.V
set_option linter.unusedSimpArgs false
set_option linter.unusedVariables false
set_option linter.unusedSectionVars false

def olist (b : Nat → Bool) : Nat → List Int
  | 0 => []
  | i + 1 => bif b i then olist b i ++ [(i : Int)] else olist b i
theorem rise_snoc {W W' : Int} : ∀ {l : List Int} {q : Int}, Rise W q l → q ≤ W → W < W' → Rise W' q (l ++ [W])
  | [], q, _, h1, h2 => ⟨h1, h2, trivial⟩
  | x :: t, q, ⟨k1, k2, k3⟩, h1, h2 => ⟨k1, by omega, rise_snoc k3 (by omega) h2⟩
theorem rise_up {W W' : Int} : ∀ {l : List Int} {q : Int}, Rise W q l → W ≤ W' → Rise W' q l
  | [], _, _, _ => trivial
  | _ :: _, _, ⟨k1, k2, k3⟩, h => ⟨k1, by omega, rise_up k3 h⟩
theorem olist_rise (b : Nat → Bool) : ∀ n : Nat, Rise (n : Int) 0 (olist b n) ∧ (olist b n).length ≤ n
  | 0 => ⟨trivial, Nat.le_refl _⟩
  | n + 1 => by
    have ih := olist_rise b n
    unfold olist
    cases b n with
    | true => exact ⟨rise_snoc ih.1 (by omega) (by omega), by rw [cond_true, List.length_append]; show _ + 1 ≤ n + 1; omega⟩
    | false => exact ⟨rise_up ih.1 (by omega), by rw [cond_false]; omega⟩
theorem getD_mem {l : List Int} {j : Nat} (h : j < l.length) : l.getD j 0 ∈ l := by
  rw [List.getD, List.getElem?_eq_getElem h]; exact List.getElem_mem _
theorem mem_getD {l : List Int} {x : Int} (h : x ∈ l) : ∃ j, j < l.length ∧ l.getD j 0 = x := by
  obtain ⟨j, hj, e⟩ := List.getElem_of_mem h
  exact ⟨j, hj, by rw [List.getD, List.getElem?_eq_getElem hj]; exact e⟩
section
variable {v : Svy} (h : okV v) (hlv : ¬ v.lv = -2000000000) {k : Nat} (hk : (k : Int) = v.wl) {p : Nat → Int} (hf : fitsM v p = true) {l : List Int} (hl : ∀ x, x ∈ l → 0 ≤ x ∧ x < k) {pl : Nat → Int} (hpl : ∀ j, j < l.length → pl j = l.getD j 0)
include h hlv hk hf hl hpl
theorem pl_in : ∀ i, i < l.length → 0 ≤ pl i ∧ pl i < k := fun i hi => by
  rw [hpl i hi]; exact hl _ (getD_mem hi)
theorem dec_know (hd : decL k (relsG v) l = true) (hW : knW v k p l.length pl = true) : knI v k p l.length pl = true := by
  unfold knI
  rw [hW, Bool.true_and]
  have hr : ∀ j, j < l.length → roomB v pl p k j = true := allN_all hW
  have hd := decL_iff.1 hd
  refine allN_t fun a ha => allN_t fun b hb => bne_iff_ne.2 (itU_known h hlv hk hf (pl_in h hlv hk hf hl hpl) hr (fun a b ha hb h1 => ?_) ha hb)
  rcases hd a b ha hb h1 with ⟨x, hx, e⟩ | ⟨x, hx, e⟩
  · obtain ⟨j, hj, ej⟩ := mem_getD hx
    exact .inl ⟨j, hj, by rw [hpl j hj, ej]; exact e⟩
  · obtain ⟨j, hj, ej⟩ := mem_getD hx
    exact .inr ⟨j, hj, by rw [hpl j hj, ej]; exact e⟩
theorem know_dec (hpg : ∀ a, a < k → p a = groupsM v a) (hI : knI v k p l.length pl = true) : decL k (relsG v) l = true := by
  unfold knI at hI
  rw [Bool.and_eq_true] at hI
  have hr : ∀ j, j < l.length → roomB v pl p k j = true := allN_all hI.1
  refine decL_iff.2 fun a b ha hb h1 => Classical.byContradiction fun hc => ?_
  have h2 := itU_still h hlv hk hf hpg (pl_in h hlv hk hf hl hpl) hr ha hb h1 fun j hj => by
    rw [hpl j hj]
    exact ⟨fun e => hc (.inl ⟨_, getD_mem hj, e⟩), fun e => hc (.inr ⟨_, getD_mem hj, e⟩)⟩
  exact bne_iff_ne.1 (allN_all (allN_all hI.2 a ha) b hb) h2
end
theorem fits_restr {v : Svy} (h : okV v) {k : Nat} (hk : (k : Int) = v.wl) (p : Nat → Int) : fitsM v (restr k p) = fitsM v p := by
  unfold fitsM
  have hc : ∀ {f g : Nat → Bool} {n : Nat}, (∀ i, i < n → f i = g i) → allN f n = allN g n := fun {f g n} h => by
    cases hg : allN g n with
    | true => exact allN_t fun i hi => (h i hi).trans (allN_all hg i hi)
    | false =>
      cases hf : allN f n with
      | false => rfl
      | true => rw [allN_t fun i hi => (h i hi).symm.trans (allN_all hf i hi)] at hg; cases hg
  refine hc fun i hi => ?_
  obtain ⟨ha, hb, _⟩ := h.s i hi
  unfold fitAt fitO
  rw [restr_in (by omega), restr_in (by omega)]
/-- The plan is known to do, and no smaller set is. -/
theorem plan_known {v : Svy} {k : Nat} (h : okV v) (hlv : ¬ v.lv = -2000000000) (hk : (k : Int) = v.wl) (hc : clashB v = false) {p : Nat → Int} (hf : fitsM v p = true) :
    knI v k (restr k p) (planR v).k (restr (planR v).k fun i => intOf ((planR v).g i)) = knW v k (restr k p) (planR v).k (restr (planR v).k fun i => intOf ((planR v).g i)) := by
  obtain ⟨h1, h2, h3, h4, _⟩ := plan_sem h hk hc
  have e := toL_len (planR v)
  have hpl : ∀ j, j < (toL (planR v)).length → restr (planR v).k (fun i => intOf ((planR v).g i)) j = (toL (planR v)).getD j 0 := fun j hj => by
    rw [e] at hj
    rw [restr_in hj]
    unfold toL
    rw [List.getD, List.getElem?_map, List.getElem?_range hj]; rfl
  cases hW : knW v k (restr k p) (planR v).k (restr (planR v).k fun i => intOf ((planR v).g i)) with
  | false => unfold knI; rw [hW]; rfl
  | true =>
    rw [← e] at hW ⊢
    exact dec_know h hlv hk ((fits_restr h hk p).trans hf) (fun x hx => rise_mem h4 hx) (fun j hj => by rw [e]; exact hpl j hj) h3 hW
theorem other_known {v : Svy} {k : Nat} (h : okV v) (hlv : ¬ v.lv = -2000000000) (hk : (k : Int) = v.wl) (hc : clashB v = false) (b : Nat → Bool)
    (hI : knI v k (restr k (groupsM v)) (olist b k).length (restr (olist b k).length fun i => intOf (intL ((olist b k).getD i 0))) = true) : (planR v).k ≤ (olist b k).length := by
  obtain ⟨h1, h2, h3, h4, h5⟩ := plan_sem h hk hc
  have hr := (olist_rise b k).1
  refine (h5 _ hr ?_).1
  exact know_dec h hlv hk ((fits_restr h hk _).trans (groups_fit h hc)) (fun x hx => rise_mem hr hx) (fun j hj => by rw [restr_in hj]; rfl) (fun a ha => restr_in ha) hI
end Go.Proofs.Ytnjhbmcambofgaa
