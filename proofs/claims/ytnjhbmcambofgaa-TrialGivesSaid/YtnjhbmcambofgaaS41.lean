/- Layer 4: capacities, told twice. -/
import Derived.Test.YtnjhbmcambofgaaS40
import Derived.Test.YtnjhbmcambofgaaS34
namespace Go.Proofs.Ytnjhbmcambofgaa
open Go.V
set_option linter.unusedSimpArgs false
set_option linter.unusedVariables false

theorem least_at {P : Nat → Bool} (hm : ∀ i j, i ≤ j → P i = true → P j = true) : ∀ n, (∀ i j, i ≤ j → j < n → P i = true → P j = true) → ∃ r, r ≤ n ∧ ∀ x, x < n → P x = decide (r ≤ x)
  | 0, _ => ⟨0, Nat.le_refl _, fun x hx => absurd hx (Nat.not_lt_zero x)⟩
  | n + 1, h => by
    obtain ⟨r, hr, h1⟩ := least_at hm n fun i j hij hj => h i j hij (by omega)
    by_cases e : r < n
    · refine ⟨r, by omega, fun x hx => ?_⟩
      rcases Nat.lt_succ_iff_lt_or_eq.1 hx with hx | rfl
      · exact h1 x hx
      · have h2 := h1 r e
        rw [decide_eq_true (Nat.le_refl r)] at h2
        rw [h r x (by omega) (by omega) h2, decide_eq_true (by omega)]
    · have e : r = n := by omega
      subst e
      cases hp : P r with
      | true =>
        refine ⟨r, by omega, fun x hx => ?_⟩
        rcases Nat.lt_succ_iff_lt_or_eq.1 hx with hx | rfl
        · exact h1 x hx
        · rw [hp, decide_eq_true (Nat.le_refl _)]
      | false =>
        refine ⟨r + 1, Nat.le_refl _, fun x hx => ?_⟩
        rcases Nat.lt_succ_iff_lt_or_eq.1 hx with hx | rfl
        · rw [h1 x hx, decide_eq_false (by omega), decide_eq_false (by omega)]
        · rw [hp, decide_eq_false (by omega)]
theorem least_up {P : Nat → Bool} (n : Nat) (h : ∀ i j, i ≤ j → j < n → P i = true → P j = true) : ∃ r, r ≤ n ∧ ∀ x, x < n → P x = decide (r ≤ x) := by
  obtain ⟨r, hr, h1⟩ := least_at (P := fun x => P x && decide (x < n) || decide (n ≤ x)) (fun i j hij hp => by
    simp only [Bool.or_eq_true, Bool.and_eq_true, decide_eq_true_eq] at hp ⊢
    by_cases hj : j < n
    · rcases hp with ⟨h2, h3⟩ | h2
      · exact .inl ⟨h i j hij hj h2, hj⟩
      · omega
    · exact .inr (by omega)) n (fun i j hij hj hp => by
    simp only [Bool.or_eq_true, Bool.and_eq_true, decide_eq_true_eq] at hp ⊢
    rcases hp with ⟨h2, h3⟩ | h2
    · exact .inl ⟨h i j hij hj h2, hj⟩
    · omega)
  refine ⟨r, hr, fun x hx => ?_⟩
  have := h1 x hx
  simp only [decide_eq_true hx, Bool.and_true, decide_eq_false (show ¬ n ≤ x by omega), Bool.or_false] at this
  exact this
abbrev hiQ (t : Tst) (q : Int) : Int := (encL (dropF q) (famsM t)).hi
abbrev loQ (t : Tst) (q : Int) : Int := (encL (dropF q) (famsM t)).lo
theorem hi_mono {t : Tst} (h : okT t) (hp : 0 < (famsM t).length) {q q' : Int} (hq : inQ q) (hq' : inQ q') (hle : q ≤ q') : hiQ t q ≤ hiQ t q' := by
  obtain ⟨x, hx, e⟩ := encL_hi (g := dropF q) hp
  have k := fams_ok h hx
  have h1 := (encL_le (g := dropF q') hx).2
  show (encL (dropF q) (famsM t)).hi ≤ (encL (dropF q') (famsM t)).hi
  rw [e, dropF_eq k hq]
  rw [dropF_eq k hq'] at h1
  have := dropP_mono k.B.1 k.C.1 hq.1 hle
  simp only at h1 ⊢
  omega
theorem lo_mono {t : Tst} (h : okT t) (hp : 0 < (famsM t).length) {q q' : Int} (hq : inQ q) (hq' : inQ q') (hle : q ≤ q') : loQ t q ≤ loQ t q' := by
  obtain ⟨x, hx, e⟩ := encL_lo (g := dropF q') hp
  have k := fams_ok h hx
  have h1 := (encL_le (g := dropF q) hx).1
  show (encL (dropF q) (famsM t)).lo ≤ (encL (dropF q') (famsM t)).lo
  rw [e, dropF_eq k hq']
  rw [dropF_eq k hq] at h1
  have := dropP_mono k.B.1 k.C.1 hq.1 hle
  simp only at h1 ⊢
  omega
/-- From which flows on some curve, and all of them, are above a limit. -/
structure Caps (t : Tst) (lim : Int) (rH rL : Nat) : Prop where
  h : rH ≤ 1001
  l : rL ≤ 1001
  le : rH ≤ rL
  hi : ∀ x : Nat, x < 1001 → decide (lim < hiQ t (x : Int)) = decide (rH ≤ x)
  lo : ∀ x : Nat, x < 1001 → decide (lim < loQ t (x : Int)) = decide (rL ≤ x)
theorem caps_ex {t : Tst} (h : okT t) (hp : 0 < (famsM t).length) (lim : Int) : ∃ rH rL, Caps t lim rH rL := by
  obtain ⟨rH, h1, h2⟩ := least_up (P := fun x => decide (lim < hiQ t (x : Int))) 1001 fun i j hij hj hp' => by
    have := of_decide_eq_true hp'
    have m := hi_mono h hp (q := (i : Int)) (q' := (j : Int)) ⟨by omega, by omega⟩ ⟨by omega, by omega⟩ (by omega)
    exact decide_eq_true (by omega)
  obtain ⟨rL, h3, h4⟩ := least_up (P := fun x => decide (lim < loQ t (x : Int))) 1001 fun i j hij hj hp' => by
    have := of_decide_eq_true hp'
    have m := lo_mono h hp (q := (i : Int)) (q' := (j : Int)) ⟨by omega, by omega⟩ ⟨by omega, by omega⟩ (by omega)
    exact decide_eq_true (by omega)
  refine ⟨rH, rL, h1, h3, ?_, h2, h4⟩
  refine Classical.byContradiction fun hc => ?_
  have k1 := h4 rL (by omega)
  have k2 := h2 rL (by omega)
  rw [decide_eq_true (Nat.le_refl rL)] at k1
  rw [decide_eq_false (show ¬ rH ≤ rL by omega)] at k2
  have k1 := of_decide_eq_true k1
  have k2 := of_decide_eq_false k2
  have := (enc_drop h hp (q := (rL : Int)) ⟨by omega, by omega⟩).2.1
  have : loQ t (rL : Int) ≤ hiQ t (rL : Int) := this
  omega
theorem Caps.hle {t : Tst} {lim : Int} {rH rL : Nat} (c : Caps t lim rH rL) {x : Nat} (hx : x < 1001) : hiQ t (x : Int) ≤ lim ↔ x < rH := by
  have := c.hi x hx
  by_cases h : rH ≤ x
  · rw [decide_eq_true h] at this
    have := of_decide_eq_true this
    omega
  · rw [decide_eq_false h] at this
    have := of_decide_eq_false this
    omega
theorem Caps.lle {t : Tst} {lim : Int} {rH rL : Nat} (c : Caps t lim rH rL) {x : Nat} (hx : x < 1001) : loQ t (x : Int) ≤ lim ↔ x < rL := by
  have := c.lo x hx
  by_cases h : rL ≤ x
  · rw [decide_eq_true h] at this
    have := of_decide_eq_true this
    omega
  · rw [decide_eq_false h] at this
    have := of_decide_eq_false this
    omega
theorem sureN_eq {t : Tst} {lim : Int} {rH rL : Nat} (c : Caps t lim rH rL) : ∀ m : Nat, m ≤ 1001 → sureN (famsM t) lim m = (min rH m : Nat) - 1
  | 0, _ => by rw [sureN_0]; simp
  | m + 1, hm => by
    rw [sureN_1, sureN_eq c m (by omega)]
    have hh := c.hle (x := m) (by omega)
    by_cases h : m < rH
    · have e1 : decide ((encL (dropF (m : Int)) (famsM t)).hi ≤ lim) = true := decide_eq_true (hh.2 h)
      have e2 : (((min rH m : Nat) : Int) - 1 == (m : Int) - 1) = true := by rw [show min rH m = m by omega]; simp
      rw [e1, e2]
      show (m : Int) = _
      omega
    · have e1 : decide ((encL (dropF (m : Int)) (famsM t)).hi ≤ lim) = false := decide_eq_false fun hc => h (hh.1 hc)
      rw [e1]
      show ((min rH m : Nat) : Int) - 1 = _
      omega
theorem capS_eq {t : Tst} {lim : Int} {rH rL : Nat} (c : Caps t lim rH rL) : capS (famsM t) lim = (rH : Int) - 1 ∧ capM (famsM t) lim = (rL : Int) - 1 := by
  have k1 := c.h
  have k2 := c.l
  have k3 := c.le
  by_cases h : rL < 1001
  · have hb : ∀ i : Nat, i < rL → (!decide ((encL (dropF (i : Int)) (famsM t)).lo ≤ lim)) = false := fun i hi => by
      rw [decide_eq_true ((c.lle (x := i) (by omega)).2 hi)]; rfl
    have he : decide ((encL (dropF (rL : Int)) (famsM t)).lo ≤ lim) = false := decide_eq_false fun hc => by
      have := (c.lle (x := rL) h).1 hc
      omega
    obtain ⟨e1, e2⟩ := badN_t hb he h
    rw [e1, e2, sureN_eq c (rL + 1) (by omega)]
    exact ⟨by omega, rfl⟩
  · have hb : ∀ i : Nat, i < 1001 → (!decide ((encL (dropF (i : Int)) (famsM t)).lo ≤ lim)) = false := fun i hi => by
      rw [decide_eq_true ((c.lle (x := i) hi).2 (by omega))]; rfl
    obtain ⟨e1, e2⟩ := badN_f hb
    rw [e1, e2, sureN_eq c 1001 (by omega)]
    exact ⟨by omega, by omega⟩
theorem famOf_list (l : List Fam) : (fun i => famOf (listG l i)) = getF l := by
  funext i
  rfl
/-- The searches that Capacity makes. -/
def srchS (l : List Fam) (lim : Int) (rH rL : Nat) : V.Spec
  | [.int .i64 n, .fn (.func f) [] caps] => (some (n = 1001 ∧ caps = [.cptr [.slice none l.length (listG l)], .cptr [I lim]] ∧ (f = 85 ∨ f = 86)), I (bif Nat.beq f 85 then (rH : Int) else (rL : Int)))
  | _ => bad
theorem sf84s {t : Tst} (h : okT t) (hp : 0 < (famsM t).length) {lim : Int} {rH rL : Nat} (c : Caps t lim rH rL) : SF Try.prog 84 (srchS (famsM t) lim rH rL) := by
  refine sf_each ⟨_, _, Try.func84, by kernel_rfl, rfl⟩ fun args ha => ?_
  unfold srchS at ha ⊢
  have k1 := c.h
  have k2 := c.l
  have hL : isL famL (famsM t).length (listG (famsM t)) := .mk (getF (famsM t)) (by have := famsM_len h; omega) rfl
  split at ha
  · rename_i n f caps
    obtain ⟨rfl, rfl, rfl | rfl⟩ : n = 1001 ∧ caps = _ ∧ (f = 85 ∨ f = 86) := ha
    · refine search85 (famsM t).length (listG (famsM t)) lim hL hp 1001 (rH : Int) (by omega) (by omega) fun x hx hx2 => ?_
      obtain ⟨m, rfl⟩ : ∃ m : Nat, x = (m : Int) := ⟨x.toNat, by omega⟩
      rw [famOf_list, ← encL_pos hp]
      exact (c.hi m (by omega)).trans (decide_eq_decide.2 (by omega))
    · refine search86 (famsM t).length (listG (famsM t)) lim hL hp 1001 (rL : Int) (by omega) (by omega) fun x hx hx2 => ?_
      obtain ⟨m, rfl⟩ : ∃ m : Nat, x = (m : Int) := ⟨x.toNat, by omega⟩
      rw [famOf_list, ← encL_pos hp]
      exact (c.lo m (by omega)).trans (decide_eq_decide.2 (by omega))
  · exact ha.elim
abbrev limB (lim : Int) : Bool := decide (-2000000000 ≤ lim ∧ lim ≤ 2000000000)
theorem c72 (t : Tst) (d : Bool) (hn : t.n ≤ 100) : SF Try.prog 72 (V.atS [.agg (tstC t), .bool d] (.tup [.slice none (agrLst t d).length (listG (agrLst t d)), I (agrE t d)])) := sf_at sf72 (show isL stpL t.n _ from isLt t (by omega)) rfl
set_option maxRecDepth 20000 in
set_option maxHeartbeats 2000000 in
theorem capE (t : Tst) (lim : Int) (hn : t.n ≤ 100) (p1 : (agrE t (limB lim) != 0) = true) : SF Try.prog 33 (V.atS [.agg (tstC t), I lim] (.tup [I 0, I 0, I (agrE t (limB lim))])) := by
  refine sf_gen types_ok mixed (l := [(82, withinS), (72, V.atS [.agg (tstC t), .bool (limB lim)] (.tup [.slice none 0 (listG []), I (agrE t (limB lim))]))]) ⟨sf82, (by have := c72 t (limB lim) hn; rw [agrE_no p1] at this; exact this), trivial⟩ (es := []) trivial (its := []) trivial (fr := []) trivial [] [] false [] [] 2 Try.func33 rfl (by kernel_rfl) fun args h => ?_
  have h : args = _ := h
  subst h
  refine ⟨rfl, ?_⟩
  show evalCode _ _ _ fun o => match o with
    | .normal st | .ret st => withP _ (_ ∧ PLe _ (.tup [I 0, I 0, I (agrE t (limB lim))]))
    | _ => False
  repeat' first
    | exact PLe.refl _
    | exact BLe.refl _
    | exact PLeL.nil
    | exact BLeL.nil
    | refine ⟨?_, ?_⟩
    | refine PLeL.cons ?_ ?_
    | refine BLeL.cons ?_ ?_
    | refine ple_int ?_
    | refine ple_bool ?_
    | refine ple_tt ?_
    | refine ple_ff ?_
    | refine PLe.aggL ?_
    | refine PLe.tupL ?_
    | refine BLe.cellsL ?_
    | refine fun h => absurd h (by decide)
    | (refine fun h => ?_; exfalso; simp only [p1, Int.toNat_natCast, Bool.cond_true_left, Bool.cond_false_right, Bool.cond_true_right, Bool.cond_false_left, cond_true, cond_false, Bool.not_true, Bool.not_false, Bool.not_not, Bool.and_true, Bool.true_and, Bool.and_false, Bool.false_and, Bool.or_true, Bool.true_or, Bool.or_false, Bool.false_or, beq_self_eq_true, bne_self_eq_false, Bool.true_eq_false, Bool.false_eq_true, reduceCtorEq, Bool.and_self, Bool.or_self, Int.reduceBEq, Int.reduceBNe, Int.reduceNeg, decide_true, decide_false, Int.reduceLT, Int.reduceLE, Int.reduceGT] at h; done)
    | refine fun (h : @Eq Bool _ _) => ?_
  all_goals first
    | trivial
    | rfl
    | omega
    | (simp only [p1, Int.toNat_natCast, Bool.cond_true_left, Bool.cond_false_right, Bool.cond_true_right, Bool.cond_false_left, cond_true, cond_false, Bool.not_true, Bool.not_false, Bool.not_not, Bool.and_true, Bool.true_and, Bool.and_false, Bool.false_and, Bool.or_true, Bool.true_or, Bool.or_false, Bool.false_or, beq_self_eq_true, bne_self_eq_false, Bool.true_eq_false, Bool.false_eq_true, reduceCtorEq, Bool.and_self, Bool.or_self, Int.reduceBEq, Int.reduceBNe, Int.reduceNeg, decide_true, decide_false, Int.reduceLT, Int.reduceLE, Int.reduceGT]; done)
    | (show @Eq Bool _ _; simp only [p1, Int.toNat_natCast, Bool.cond_true_left, Bool.cond_false_right, Bool.cond_true_right, Bool.cond_false_left, cond_true, cond_false, Bool.not_true, Bool.not_false, Bool.not_not, Bool.and_true, Bool.true_and, Bool.and_false, Bool.false_and, Bool.or_true, Bool.true_or, Bool.or_false, Bool.false_or, beq_self_eq_true, bne_self_eq_false, Bool.true_eq_false, Bool.false_eq_true, reduceCtorEq, Bool.and_self, Bool.or_self, Int.reduceBEq, Int.reduceBNe, Int.reduceNeg, decide_true, decide_false, Int.reduceLT, Int.reduceLE, Int.reduceGT]; done)
    | skip
set_option maxRecDepth 20000 in
set_option maxHeartbeats 2000000 in
theorem capK (t : Tst) (lim : Int) (hn : t.n ≤ 100) (p1 : (agrE t (limB lim) != 0) = false) (rH rL : Nat) (c : Caps t lim rH rL) : SF Try.prog 33 (V.atS [.agg (tstC t), I lim] (.tup [I ((rH : Int) - 1), I ((rL : Int) - 1), I 0])) := by
  have k1 := c.h
  have k2 := c.l
  have e1 : w ((rH : Int) - 1) = (rH : Int) - 1 := wi (by omega)
  have e2 : w ((rL : Int) - 1) = (rL : Int) - 1 := wi (by omega)
  refine sf_gen types_ok mixed (l := [(82, withinS), (72, V.atS [.agg (tstC t), .bool (limB lim)] (.tup [.slice none (famsM t).length (listG (famsM t)), I 0])), (84, srchS (famsM t) lim rH rL)]) ⟨sf82, (by have := c72 t (limB lim) hn; rw [(agrE_ok p1).2.1, show agrE t (limB lim) = 0 by simpa using p1] at this; exact this), sf84s (agrE_ok p1).1 (agrE_ok p1).2.2 c, trivial⟩ (es := []) trivial (its := []) trivial (fr := []) trivial [] [] false [] [] 2 Try.func33 rfl (by kernel_rfl) fun args h => ?_
  have h : args = _ := h
  subst h
  refine ⟨rfl, ?_⟩
  show evalCode _ _ _ fun o => match o with
    | .normal st | .ret st => withP _ (_ ∧ PLe _ (.tup [I ((rH : Int) - 1), I ((rL : Int) - 1), I 0]))
    | _ => False
  repeat' first
    | exact PLe.refl _
    | exact BLe.refl _
    | exact PLeL.nil
    | exact BLeL.nil
    | refine ⟨?_, ?_⟩
    | refine PLeL.cons ?_ ?_
    | refine BLeL.cons ?_ ?_
    | refine ple_int ?_
    | refine ple_bool ?_
    | refine ple_tt ?_
    | refine ple_ff ?_
    | refine PLe.aggL ?_
    | refine PLe.tupL ?_
    | refine BLe.cellsL ?_
    | refine fun h => absurd h (by decide)
    | refine fun (h : @Eq Bool _ _) => ?_
  all_goals first
    | trivial
    | rfl
    | omega
    | exact e1
    | exact e2
    | exact .inl rfl
    | exact .inr rfl
    | exact ⟨rfl, rfl, .inl rfl⟩
    | exact ⟨rfl, rfl, .inr rfl⟩
    | skip
end Go.Proofs.Ytnjhbmcambofgaa
