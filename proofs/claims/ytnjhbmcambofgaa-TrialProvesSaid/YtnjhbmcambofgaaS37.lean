/- Layer 4: no curve agrees just if all families have a conflict; the step to blame. -/
import Derived.Test.YtnjhbmcambofgaaS36
namespace Go.Proofs.Ytnjhbmcambofgaa
open Go.V
set_option linter.unusedSimpArgs false
set_option linter.unusedVariables false

theorem cutM_rooms (t : Tst) (b c : Int) : ∀ n, (∀ i, i < n + 1 → (roomsM t b c i).lo ≤ (cutM t.a (fun i => roomF 0 b c (t.s i)) n).lo ∧ (cutM t.a (fun i => roomF 0 b c (t.s i)) n).hi ≤ (roomsM t b c i).hi)
    ∧ (∃ i, i < n + 1 ∧ (cutM t.a (fun i => roomF 0 b c (t.s i)) n).lo = (roomsM t b c i).lo) ∧ ∃ i, i < n + 1 ∧ (cutM t.a (fun i => roomF 0 b c (t.s i)) n).hi = (roomsM t b c i).hi
  | 0 => ⟨fun i hi => by obtain rfl : i = 0 := (by omega); exact ⟨Int.le_refl _, Int.le_refl _⟩, ⟨0, by omega, rfl⟩, 0, by omega, rfl⟩
  | n + 1 => by
    obtain ⟨h1, ⟨i, hi, h2⟩, j, hj, h3⟩ := cutM_rooms t b c n
    have e : cutM t.a (fun i => roomF 0 b c (t.s i)) (n + 1) = ⟨gmax (cutM t.a (fun i => roomF 0 b c (t.s i)) n).lo (roomF 0 b c (t.s n)).lo, gmin (cutM t.a (fun i => roomF 0 b c (t.s i)) n).hi (roomF 0 b c (t.s n)).hi⟩ := rfl
    have er : roomsM t b c (n + 1) = roomF 0 b c (t.s n) := rfl
    rw [e]
    refine ⟨fun m hm => ?_, ?_, ?_⟩
    · rcases Nat.lt_succ_iff_lt_or_eq.1 hm with hm | rfl
      · have := h1 m hm
        simp only [gmax, gmin]
        (repeat' split) <;> omega
      · rw [er]
        simp only [gmax, gmin]
        (repeat' split) <;> omega
    · simp only [gmax]
      split
      · exact ⟨n + 1, by omega, rfl⟩
      · exact ⟨i, by omega, h2⟩
    · simp only [gmin]
      split
      · exact ⟨n + 1, by omega, rfl⟩
      · exact ⟨j, by omega, h3⟩
theorem firstN_some {f : Nat → Bool} : ∀ {n : Nat}, (∃ i, i < n ∧ f i = true) → decide (0 ≤ firstN f n) = true
  | 0, ⟨i, hi, _⟩ => absurd hi (Nat.not_lt_zero i)
  | n + 1, ⟨i, hi, h⟩ => by
    unfold firstN
    cases hd : decide (0 ≤ firstN f n) with
    | true => exact hd
    | false =>
      cases hf : f n with
      | true => exact decide_eq_true (by show (0 : Int) ≤ (n : Int); omega)
      | false =>
        rcases Nat.lt_succ_iff_lt_or_eq.1 hi with h1 | rfl
        · rw [firstN_some ⟨i, h1, h⟩] at hd; cases hd
        · rw [h] at hf; cases hf
theorem firstN_none {f : Nat → Bool} {n : Nat} (h : decide (0 ≤ firstN f n) = true) : ∃ i, i < n ∧ f i = true := by
  refine Classical.byContradiction fun hc => ?_
  have : firstN f n = -1 := firstN_f fun i hi => by
    cases hf : f i with
    | false => rfl
    | true => exact (hc ⟨i, hi, hf⟩).elim
  rw [this] at h
  cases h
/-- A family has a conflict just if no A agrees. -/
theorem conH_iff {t : Tst} (hn : t.n ≤ 12) (b c : Int) : conH t b c = true ↔ (setM t b c).hi < (setM t b c).lo := by
  obtain ⟨h1, ⟨i, hi, h2⟩, j, hj, h3⟩ := cutM_rooms t b c t.n
  unfold conH setM
  constructor
  · intro h
    obtain ⟨p, hp, h⟩ := firstN_none h
    obtain ⟨q, hq, h⟩ := firstN_none h
    rw [conAt_rooms hn hp hq] at h
    have h := of_decide_eq_true h
    have k1 := h1 p hp
    have k2 := h1 q hq
    omega
  · intro h
    refine firstN_some ⟨i, hi, firstN_some ⟨j, hj, ?_⟩⟩
    rw [conAt_rooms hn hi hj]
    exact decide_eq_true (by omega)
theorem allH_iff {t : Tst} (h : okT t) : allH t = true ↔ famsM t = [] := by
  unfold allH conHr
  rw [allN_iff]
  constructor
  · intro hA
    refine List.eq_nil_iff_forall_not_mem.2 fun x hx => ?_
    obtain ⟨b, c, hb, hc, hs, _⟩ := mem_fams.1 hx
    have := allN_all (hA (b - t.b.lo).toNat (by unfold Tst.nb; omega)) (c - t.c.lo).toNat (by unfold Tst.nc; omega)
    rw [show t.b.lo + ((b - t.b.lo).toNat : Int) = b by omega, show t.c.lo + ((c - t.c.lo).toNat : Int) = c by omega, conH_iff h.n] at this
    omega
  · intro hF i hi
    refine allN_t fun j hj => ?_
    rw [conH_iff h.n]
    refine Classical.byContradiction fun hc => ?_
    unfold Tst.nb at hi
    unfold Tst.nc at hj
    have : famM t (t.b.lo + (i : Nat)) (t.c.lo + (j : Nat)) ∈ famsM t := mem_fams.2 ⟨_, _, by omega, by omega, by omega, rfl⟩
    rw [hF] at this
    cases this
theorem fams_cut {t : Tst} (h : okT t) {k : Nat} (hk : k ≤ t.n) (hp : 0 < (famsM t).length) : 0 < (famsM (cutT t k)).length := by
  have hm := getF_mem (l := famsM t) hp
  obtain ⟨b, c, hb, hc, hs, _⟩ := mem_fams.1 hm
  have h1 := (setM_mem (A := (setM t b c).lo) h hb hc).1 ⟨Int.le_refl _, hs⟩
  have h2 := (setM_mem (t := cutT t k) (A := (setM t b c).lo) (cutT_ok h hk) hb hc).2 ⟨h1.1, fun i hi => h1.2 i (Nat.lt_of_lt_of_le hi hk)⟩
  have : famM (cutT t k) b c ∈ famsM (cutT t k) := mem_fams.2 ⟨b, c, hb, hc, by omega, rfl⟩
  exact List.length_pos_of_mem this
theorem fams_zero {t : Tst} (h : okT t) (hn : t.n = 0) : 0 < (famsM t).length := by
  have hb := h.b
  have hc := h.c
  have h2 := (setM_mem (A := t.a.lo) h (b := t.b.lo) (c := t.c.lo) (by omega) (by omega)).2 ⟨⟨Int.le_refl _, h.a.2.1⟩, fun i hi => by omega⟩
  have : famM t t.b.lo t.c.lo ∈ famsM t := mem_fams.2 ⟨_, _, by omega, by omega, by omega, rfl⟩
  exact List.length_pos_of_mem this
theorem bl_rb {t : Tst} (h : okT t) : rbM t = blM t := by
  unfold rbM blM
  exact firstN_congr fun i hi => many_zero (cutT_ok h (by omega))
theorem bl_some {t : Tst} (h : okT t) (hF : famsM t = []) : decide (0 ≤ blM t) = true := by
  have hn : 0 < t.n := by
    refine Nat.pos_of_ne_zero fun e => ?_
    have := fams_zero h e
    rw [hF] at this
    cases this
  refine firstN_some ⟨t.n - 1, by omega, ?_⟩
  have e : cutT t (t.n - 1 + 1) = t := by
    have : t.n - 1 + 1 = t.n := by omega
    rw [this]
    rfl
  show (((famsM (cutT t (t.n - 1 + 1))).length : Int) == 0) = true
  rw [e, hF]
  rfl
theorem bl_none {t : Tst} (h : okT t) (hp : 0 < (famsM t).length) : decide (0 ≤ blM t) = false := by
  cases hd : decide (0 ≤ blM t) with
  | false => rfl
  | true =>
    obtain ⟨i, hi, e⟩ := firstN_none hd
    have := fams_cut h (k := i + 1) (by omega) hp
    have e : ((famsM (cutT t (i + 1))).length : Int) = 0 := by simpa using e
    omega
theorem c35 (t : Tst) (hn : t.n ≤ 100) : SF Try.prog 35 (V.atS [.agg (tstC t)] (.tup [I (blN t), I (blE t)])) := sf_at sf35 (show isL stpL t.n _ from isLt t (by omega)) rfl
theorem c37 (t : Tst) (h : okT t) : SF Try.prog 37 (V.atS [.agg (tstC t)] (.slice none (allP t t.nb).length (getP (allP t t.nb)))) := sf_at sf37 (show isT t _ from isTt t h) rfl
theorem c38 (t : Tst) (h : okT t) : SF Try.prog 38 (V.atS [.agg (tstC t)] (I (rbM t))) := sf_at sf38 (show isT t _ from isTt t h) rfl
set_option maxRecDepth 20000 in
set_option maxHeartbeats 2000000 in
theorem consE (t : Tst) (hn : t.n ≤ 100) (p1 : (tfE t != 0) = true) : SF Try.prog 36 (V.atS [.agg (tstC t)] (.tup [.slice none 0 (fun _ => []), I (tfE t)])) := by
  refine sf_gen types_ok mixed (l := [(19, V.atS [.agg (tstC t)] (I (tfE t)))]) ⟨c19 t hn, trivial⟩ (es := []) trivial (its := []) trivial (fr := []) trivial [] [] false [] [] 1 Try.func36 rfl (by kernel_rfl) fun args h => ?_
  have h : args = _ := h
  subst h
  refine ⟨rfl, ?_⟩
  show evalCode _ _ _ fun o => match o with
    | .normal st | .ret st => withP _ (_ ∧ PLe _ (.tup [.slice none 0 (fun _ => []), I (tfE t)]))
    | _ => False
  repeat' first | (exact PLe.refl _) | (exact BLe.refl _) | (exact PLeL.nil) | (exact BLeL.nil) | (refine ⟨?_, ?_⟩) | (refine PLeL.cons ?_ ?_) | (refine BLeL.cons ?_ ?_) | (refine ple_int ?_) | (refine ple_bool ?_) | (refine ple_tt ?_) | (refine ple_ff ?_) | (refine PLe.aggL ?_) | (refine PLe.tupL ?_) | (refine BLe.cellsL ?_) | (refine fun h => absurd h (by decide)) | (refine fun h => ?_; exfalso; simp only [p1, Int.toNat_natCast, Bool.cond_true_left, Bool.cond_false_right, Bool.cond_true_right, Bool.cond_false_left, cond_true, cond_false, Bool.not_true, Bool.not_false, Bool.not_not, Bool.and_true, Bool.true_and, Bool.and_false, Bool.false_and, Bool.or_true, Bool.true_or, Bool.or_false, Bool.false_or, beq_self_eq_true, bne_self_eq_false, Bool.true_eq_false, Bool.false_eq_true, reduceCtorEq, Bool.and_self, Bool.or_self, Int.reduceBEq, Int.reduceBNe, Int.reduceNeg, decide_true, decide_false, Int.reduceLT, Int.reduceLE, Int.reduceGT] at h; done) | (refine fun (h : @Eq Bool _ _) => ?_)
  all_goals first | trivial | rfl | omega | (simp only [p1, Int.toNat_natCast, Bool.cond_true_left, Bool.cond_false_right, Bool.cond_true_right, Bool.cond_false_left, cond_true, cond_false, Bool.not_true, Bool.not_false, Bool.not_not, Bool.and_true, Bool.true_and, Bool.and_false, Bool.false_and, Bool.or_true, Bool.true_or, Bool.or_false, Bool.false_or, beq_self_eq_true, bne_self_eq_false, Bool.true_eq_false, Bool.false_eq_true, reduceCtorEq, Bool.and_self, Bool.or_self, Int.reduceBEq, Int.reduceBNe, Int.reduceNeg, decide_true, decide_false, Int.reduceLT, Int.reduceLE, Int.reduceGT]; done) | (show @Eq Bool _ _; simp only [p1, Int.toNat_natCast, Bool.cond_true_left, Bool.cond_false_right, Bool.cond_true_right, Bool.cond_false_left, cond_true, cond_false, Bool.not_true, Bool.not_false, Bool.not_not, Bool.and_true, Bool.true_and, Bool.and_false, Bool.false_and, Bool.or_true, Bool.true_or, Bool.or_false, Bool.false_or, beq_self_eq_true, bne_self_eq_false, Bool.true_eq_false, Bool.false_eq_true, reduceCtorEq, Bool.and_self, Bool.or_self, Int.reduceBEq, Int.reduceBNe, Int.reduceNeg, decide_true, decide_false, Int.reduceLT, Int.reduceLE, Int.reduceGT]; done) | skip
end Go.Proofs.Ytnjhbmcambofgaa
