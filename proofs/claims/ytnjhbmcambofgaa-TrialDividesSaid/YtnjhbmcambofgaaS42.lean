/- Layer 4: which divisions fit. -/
import Derived.Test.YtnjhbmcambofgaaS28
import Derived.Test.YtnjhbmcambofgaaS27
import Derived.Test.YtnjhbmcambofgaaS15
import Derived.Test.YtnjhbmcambofgaaS31
namespace Go.Proofs.Ytnjhbmcambofgaa
open Go.V
set_option linter.unusedSimpArgs false
set_option linter.unusedVariables false

theorem wj {n : Int} (h : -9000000000000000000 ≤ n ∧ n ≤ 9000000000000000000) : w n = n := w64 (by omega) (by omega)
/-- Whether the division agrees with an observation. -/
def fitO (lv : Int) (p : Nat → Int) (a b lo hi : Int) : Bool := bif (p a.toNat == p b.toNat) then !decide (hi < lv) else !decide (lv ≤ lo)
def fitAt (v : Svy) (p : Nat → Int) (i : Nat) : Bool := fitO v.lv p (v.s i).a (v.s i).b (v.s i).lo (v.s i).hi
def fitsM (v : Svy) (p : Nat → Int) : Bool := allN (fitAt v p) v.n
abbrev okI (k : Nat) (a : Int) : Prop := 0 ≤ a ∧ a < (k : Int)
def fit1S : V.Spec
  | [.agg [.int .i64 a, .int .i64 b, .int .i64 lo, .int .i64 hi], .cptr [.slice none k getp], .cptr [.int .i64 wl, .int .i64 lv, .slice none n get]] => (some (isL intL k getp ∧ okI k a ∧ okI k b), .bool (fitO lv (fun i => intOf (getp i)) a b lo hi))
  | _ => bad
set_option maxRecDepth 20000 in
set_option maxHeartbeats 1000000 in
theorem sf131 : SF Try.prog 131 fit1S := by
  refine sf_of types_ok mixed (l := [(124, isAgainstS), (132, isSureS)]) ⟨sf124, sf132, trivial⟩ (es := []) trivial 3 Try.func131 rfl (by kernel_rfl) fun args h => ?_
  unfold fit1S at h
  split at h
  · rename_i a b lo hi k getp wl lv n get
    obtain ⟨hL, ha, hb⟩ : isL intL k getp ∧ okI k a ∧ okI k b := h
    obtain ⟨hk, p, rfl⟩ := isL.get hL
    refine ⟨rfl, ?_⟩
    show evalCode _ _ _ fun o => match o with
      | .normal st | .ret st => withP _ (_ ∧ PLe _ (.bool (fitO lv p a b lo hi)))
      | _ => False
    refine (Bool.eq_false_or_eq_true (p a.toNat == p b.toNat)).elim (fun hd => ?_) fun hd => ?_
    · have e : fitO lv p a b lo hi = !decide (hi < lv) := by unfold fitO; rw [hd]; rfl
      rw [e]
      repeat' first | (exact PLe.refl _) | (exact BLe.refl _) | (exact PLeL.nil) | (exact BLeL.nil) | (refine ⟨?_, ?_⟩) | (refine PLeL.cons ?_ ?_) | (refine BLeL.cons ?_ ?_) | (refine ple_int ?_) | (refine ple_bool ?_) | (refine ple_tt ?_) | (refine ple_ff ?_) | (refine PLe.aggL ?_) | (refine PLe.tupL ?_) | (refine BLe.cellsL ?_) | (refine fun h => absurd h (by decide)) | (refine fun h => ?_; exfalso; simp only [hd, Int.toNat_natCast, Bool.cond_true_left, Bool.cond_false_right, Bool.cond_true_right, Bool.cond_false_left, cond_true, cond_false, Bool.not_true, Bool.not_false, Bool.not_not, Bool.and_true, Bool.true_and, Bool.and_false, Bool.false_and, Bool.or_true, Bool.true_or, Bool.or_false, Bool.false_or, beq_self_eq_true, bne_self_eq_false, Bool.true_eq_false, Bool.false_eq_true, reduceCtorEq, Bool.and_self, Bool.or_self, Int.reduceBEq, Int.reduceBNe, Int.reduceNeg, decide_true, decide_false, Int.reduceLT, Int.reduceLE, Int.reduceGT] at h; done) | (refine fun (h : @Eq Bool _ _) => ?_)
      all_goals first | trivial | rfl | omega | (exact ha.1) | (exact ha.2) | (exact hb.1) | (exact hb.2) | (simp only [hd, Int.toNat_natCast, Bool.cond_true_left, Bool.cond_false_right, Bool.cond_true_right, Bool.cond_false_left, cond_true, cond_false, Bool.not_true, Bool.not_false, Bool.not_not, Bool.and_true, Bool.true_and, Bool.and_false, Bool.false_and, Bool.or_true, Bool.true_or, Bool.or_false, Bool.false_or, beq_self_eq_true, bne_self_eq_false, Bool.true_eq_false, Bool.false_eq_true, reduceCtorEq, Bool.and_self, Bool.or_self, Int.reduceBEq, Int.reduceBNe, Int.reduceNeg, decide_true, decide_false, Int.reduceLT, Int.reduceLE, Int.reduceGT]; done) | (show @Eq Bool _ _; simp only [hd, Int.toNat_natCast, Bool.cond_true_left, Bool.cond_false_right, Bool.cond_true_right, Bool.cond_false_left, cond_true, cond_false, Bool.not_true, Bool.not_false, Bool.not_not, Bool.and_true, Bool.true_and, Bool.and_false, Bool.false_and, Bool.or_true, Bool.true_or, Bool.or_false, Bool.false_or, beq_self_eq_true, bne_self_eq_false, Bool.true_eq_false, Bool.false_eq_true, reduceCtorEq, Bool.and_self, Bool.or_self, Int.reduceBEq, Int.reduceBNe, Int.reduceNeg, decide_true, decide_false, Int.reduceLT, Int.reduceLE, Int.reduceGT]; done) | skip
    · have e : fitO lv p a b lo hi = !decide (lv ≤ lo) := by unfold fitO; rw [hd]; rfl
      rw [e]
      repeat' first | (exact PLe.refl _) | (exact BLe.refl _) | (exact PLeL.nil) | (exact BLeL.nil) | (refine ⟨?_, ?_⟩) | (refine PLeL.cons ?_ ?_) | (refine BLeL.cons ?_ ?_) | (refine ple_int ?_) | (refine ple_bool ?_) | (refine ple_tt ?_) | (refine ple_ff ?_) | (refine PLe.aggL ?_) | (refine PLe.tupL ?_) | (refine BLe.cellsL ?_) | (refine fun h => absurd h (by decide)) | (refine fun h => ?_; exfalso; simp only [hd, Int.toNat_natCast, Bool.cond_true_left, Bool.cond_false_right, Bool.cond_true_right, Bool.cond_false_left, cond_true, cond_false, Bool.not_true, Bool.not_false, Bool.not_not, Bool.and_true, Bool.true_and, Bool.and_false, Bool.false_and, Bool.or_true, Bool.true_or, Bool.or_false, Bool.false_or, beq_self_eq_true, bne_self_eq_false, Bool.true_eq_false, Bool.false_eq_true, reduceCtorEq, Bool.and_self, Bool.or_self, Int.reduceBEq, Int.reduceBNe, Int.reduceNeg, decide_true, decide_false, Int.reduceLT, Int.reduceLE, Int.reduceGT] at h; done) | (refine fun (h : @Eq Bool _ _) => ?_)
      all_goals first | trivial | rfl | omega | (exact ha.1) | (exact ha.2) | (exact hb.1) | (exact hb.2) | (simp only [hd, Int.toNat_natCast, Bool.cond_true_left, Bool.cond_false_right, Bool.cond_true_right, Bool.cond_false_left, cond_true, cond_false, Bool.not_true, Bool.not_false, Bool.not_not, Bool.and_true, Bool.true_and, Bool.and_false, Bool.false_and, Bool.or_true, Bool.true_or, Bool.or_false, Bool.false_or, beq_self_eq_true, bne_self_eq_false, Bool.true_eq_false, Bool.false_eq_true, reduceCtorEq, Bool.and_self, Bool.or_self, Int.reduceBEq, Int.reduceBNe, Int.reduceNeg, decide_true, decide_false, Int.reduceLT, Int.reduceLE, Int.reduceGT]; done) | (show @Eq Bool _ _; simp only [hd, Int.toNat_natCast, Bool.cond_true_left, Bool.cond_false_right, Bool.cond_true_right, Bool.cond_false_left, cond_true, cond_false, Bool.not_true, Bool.not_false, Bool.not_not, Bool.and_true, Bool.true_and, Bool.and_false, Bool.false_and, Bool.or_true, Bool.true_or, Bool.or_false, Bool.false_or, beq_self_eq_true, bne_self_eq_false, Bool.true_eq_false, Bool.false_eq_true, reduceCtorEq, Bool.and_self, Bool.or_self, Int.reduceBEq, Int.reduceBNe, Int.reduceNeg, decide_true, decide_false, Int.reduceLT, Int.reduceLE, Int.reduceGT]; done) | skip
  · exact h.elim
def everyFitS : V.Spec
  | [.slice none n get, .fn (.func 131) [] [.cptr [.slice none k getp], .cptr [.int .i64 wl, .int .i64 lv, .slice none n2 get2]]] => (some (isL obsL n get ∧ isL intL k getp ∧ ∀ i, i < n → okI k (obsOf (get i)).a ∧ okI k (obsOf (get i)).b), .bool (allN (fun i => fitO lv (fun i => intOf (getp i)) (obsOf (get i)).a (obsOf (get i)).b (obsOf (get i)).lo (obsOf (get i)).hi) n))
  | _ => bad
set_option maxRecDepth 20000 in
theorem sf98b : SF Try.prog 98 everyFitS := by
  refine sf_of types_ok mixed (l := [(131, fit1S)]) ⟨sf131, trivial⟩ (es := []) trivial 2 Try.func98 rfl (by kernel_rfl) fun args h => ?_
  unfold everyFitS at h
  split at h
  · rename_i n get k getp wl lv n2 get2
    obtain ⟨h, hp0, hix⟩ : isL obsL n get ∧ isL intL k getp ∧ ∀ i, i < n → okI k (obsOf (get i)).a ∧ okI k (obsOf (get i)).b := h
    obtain ⟨hn, s, rfl⟩ := isL.get h
    clear h
    have hix : ∀ i, i < n → okI k (s i).a ∧ okI k (s i).b := hix
    refine ⟨rfl, ?_⟩
    show evalCode _ _ _ fun o => match o with
      | .normal st | .ret st => withP _ (_ ∧ PLe _ (.bool (allN (fun i => fitO lv (fun i => intOf (getp i)) (s i).a (s i).b (s i).lo (s i).hi) n)))
      | _ => False
    refine halt_rng (cnt 9) n [1, 7, 8, 9] [] (fun m => [.fn (.func 131) [] [.cptr [.slice none k getp], .cptr [I wl, I lv, .slice none n2 get2]], .slice none n fun i => obsL (s i), I n, I m]) (fun m => []) (fun m => ∀ i, i < m → (fitO lv (fun i => intOf (getp i)) (s i).a (s i).b (s i).lo (s i).hi) = true) rfl ?_ (fun i hi => by omega) ?_
    · repeat' first | (exact PLe.refl _) | (exact PLeL.nil) | (exact BLeL.nil) | (refine ⟨?_, ?_⟩) | (refine PLeL.cons ?_ ?_)
    · intro m hm hq
      refine ⟨fun h1 => ?_, fun h1 => ?_⟩
      · have hlt : m < n := by simpa using h1
        have e1 := succ_w hlt hn
        clear h1
        cases hp : (fitO lv (fun i => intOf (getp i)) (s m).a (s m).b (s m).lo (s m).hi) with
        | true =>
          have hq' : ∀ i, i < m + 1 → (fitO lv (fun i => intOf (getp i)) (s i).a (s i).b (s i).lo (s i).hi) = true := fun i hi => by
            rcases Nat.lt_succ_iff_lt_or_eq.1 hi with h1 | rfl
            · exact hq i h1
            · exact hp
          repeat' first | (exact PLe.refl _) | (exact BLe.refl _) | (exact PLeL.nil) | (exact BLeL.nil) | (refine ⟨?_, ?_⟩) | (refine PLeL.cons ?_ ?_) | (refine BLeL.cons ?_ ?_) | (refine ple_int ?_) | (refine ple_bool ?_) | (refine ple_tt ?_) | (refine ple_ff ?_) | (refine PLe.aggL ?_) | (refine PLe.tupL ?_) | (refine BLe.cellsL ?_) | (refine next_rng (cn := cnt 9) rfl (fun _ => rfl) hlt hq' ?_) | (refine fun h => absurd h (by decide)) | (refine fun h => ?_; exfalso; simp only [hp, Int.toNat_natCast, Bool.cond_true_left, Bool.cond_false_right, Bool.cond_true_right, Bool.cond_false_left, cond_true, cond_false, Bool.not_true, Bool.not_false, Bool.not_not, Bool.and_true, Bool.true_and, Bool.and_false, Bool.false_and, Bool.or_true, Bool.true_or, Bool.or_false, Bool.false_or, beq_self_eq_true, bne_self_eq_false, Bool.true_eq_false, Bool.false_eq_true, reduceCtorEq, Bool.and_self, Bool.or_self, Int.reduceBEq, Int.reduceBNe, Int.reduceNeg, decide_true, decide_false, Int.reduceLT, Int.reduceLE, Int.reduceGT] at h; done) | (refine fun (h : @Eq Bool _ _) => ?_)
          all_goals first | trivial | rfl | omega | (exact e1) | (exact hp0) | (exact (hix m hlt).1) | (exact (hix m hlt).2) | (exact (hix m hlt).1.1) | (exact (hix m hlt).1.2) | (exact (hix m hlt).2.1) | (exact (hix m hlt).2.2) | (simp only [hp, Int.toNat_natCast, Bool.cond_true_left, Bool.cond_false_right, Bool.cond_true_right, Bool.cond_false_left, cond_true, cond_false, Bool.not_true, Bool.not_false, Bool.not_not, Bool.and_true, Bool.true_and, Bool.and_false, Bool.false_and, Bool.or_true, Bool.true_or, Bool.or_false, Bool.false_or, beq_self_eq_true, bne_self_eq_false, Bool.true_eq_false, Bool.false_eq_true, reduceCtorEq, Bool.and_self, Bool.or_self, Int.reduceBEq, Int.reduceBNe, Int.reduceNeg, decide_true, decide_false, Int.reduceLT, Int.reduceLE, Int.reduceGT]; done) | (show @Eq Bool _ _; simp only [hp, Int.toNat_natCast, Bool.cond_true_left, Bool.cond_false_right, Bool.cond_true_right, Bool.cond_false_left, cond_true, cond_false, Bool.not_true, Bool.not_false, Bool.not_not, Bool.and_true, Bool.true_and, Bool.and_false, Bool.false_and, Bool.or_true, Bool.true_or, Bool.or_false, Bool.false_or, beq_self_eq_true, bne_self_eq_false, Bool.true_eq_false, Bool.false_eq_true, reduceCtorEq, Bool.and_self, Bool.or_self, Int.reduceBEq, Int.reduceBNe, Int.reduceNeg, decide_true, decide_false, Int.reduceLT, Int.reduceLE, Int.reduceGT]; done) | skip
        | false =>
          repeat' first | (exact PLe.refl _) | (exact BLe.refl _) | (exact PLeL.nil) | (exact BLeL.nil) | (refine ⟨?_, ?_⟩) | (refine PLeL.cons ?_ ?_) | (refine BLeL.cons ?_ ?_) | (refine ple_int ?_) | (refine ple_bool ?_) | (refine ple_tt ?_) | (refine ple_ff ?_) | (refine PLe.aggL ?_) | (refine PLe.tupL ?_) | (refine BLe.cellsL ?_) | (refine fun h => absurd h (by decide)) | (refine fun h => ?_; exfalso; simp only [hp, Int.toNat_natCast, Bool.cond_true_left, Bool.cond_false_right, Bool.cond_true_right, Bool.cond_false_left, cond_true, cond_false, Bool.not_true, Bool.not_false, Bool.not_not, Bool.and_true, Bool.true_and, Bool.and_false, Bool.false_and, Bool.or_true, Bool.true_or, Bool.or_false, Bool.false_or, beq_self_eq_true, bne_self_eq_false, Bool.true_eq_false, Bool.false_eq_true, reduceCtorEq, Bool.and_self, Bool.or_self, Int.reduceBEq, Int.reduceBNe, Int.reduceNeg, decide_true, decide_false, Int.reduceLT, Int.reduceLE, Int.reduceGT] at h; done) | (refine fun (h : @Eq Bool _ _) => ?_)
          all_goals first | trivial | rfl | omega | (exact allN_f hlt hp) | (exact hp0) | (exact (hix m hlt).1) | (exact (hix m hlt).2) | (exact (hix m hlt).1.1) | (exact (hix m hlt).1.2) | (exact (hix m hlt).2.1) | (exact (hix m hlt).2.2) | (simp only [hp, Int.toNat_natCast, Bool.cond_true_left, Bool.cond_false_right, Bool.cond_true_right, Bool.cond_false_left, cond_true, cond_false, Bool.not_true, Bool.not_false, Bool.not_not, Bool.and_true, Bool.true_and, Bool.and_false, Bool.false_and, Bool.or_true, Bool.true_or, Bool.or_false, Bool.false_or, beq_self_eq_true, bne_self_eq_false, Bool.true_eq_false, Bool.false_eq_true, reduceCtorEq, Bool.and_self, Bool.or_self, Int.reduceBEq, Int.reduceBNe, Int.reduceNeg, decide_true, decide_false, Int.reduceLT, Int.reduceLE, Int.reduceGT]; done) | (show @Eq Bool _ _; simp only [hp, Int.toNat_natCast, Bool.cond_true_left, Bool.cond_false_right, Bool.cond_true_right, Bool.cond_false_left, cond_true, cond_false, Bool.not_true, Bool.not_false, Bool.not_not, Bool.and_true, Bool.true_and, Bool.and_false, Bool.false_and, Bool.or_true, Bool.true_or, Bool.or_false, Bool.false_or, beq_self_eq_true, bne_self_eq_false, Bool.true_eq_false, Bool.false_eq_true, reduceCtorEq, Bool.and_self, Bool.or_self, Int.reduceBEq, Int.reduceBNe, Int.reduceNeg, decide_true, decide_false, Int.reduceLT, Int.reduceLE, Int.reduceGT]; done) | skip
      · obtain rfl : n = m := by
          have : ¬ ((m : Int) < n) := of_decide_eq_false h1
          omega
        refine ⟨rfl, .tt _ (allN_t hq)⟩
  · exact h.elim
def okFit (n k : Nat) (get : Nat → List PV) : Prop := ∀ i, i < n → okI k (obsOf (get i)).a ∧ okI k (obsOf (get i)).b
def fitsS : V.Spec
  | [.agg [.int .i64 wl, .int .i64 lv, .slice none n get], .slice none k getp] => (some (isL obsL n get ∧ isL intL k getp ∧ okFit n k get), .bool (fitsM (svyOf wl lv n get) (fun i => intOf (getp i))))
  | _ => bad
set_option maxRecDepth 20000 in
set_option maxHeartbeats 1000000 in
theorem sf111 : SF Try.prog 111 fitsS := by
  refine sf_gen types_ok mixed (l := [(98, everyFitS)]) ⟨sf98b, trivial⟩ (es := []) trivial (its := []) trivial (fr := []) trivial [] [] false [] [] 2 Try.func111 rfl (by kernel_rfl) fun args h => ?_
  unfold fitsS at h
  split at h
  · rename_i wl lv n get k getp
    have hc : isL obsL n get ∧ isL intL k getp ∧ okFit n k get := h
    clear h
    refine ⟨rfl, ?_⟩
    show evalCode _ _ _ fun o => match o with
      | .normal st | .ret st => withP _ (_ ∧ PLe _ (.bool (fitsM (svyOf wl lv n get) (fun i => intOf (getp i)))))
      | _ => False
    repeat' first | (exact PLe.refl _) | (exact BLe.refl _) | (exact PLeL.nil) | (exact BLeL.nil) | (refine ⟨?_, ?_⟩) | (refine PLeL.cons ?_ ?_) | (refine BLeL.cons ?_ ?_) | (refine ple_int ?_) | (refine ple_bool ?_) | (refine ple_tt ?_) | (refine ple_ff ?_) | (refine PLe.aggL ?_) | (refine PLe.tupL ?_) | (refine BLe.cellsL ?_) | (refine fun h => absurd h (by decide)) | (refine fun (h : @Eq Bool _ _) => ?_)
    all_goals first | trivial | rfl | omega | (exact hc) | (exact hc.1) | (exact hc.2.1) | (exact hc.2.2) | (exact hc.2) | skip
  · exact h.elim
theorem okFit_of {v : Svy} (h : okV v) {k : Nat} (hk : (k : Int) = v.wl) : okFit v.n k fun i => obsL (v.s i) := fun i hi => by
  obtain ⟨h1, h2, _⟩ := h.s i hi
  exact ⟨⟨h1.1, by rw [hk]; exact h1.2⟩, ⟨h2.1, by rw [hk]; exact h2.2⟩⟩
def fitB (v : Svy) (k : Nat) (p : Nat → Int) : Bool := (svE v == 0) && (((k : Int) == v.wl) && fitsM v p)
theorem isLo (v : Svy) (hn : v.n ≤ 1000) : isL obsL v.n fun i => obsL (v.s i) := .mk v.s (by omega) rfl
theorem isLi (k : Nat) (p : Nat → Int) (hk : k ≤ 1000) : isL intL k fun i => intL (p i) := .mk p (by omega) rfl
theorem d45 (v : Svy) (hn : v.n ≤ 1000) : SF Try.prog 45 (V.atS [.agg (svyC v)] (I (svE v))) := sf_at sf45 (show isL obsL v.n _ from isLo v hn) rfl
theorem d111 (v : Svy) (h : okV v) (k : Nat) (p : Nat → Int) (hk : (k : Int) = v.wl) : SF Try.prog 111 (V.atS [.agg (svyC v), .slice none k fun i => intL (p i)] (.bool (fitsM v p))) :=
  sf_at sf111 (show isL obsL v.n _ ∧ isL intL k _ ∧ okFit v.n k _ from ⟨isLo v (by have := h.n; omega), isLi k p (by have := h.wl; omega), okFit_of h hk⟩) rfl
set_option maxRecDepth 20000 in
set_option maxHeartbeats 2000000 in
theorem fits1 (v : Svy) (hn : v.n ≤ 1000) (k : Nat) (p : Nat → Int) (hk0 : k ≤ 1000) (p1 : (svE v == 0) = false) : SF Try.prog 54 (V.atS [.agg (svyC v), .slice none k fun i => intL (p i)] (.bool false)) := by
  refine sf_gen types_ok mixed (l := [(45, V.atS [.agg (svyC v)] (I (svE v)))]) ⟨d45 v hn, trivial⟩ (es := []) trivial (its := []) trivial (fr := []) trivial [] [] false [] [] 2 Try.func54 rfl (by kernel_rfl) fun args h => ?_
  have h : args = _ := h
  subst h
  refine ⟨rfl, ?_⟩
  show evalCode _ _ _ fun o => match o with
    | .normal st | .ret st => withP _ (_ ∧ PLe _ (.bool false))
    | _ => False
  repeat' first | (exact PLe.refl _) | (exact BLe.refl _) | (exact PLeL.nil) | (exact BLeL.nil) | (refine ⟨?_, ?_⟩) | (refine PLeL.cons ?_ ?_) | (refine BLeL.cons ?_ ?_) | (refine ple_int ?_) | (refine ple_bool ?_) | (refine ple_tt ?_) | (refine ple_ff ?_) | (refine PLe.aggL ?_) | (refine PLe.tupL ?_) | (refine BLe.cellsL ?_) | (refine fun h => absurd h (by decide)) | (refine fun h => ?_; exfalso; simp only [p1, Int.toNat_natCast, Bool.cond_true_left, Bool.cond_false_right, Bool.cond_true_right, Bool.cond_false_left, cond_true, cond_false, Bool.not_true, Bool.not_false, Bool.not_not, Bool.and_true, Bool.true_and, Bool.and_false, Bool.false_and, Bool.or_true, Bool.true_or, Bool.or_false, Bool.false_or, beq_self_eq_true, bne_self_eq_false, Bool.true_eq_false, Bool.false_eq_true, reduceCtorEq, Bool.and_self, Bool.or_self, Int.reduceBEq, Int.reduceBNe, Int.reduceNeg, decide_true, decide_false, Int.reduceLT, Int.reduceLE, Int.reduceGT] at h; done) | (refine fun (h : @Eq Bool _ _) => ?_)
  all_goals first | trivial | rfl | omega | (simp only [p1, Int.toNat_natCast, Bool.cond_true_left, Bool.cond_false_right, Bool.cond_true_right, Bool.cond_false_left, cond_true, cond_false, Bool.not_true, Bool.not_false, Bool.not_not, Bool.and_true, Bool.true_and, Bool.and_false, Bool.false_and, Bool.or_true, Bool.true_or, Bool.or_false, Bool.false_or, beq_self_eq_true, bne_self_eq_false, Bool.true_eq_false, Bool.false_eq_true, reduceCtorEq, Bool.and_self, Bool.or_self, Int.reduceBEq, Int.reduceBNe, Int.reduceNeg, decide_true, decide_false, Int.reduceLT, Int.reduceLE, Int.reduceGT]; done) | (show @Eq Bool _ _; simp only [p1, Int.toNat_natCast, Bool.cond_true_left, Bool.cond_false_right, Bool.cond_true_right, Bool.cond_false_left, cond_true, cond_false, Bool.not_true, Bool.not_false, Bool.not_not, Bool.and_true, Bool.true_and, Bool.and_false, Bool.false_and, Bool.or_true, Bool.true_or, Bool.or_false, Bool.false_or, beq_self_eq_true, bne_self_eq_false, Bool.true_eq_false, Bool.false_eq_true, reduceCtorEq, Bool.and_self, Bool.or_self, Int.reduceBEq, Int.reduceBNe, Int.reduceNeg, decide_true, decide_false, Int.reduceLT, Int.reduceLE, Int.reduceGT]; done) | skip
set_option maxRecDepth 20000 in
set_option maxHeartbeats 2000000 in
theorem fits2 (v : Svy) (hn : v.n ≤ 1000) (k : Nat) (p : Nat → Int) (hk0 : k ≤ 1000) (p1 : (svE v == 0) = true) (p2 : ((k : Int) == v.wl) = false) : SF Try.prog 54 (V.atS [.agg (svyC v), .slice none k fun i => intL (p i)] (.bool false)) := by
  refine sf_gen types_ok mixed (l := [(45, V.atS [.agg (svyC v)] (I (svE v)))]) ⟨d45 v hn, trivial⟩ (es := []) trivial (its := []) trivial (fr := []) trivial [] [] false [] [] 2 Try.func54 rfl (by kernel_rfl) fun args h => ?_
  have h : args = _ := h
  subst h
  refine ⟨rfl, ?_⟩
  show evalCode _ _ _ fun o => match o with
    | .normal st | .ret st => withP _ (_ ∧ PLe _ (.bool false))
    | _ => False
  repeat' first | (exact PLe.refl _) | (exact BLe.refl _) | (exact PLeL.nil) | (exact BLeL.nil) | (refine ⟨?_, ?_⟩) | (refine PLeL.cons ?_ ?_) | (refine BLeL.cons ?_ ?_) | (refine ple_int ?_) | (refine ple_bool ?_) | (refine ple_tt ?_) | (refine ple_ff ?_) | (refine PLe.aggL ?_) | (refine PLe.tupL ?_) | (refine BLe.cellsL ?_) | (refine fun h => absurd h (by decide)) | (refine fun h => ?_; exfalso; simp only [p1, p2, Int.toNat_natCast, Bool.cond_true_left, Bool.cond_false_right, Bool.cond_true_right, Bool.cond_false_left, cond_true, cond_false, Bool.not_true, Bool.not_false, Bool.not_not, Bool.and_true, Bool.true_and, Bool.and_false, Bool.false_and, Bool.or_true, Bool.true_or, Bool.or_false, Bool.false_or, beq_self_eq_true, bne_self_eq_false, Bool.true_eq_false, Bool.false_eq_true, reduceCtorEq, Bool.and_self, Bool.or_self, Int.reduceBEq, Int.reduceBNe, Int.reduceNeg, decide_true, decide_false, Int.reduceLT, Int.reduceLE, Int.reduceGT] at h; done) | (refine fun (h : @Eq Bool _ _) => ?_)
  all_goals first | trivial | rfl | omega | (simp only [p1, p2, Int.toNat_natCast, Bool.cond_true_left, Bool.cond_false_right, Bool.cond_true_right, Bool.cond_false_left, cond_true, cond_false, Bool.not_true, Bool.not_false, Bool.not_not, Bool.and_true, Bool.true_and, Bool.and_false, Bool.false_and, Bool.or_true, Bool.true_or, Bool.or_false, Bool.false_or, beq_self_eq_true, bne_self_eq_false, Bool.true_eq_false, Bool.false_eq_true, reduceCtorEq, Bool.and_self, Bool.or_self, Int.reduceBEq, Int.reduceBNe, Int.reduceNeg, decide_true, decide_false, Int.reduceLT, Int.reduceLE, Int.reduceGT]; done) | (show @Eq Bool _ _; simp only [p1, p2, Int.toNat_natCast, Bool.cond_true_left, Bool.cond_false_right, Bool.cond_true_right, Bool.cond_false_left, cond_true, cond_false, Bool.not_true, Bool.not_false, Bool.not_not, Bool.and_true, Bool.true_and, Bool.and_false, Bool.false_and, Bool.or_true, Bool.true_or, Bool.or_false, Bool.false_or, beq_self_eq_true, bne_self_eq_false, Bool.true_eq_false, Bool.false_eq_true, reduceCtorEq, Bool.and_self, Bool.or_self, Int.reduceBEq, Int.reduceBNe, Int.reduceNeg, decide_true, decide_false, Int.reduceLT, Int.reduceLE, Int.reduceGT]; done) | skip
set_option maxRecDepth 20000 in
set_option maxHeartbeats 2000000 in
theorem fits3 (v : Svy) (hn : v.n ≤ 1000) (k : Nat) (p : Nat → Int) (hk0 : k ≤ 1000) (p1 : (svE v == 0) = true) (p2 : ((k : Int) == v.wl) = true) : SF Try.prog 54 (V.atS [.agg (svyC v), .slice none k fun i => intL (p i)] (.bool (fitsM v p))) := by
  refine sf_gen types_ok mixed (l := [(45, V.atS [.agg (svyC v)] (I (svE v))), (111, V.atS [.agg (svyC v), .slice none k fun i => intL (p i)] (.bool (fitsM v p)))]) ⟨d45 v hn, d111 v (svE_ok (by simpa using p1)) k p (by simpa using p2), trivial⟩ (es := []) trivial (its := []) trivial (fr := []) trivial [] [] false [] [] 2 Try.func54 rfl (by kernel_rfl) fun args h => ?_
  have h : args = _ := h
  subst h
  refine ⟨rfl, ?_⟩
  show evalCode _ _ _ fun o => match o with
    | .normal st | .ret st => withP _ (_ ∧ PLe _ (.bool (fitsM v p)))
    | _ => False
  repeat' first | (exact PLe.refl _) | (exact BLe.refl _) | (exact PLeL.nil) | (exact BLeL.nil) | (refine ⟨?_, ?_⟩) | (refine PLeL.cons ?_ ?_) | (refine BLeL.cons ?_ ?_) | (refine ple_int ?_) | (refine ple_bool ?_) | (refine ple_tt ?_) | (refine ple_ff ?_) | (refine PLe.aggL ?_) | (refine PLe.tupL ?_) | (refine BLe.cellsL ?_) | (refine fun h => absurd h (by decide)) | (refine fun h => ?_; exfalso; simp only [p1, p2, Int.toNat_natCast, Bool.cond_true_left, Bool.cond_false_right, Bool.cond_true_right, Bool.cond_false_left, cond_true, cond_false, Bool.not_true, Bool.not_false, Bool.not_not, Bool.and_true, Bool.true_and, Bool.and_false, Bool.false_and, Bool.or_true, Bool.true_or, Bool.or_false, Bool.false_or, beq_self_eq_true, bne_self_eq_false, Bool.true_eq_false, Bool.false_eq_true, reduceCtorEq, Bool.and_self, Bool.or_self, Int.reduceBEq, Int.reduceBNe, Int.reduceNeg, decide_true, decide_false, Int.reduceLT, Int.reduceLE, Int.reduceGT] at h; done) | (refine fun (h : @Eq Bool _ _) => ?_)
  all_goals first | trivial | rfl | omega | (simp only [p1, p2, Int.toNat_natCast, Bool.cond_true_left, Bool.cond_false_right, Bool.cond_true_right, Bool.cond_false_left, cond_true, cond_false, Bool.not_true, Bool.not_false, Bool.not_not, Bool.and_true, Bool.true_and, Bool.and_false, Bool.false_and, Bool.or_true, Bool.true_or, Bool.or_false, Bool.false_or, beq_self_eq_true, bne_self_eq_false, Bool.true_eq_false, Bool.false_eq_true, reduceCtorEq, Bool.and_self, Bool.or_self, Int.reduceBEq, Int.reduceBNe, Int.reduceNeg, decide_true, decide_false, Int.reduceLT, Int.reduceLE, Int.reduceGT]; done) | (show @Eq Bool _ _; simp only [p1, p2, Int.toNat_natCast, Bool.cond_true_left, Bool.cond_false_right, Bool.cond_true_right, Bool.cond_false_left, cond_true, cond_false, Bool.not_true, Bool.not_false, Bool.not_not, Bool.and_true, Bool.true_and, Bool.and_false, Bool.false_and, Bool.or_true, Bool.true_or, Bool.or_false, Bool.false_or, beq_self_eq_true, bne_self_eq_false, Bool.true_eq_false, Bool.false_eq_true, reduceCtorEq, Bool.and_self, Bool.or_self, Int.reduceBEq, Int.reduceBNe, Int.reduceNeg, decide_true, decide_false, Int.reduceLT, Int.reduceLE, Int.reduceGT]; done) | skip
theorem d54 (v : Svy) (hn : v.n ≤ 1000) (k : Nat) (p : Nat → Int) (hk0 : k ≤ 1000) : SF Try.prog 54 (V.atS [.agg (svyC v), .slice none k fun i => intL (p i)] (.bool (fitB v k p))) := by
  unfold fitB
  cases p1 : (svE v == 0) with
  | false => exact fits1 v hn k p hk0 p1
  | true =>
    cases p2 : ((k : Int) == v.wl) with
    | false => exact fits2 v hn k p hk0 p1 p2
    | true => exact fits3 v hn k p hk0 p1 p2
end Go.Proofs.Ytnjhbmcambofgaa
