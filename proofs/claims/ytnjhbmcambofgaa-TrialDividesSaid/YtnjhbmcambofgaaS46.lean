/- Layer 4: the error of a survey by the document's words. -/
import Derived.Test.YtnjhbmcambofgaaS42
namespace Go.Proofs.Ytnjhbmcambofgaa
open Go.V
set_option linter.unusedSimpArgs false
set_option linter.unusedVariables false

set_option maxRecDepth 20000 in
set_option maxHeartbeats 2000000 in
theorem sfault3 (v : Svy) (p1 : decide (60 < (v.n : Int)) = true) : SF Try.prog 41 (V.atS [.agg (svyC v)] (I 3)) := by
  refine sf_gen types_ok mixed (l := []) trivial (es := []) trivial (its := []) trivial (fr := []) trivial [] [] false [] [] 1 Try.func41 rfl (by kernel_rfl) fun args h => ?_
  have h : args = _ := h
  subst h
  refine ⟨rfl, ?_⟩
  show evalCode _ _ _ fun o => match o with
    | .normal st | .ret st => withP _ (_ ∧ PLe _ (I 3))
    | _ => False
  repeat' first | (exact PLe.refl _) | (exact BLe.refl _) | (exact PLeL.nil) | (exact BLeL.nil) | (refine ⟨?_, ?_⟩) | (refine PLeL.cons ?_ ?_) | (refine BLeL.cons ?_ ?_) | (refine ple_int ?_) | (refine ple_bool ?_) | (refine ple_tt ?_) | (refine ple_ff ?_) | (refine PLe.aggL ?_) | (refine PLe.tupL ?_) | (refine BLe.cellsL ?_) | (refine fun h => absurd h (by decide)) | (refine fun h => ?_; exfalso; simp only [p1, Int.toNat_natCast, Bool.cond_true_left, Bool.cond_false_right, Bool.cond_true_right, Bool.cond_false_left, cond_true, cond_false, Bool.not_true, Bool.not_false, Bool.not_not, Bool.and_true, Bool.true_and, Bool.and_false, Bool.false_and, Bool.or_true, Bool.true_or, Bool.or_false, Bool.false_or, beq_self_eq_true, bne_self_eq_false, Bool.true_eq_false, Bool.false_eq_true, reduceCtorEq, Bool.and_self, Bool.or_self, Int.reduceBEq, Int.reduceBNe, Int.reduceNeg, decide_true, decide_false, Int.reduceLT, Int.reduceLE, Int.reduceGT] at h; done) | (refine fun (h : @Eq Bool _ _) => ?_)
  all_goals first | trivial | rfl | omega | (simp only [p1, Int.toNat_natCast, Bool.cond_true_left, Bool.cond_false_right, Bool.cond_true_right, Bool.cond_false_left, cond_true, cond_false, Bool.not_true, Bool.not_false, Bool.not_not, Bool.and_true, Bool.true_and, Bool.and_false, Bool.false_and, Bool.or_true, Bool.true_or, Bool.or_false, Bool.false_or, beq_self_eq_true, bne_self_eq_false, Bool.true_eq_false, Bool.false_eq_true, reduceCtorEq, Bool.and_self, Bool.or_self, Int.reduceBEq, Int.reduceBNe, Int.reduceNeg, decide_true, decide_false, Int.reduceLT, Int.reduceLE, Int.reduceGT]; done) | (show @Eq Bool _ _; simp only [p1, Int.toNat_natCast, Bool.cond_true_left, Bool.cond_false_right, Bool.cond_true_right, Bool.cond_false_left, cond_true, cond_false, Bool.not_true, Bool.not_false, Bool.not_not, Bool.and_true, Bool.true_and, Bool.and_false, Bool.false_and, Bool.or_true, Bool.true_or, Bool.or_false, Bool.false_or, beq_self_eq_true, bne_self_eq_false, Bool.true_eq_false, Bool.false_eq_true, reduceCtorEq, Bool.and_self, Bool.or_self, Int.reduceBEq, Int.reduceBNe, Int.reduceNeg, decide_true, decide_false, Int.reduceLT, Int.reduceLE, Int.reduceGT]; done) | skip
set_option maxRecDepth 20000 in
set_option maxHeartbeats 2000000 in
theorem sfault1 (v : Svy) (p1 : decide (60 < (v.n : Int)) = false) (p2 : decide (1 ≤ v.wl ∧ v.wl ≤ 10) = false) : SF Try.prog 41 (V.atS [.agg (svyC v)] (I 1)) := by
  refine sf_gen types_ok mixed (l := [(30, withinS), (62, isFromS)]) ⟨sf30, sf62, trivial⟩ (es := []) trivial (its := []) trivial (fr := []) trivial [] [] false [] [] 1 Try.func41 rfl (by kernel_rfl) fun args h => ?_
  have h : args = _ := h
  subst h
  refine ⟨rfl, ?_⟩
  show evalCode _ _ _ fun o => match o with
    | .normal st | .ret st => withP _ (_ ∧ PLe _ (I 1))
    | _ => False
  repeat' first | (exact PLe.refl _) | (exact BLe.refl _) | (exact PLeL.nil) | (exact BLeL.nil) | (refine ⟨?_, ?_⟩) | (refine PLeL.cons ?_ ?_) | (refine BLeL.cons ?_ ?_) | (refine ple_int ?_) | (refine ple_bool ?_) | (refine ple_tt ?_) | (refine ple_ff ?_) | (refine PLe.aggL ?_) | (refine PLe.tupL ?_) | (refine BLe.cellsL ?_) | (refine fun h => absurd h (by decide)) | (refine fun h => ?_; exfalso; simp only [p1, p2, Int.toNat_natCast, Bool.cond_true_left, Bool.cond_false_right, Bool.cond_true_right, Bool.cond_false_left, cond_true, cond_false, Bool.not_true, Bool.not_false, Bool.not_not, Bool.and_true, Bool.true_and, Bool.and_false, Bool.false_and, Bool.or_true, Bool.true_or, Bool.or_false, Bool.false_or, beq_self_eq_true, bne_self_eq_false, Bool.true_eq_false, Bool.false_eq_true, reduceCtorEq, Bool.and_self, Bool.or_self, Int.reduceBEq, Int.reduceBNe, Int.reduceNeg, decide_true, decide_false, Int.reduceLT, Int.reduceLE, Int.reduceGT] at h; done) | (refine fun (h : @Eq Bool _ _) => ?_)
  all_goals first | trivial | rfl | omega | (simp only [p1, p2, Int.toNat_natCast, Bool.cond_true_left, Bool.cond_false_right, Bool.cond_true_right, Bool.cond_false_left, cond_true, cond_false, Bool.not_true, Bool.not_false, Bool.not_not, Bool.and_true, Bool.true_and, Bool.and_false, Bool.false_and, Bool.or_true, Bool.true_or, Bool.or_false, Bool.false_or, beq_self_eq_true, bne_self_eq_false, Bool.true_eq_false, Bool.false_eq_true, reduceCtorEq, Bool.and_self, Bool.or_self, Int.reduceBEq, Int.reduceBNe, Int.reduceNeg, decide_true, decide_false, Int.reduceLT, Int.reduceLE, Int.reduceGT]; done) | (show @Eq Bool _ _; simp only [p1, p2, Int.toNat_natCast, Bool.cond_true_left, Bool.cond_false_right, Bool.cond_true_right, Bool.cond_false_left, cond_true, cond_false, Bool.not_true, Bool.not_false, Bool.not_not, Bool.and_true, Bool.true_and, Bool.and_false, Bool.false_and, Bool.or_true, Bool.true_or, Bool.or_false, Bool.false_or, beq_self_eq_true, bne_self_eq_false, Bool.true_eq_false, Bool.false_eq_true, reduceCtorEq, Bool.and_self, Bool.or_self, Int.reduceBEq, Int.reduceBNe, Int.reduceNeg, decide_true, decide_false, Int.reduceLT, Int.reduceLE, Int.reduceGT]; done) | skip
set_option maxRecDepth 20000 in
set_option maxHeartbeats 2000000 in
theorem sfault2 (v : Svy) (p1 : decide (60 < (v.n : Int)) = false) (p2 : decide (1 ≤ v.wl ∧ v.wl ≤ 10) = true) (p3 : decide (-2000000000 ≤ v.lv ∧ v.lv ≤ 2000000000) = false) : SF Try.prog 41 (V.atS [.agg (svyC v)] (I 1)) := by
  refine sf_gen types_ok mixed (l := [(30, withinS), (62, isFromS)]) ⟨sf30, sf62, trivial⟩ (es := []) trivial (its := []) trivial (fr := []) trivial [] [] false [] [] 1 Try.func41 rfl (by kernel_rfl) fun args h => ?_
  have h : args = _ := h
  subst h
  refine ⟨rfl, ?_⟩
  show evalCode _ _ _ fun o => match o with
    | .normal st | .ret st => withP _ (_ ∧ PLe _ (I 1))
    | _ => False
  repeat' first | (exact PLe.refl _) | (exact BLe.refl _) | (exact PLeL.nil) | (exact BLeL.nil) | (refine ⟨?_, ?_⟩) | (refine PLeL.cons ?_ ?_) | (refine BLeL.cons ?_ ?_) | (refine ple_int ?_) | (refine ple_bool ?_) | (refine ple_tt ?_) | (refine ple_ff ?_) | (refine PLe.aggL ?_) | (refine PLe.tupL ?_) | (refine BLe.cellsL ?_) | (refine fun h => absurd h (by decide)) | (refine fun h => ?_; exfalso; simp only [p1, p2, p3, Int.toNat_natCast, Bool.cond_true_left, Bool.cond_false_right, Bool.cond_true_right, Bool.cond_false_left, cond_true, cond_false, Bool.not_true, Bool.not_false, Bool.not_not, Bool.and_true, Bool.true_and, Bool.and_false, Bool.false_and, Bool.or_true, Bool.true_or, Bool.or_false, Bool.false_or, beq_self_eq_true, bne_self_eq_false, Bool.true_eq_false, Bool.false_eq_true, reduceCtorEq, Bool.and_self, Bool.or_self, Int.reduceBEq, Int.reduceBNe, Int.reduceNeg, decide_true, decide_false, Int.reduceLT, Int.reduceLE, Int.reduceGT] at h; done) | (refine fun (h : @Eq Bool _ _) => ?_)
  all_goals first | trivial | rfl | omega | (simp only [p1, p2, p3, Int.toNat_natCast, Bool.cond_true_left, Bool.cond_false_right, Bool.cond_true_right, Bool.cond_false_left, cond_true, cond_false, Bool.not_true, Bool.not_false, Bool.not_not, Bool.and_true, Bool.true_and, Bool.and_false, Bool.false_and, Bool.or_true, Bool.true_or, Bool.or_false, Bool.false_or, beq_self_eq_true, bne_self_eq_false, Bool.true_eq_false, Bool.false_eq_true, reduceCtorEq, Bool.and_self, Bool.or_self, Int.reduceBEq, Int.reduceBNe, Int.reduceNeg, decide_true, decide_false, Int.reduceLT, Int.reduceLE, Int.reduceGT]; done) | (show @Eq Bool _ _; simp only [p1, p2, p3, Int.toNat_natCast, Bool.cond_true_left, Bool.cond_false_right, Bool.cond_true_right, Bool.cond_false_left, cond_true, cond_false, Bool.not_true, Bool.not_false, Bool.not_not, Bool.and_true, Bool.true_and, Bool.and_false, Bool.false_and, Bool.or_true, Bool.true_or, Bool.or_false, Bool.false_or, beq_self_eq_true, bne_self_eq_false, Bool.true_eq_false, Bool.false_eq_true, reduceCtorEq, Bool.and_self, Bool.or_self, Int.reduceBEq, Int.reduceBNe, Int.reduceNeg, decide_true, decide_false, Int.reduceLT, Int.reduceLE, Int.reduceGT]; done) | skip
set_option maxRecDepth 20000 in
set_option maxHeartbeats 4000000 in
theorem sfaultT (v : Svy) (p1 : decide (60 < (v.n : Int)) = false) (p2 : decide (1 ≤ v.wl ∧ v.wl ≤ 10) = true) (p3 : decide (-2000000000 ≤ v.lv ∧ v.lv ≤ 2000000000) = true) (hA : allO v.wl v.s v.n = true) : SF Try.prog 41 (V.atS [.agg (svyC v)] (I 0)) := by
  have hn : v.n ≤ 60 := by have := of_decide_eq_false p1; omega
  refine sf_gen types_ok mixed (l := [(30, withinS), (62, isFromS)]) ⟨sf30, sf62, trivial⟩ (es := []) trivial (its := []) trivial (fr := []) trivial [] [] false [] [] 1 Try.func41 rfl (by kernel_rfl) fun args h => ?_
  have h : args = _ := h
  subst h
  refine ⟨rfl, ?_⟩
  show evalCode _ _ _ fun o => match o with
    | .normal st | .ret st => withP _ (_ ∧ PLe _ (I 0))
    | _ => False
  repeat' first | (exact PLe.refl _) | (exact BLe.refl _) | (exact PLeL.nil) | (exact BLeL.nil) | (refine ⟨?_, ?_⟩) | (refine PLeL.cons ?_ ?_) | (refine BLeL.cons ?_ ?_) | (refine ple_int ?_) | (refine ple_bool ?_) | (refine ple_tt ?_) | (refine ple_ff ?_) | (refine PLe.aggL ?_) | (refine PLe.tupL ?_) | (refine BLe.cellsL ?_) | (refine halt_rng (cnt 3) v.n [1, 3] [1] (fun m => [.ptr 1 0, I (m : Nat)]) (fun m => [.cells (svyC v)]) (fun m => ∀ i, i < m → obsB v.wl (v.s i).a (v.s i).b (v.s i).lo (v.s i).hi = true) rfl (.mk ?_ ?_) (fun i hi => absurd hi (Nat.not_lt_zero i)) ?_) | (refine fun h => absurd h (by decide)) | (refine fun h => ?_; exfalso; simp only [p1, p2, p3, Int.toNat_natCast, Bool.cond_true_left, Bool.cond_false_right, Bool.cond_true_right, Bool.cond_false_left, cond_true, cond_false, Bool.not_true, Bool.not_false, Bool.not_not, Bool.and_true, Bool.true_and, Bool.and_false, Bool.false_and, Bool.or_true, Bool.true_or, Bool.or_false, Bool.false_or, beq_self_eq_true, bne_self_eq_false, Bool.true_eq_false, Bool.false_eq_true, reduceCtorEq, Bool.and_self, Bool.or_self, Int.reduceBEq, Int.reduceBNe, Int.reduceNeg, decide_true, decide_false, Int.reduceLT, Int.reduceLE, Int.reduceGT] at h; done) | (refine fun (h : @Eq Bool _ _) => ?_)
  all_goals first | trivial | rfl | omega | (simp only [p1, p2, p3, Int.toNat_natCast, Bool.cond_true_left, Bool.cond_false_right, Bool.cond_true_right, Bool.cond_false_left, cond_true, cond_false, Bool.not_true, Bool.not_false, Bool.not_not, Bool.and_true, Bool.true_and, Bool.and_false, Bool.false_and, Bool.or_true, Bool.true_or, Bool.or_false, Bool.false_or, beq_self_eq_true, bne_self_eq_false, Bool.true_eq_false, Bool.false_eq_true, reduceCtorEq, Bool.and_self, Bool.or_self, Int.reduceBEq, Int.reduceBNe, Int.reduceNeg, decide_true, decide_false, Int.reduceLT, Int.reduceLE, Int.reduceGT]; done) | (show @Eq Bool _ _; simp only [p1, p2, p3, Int.toNat_natCast, Bool.cond_true_left, Bool.cond_false_right, Bool.cond_true_right, Bool.cond_false_left, cond_true, cond_false, Bool.not_true, Bool.not_false, Bool.not_not, Bool.and_true, Bool.true_and, Bool.and_false, Bool.false_and, Bool.or_true, Bool.true_or, Bool.or_false, Bool.false_or, beq_self_eq_true, bne_self_eq_false, Bool.true_eq_false, Bool.false_eq_true, reduceCtorEq, Bool.and_self, Bool.or_self, Int.reduceBEq, Int.reduceBNe, Int.reduceNeg, decide_true, decide_false, Int.reduceLT, Int.reduceLE, Int.reduceGT]; done) | skip
  intro m hm hQ
  refine ⟨fun h1 => ?_, fun h1 => ?_⟩
  · have hlt : m < v.n := by
      have : (m : Int) < (v.n : Int) := of_decide_eq_true h1
      omega
    have e1 := succ_w hlt (by omega)
    clear h1
    refine (Bool.eq_false_or_eq_true (decide (0 ≤ (v.s m).a ∧ (v.s m).a ≤ IntKind.i64.wrap (v.wl - 1)))).elim (fun a0 => ?_) fun a0 => ?_
    · skip
      refine (Bool.eq_false_or_eq_true (decide (0 ≤ (v.s m).b ∧ (v.s m).b ≤ IntKind.i64.wrap (v.wl - 1)))).elim (fun a1 => ?_) fun a1 => ?_
      · skip
        refine (Bool.eq_false_or_eq_true ((v.s m).a == (v.s m).b)).elim (fun a2 => ?_) fun a2 => ?_
        · skip
          have eC : obsB v.wl (v.s m).a (v.s m).b (v.s m).lo (v.s m).hi = false := by
            show (decide (0 ≤ (v.s m).a ∧ (v.s m).a ≤ IntKind.i64.wrap (v.wl - 1)) && (decide (0 ≤ (v.s m).b ∧ (v.s m).b ≤ IntKind.i64.wrap (v.wl - 1)) && (((v.s m).a != (v.s m).b) && decide (-2000000000 ≤ (v.s m).lo ∧ (v.s m).lo ≤ (v.s m).hi ∧ (v.s m).hi ≤ 2000000000)))) = false
            rw [bne, a2]; simp only [Bool.true_and, Bool.false_and, Bool.and_false, Bool.not_true]
          have hA2 : allO v.wl v.s v.n = false := allN_f hlt eC
          exact absurd (hA.symm.trans hA2) (by decide)
        · skip
          refine (Bool.eq_false_or_eq_true (decide (-2000000000 ≤ (v.s m).lo ∧ (v.s m).lo ≤ (v.s m).hi ∧ (v.s m).hi ≤ 2000000000))).elim (fun a3 => ?_) fun a3 => ?_
          · skip
            have eC : obsB v.wl (v.s m).a (v.s m).b (v.s m).lo (v.s m).hi = true := by
              show (decide (0 ≤ (v.s m).a ∧ (v.s m).a ≤ IntKind.i64.wrap (v.wl - 1)) && (decide (0 ≤ (v.s m).b ∧ (v.s m).b ≤ IntKind.i64.wrap (v.wl - 1)) && (((v.s m).a != (v.s m).b) && decide (-2000000000 ≤ (v.s m).lo ∧ (v.s m).lo ≤ (v.s m).hi ∧ (v.s m).hi ≤ 2000000000)))) = true
              rw [a0, a1, a3, bne, a2]; rfl
            have hQ' : ∀ i, i < m + 1 → obsB v.wl (v.s i).a (v.s i).b (v.s i).lo (v.s i).hi = true := fun i hi => by
              rcases Nat.lt_succ_iff_lt_or_eq.1 hi with h1 | rfl
              · exact hQ i h1
              · exact eC
            repeat' first | (exact PLe.refl _) | (exact BLe.refl _) | (exact PLeL.nil) | (exact BLeL.nil) | (refine ⟨?_, ?_⟩) | (refine PLeL.cons ?_ ?_) | (refine BLeL.cons ?_ ?_) | (refine ple_int ?_) | (refine ple_bool ?_) | (refine ple_tt ?_) | (refine ple_ff ?_) | (refine PLe.aggL ?_) | (refine PLe.tupL ?_) | (refine BLe.cellsL ?_) | (refine next_rng (cn := cnt 3) rfl (fun _ => rfl) hlt hQ' (.mk ?_ ?_)) | (refine fun h => absurd h (by decide)) | (refine fun h => ?_; exfalso; simp only [a0, a1, a2, a3, Int.toNat_natCast, Bool.cond_true_left, Bool.cond_false_right, Bool.cond_true_right, Bool.cond_false_left, cond_true, cond_false, Bool.not_true, Bool.not_false, Bool.not_not, Bool.and_true, Bool.true_and, Bool.and_false, Bool.false_and, Bool.or_true, Bool.true_or, Bool.or_false, Bool.false_or, beq_self_eq_true, bne_self_eq_false, Bool.true_eq_false, Bool.false_eq_true, reduceCtorEq, Bool.and_self, Bool.or_self, Int.reduceBEq, Int.reduceBNe, Int.reduceNeg, decide_true, decide_false, Int.reduceLT, Int.reduceLE, Int.reduceGT] at h; done) | (refine fun (h : @Eq Bool _ _) => ?_)
            all_goals first | trivial | rfl | omega | (exact e1) | (show (0 : Int) ≤ (m : Int); omega) | (show (m : Int) < (v.n : Int); omega) | (simp only [a0, a1, a2, a3, Int.toNat_natCast, Bool.cond_true_left, Bool.cond_false_right, Bool.cond_true_right, Bool.cond_false_left, cond_true, cond_false, Bool.not_true, Bool.not_false, Bool.not_not, Bool.and_true, Bool.true_and, Bool.and_false, Bool.false_and, Bool.or_true, Bool.true_or, Bool.or_false, Bool.false_or, beq_self_eq_true, bne_self_eq_false, Bool.true_eq_false, Bool.false_eq_true, reduceCtorEq, Bool.and_self, Bool.or_self, Int.reduceBEq, Int.reduceBNe, Int.reduceNeg, decide_true, decide_false, Int.reduceLT, Int.reduceLE, Int.reduceGT]; done) | (show @Eq Bool _ _; simp only [a0, a1, a2, a3, Int.toNat_natCast, Bool.cond_true_left, Bool.cond_false_right, Bool.cond_true_right, Bool.cond_false_left, cond_true, cond_false, Bool.not_true, Bool.not_false, Bool.not_not, Bool.and_true, Bool.true_and, Bool.and_false, Bool.false_and, Bool.or_true, Bool.true_or, Bool.or_false, Bool.false_or, beq_self_eq_true, bne_self_eq_false, Bool.true_eq_false, Bool.false_eq_true, reduceCtorEq, Bool.and_self, Bool.or_self, Int.reduceBEq, Int.reduceBNe, Int.reduceNeg, decide_true, decide_false, Int.reduceLT, Int.reduceLE, Int.reduceGT]; done) | skip
          · skip
            have eC : obsB v.wl (v.s m).a (v.s m).b (v.s m).lo (v.s m).hi = false := by
              show (decide (0 ≤ (v.s m).a ∧ (v.s m).a ≤ IntKind.i64.wrap (v.wl - 1)) && (decide (0 ≤ (v.s m).b ∧ (v.s m).b ≤ IntKind.i64.wrap (v.wl - 1)) && (((v.s m).a != (v.s m).b) && decide (-2000000000 ≤ (v.s m).lo ∧ (v.s m).lo ≤ (v.s m).hi ∧ (v.s m).hi ≤ 2000000000)))) = false
              rw [a3]; simp only [Bool.true_and, Bool.false_and, Bool.and_false, Bool.not_true]
            have hA2 : allO v.wl v.s v.n = false := allN_f hlt eC
            exact absurd (hA.symm.trans hA2) (by decide)
      · skip
        have eC : obsB v.wl (v.s m).a (v.s m).b (v.s m).lo (v.s m).hi = false := by
          show (decide (0 ≤ (v.s m).a ∧ (v.s m).a ≤ IntKind.i64.wrap (v.wl - 1)) && (decide (0 ≤ (v.s m).b ∧ (v.s m).b ≤ IntKind.i64.wrap (v.wl - 1)) && (((v.s m).a != (v.s m).b) && decide (-2000000000 ≤ (v.s m).lo ∧ (v.s m).lo ≤ (v.s m).hi ∧ (v.s m).hi ≤ 2000000000)))) = false
          rw [a1]; simp only [Bool.true_and, Bool.false_and, Bool.and_false, Bool.not_true]
        have hA2 : allO v.wl v.s v.n = false := allN_f hlt eC
        exact absurd (hA.symm.trans hA2) (by decide)
    · skip
      have eC : obsB v.wl (v.s m).a (v.s m).b (v.s m).lo (v.s m).hi = false := by
        show (decide (0 ≤ (v.s m).a ∧ (v.s m).a ≤ IntKind.i64.wrap (v.wl - 1)) && (decide (0 ≤ (v.s m).b ∧ (v.s m).b ≤ IntKind.i64.wrap (v.wl - 1)) && (((v.s m).a != (v.s m).b) && decide (-2000000000 ≤ (v.s m).lo ∧ (v.s m).lo ≤ (v.s m).hi ∧ (v.s m).hi ≤ 2000000000)))) = false
        rw [a0]; simp only [Bool.true_and, Bool.false_and, Bool.and_false, Bool.not_true]
      have hA2 : allO v.wl v.s v.n = false := allN_f hlt eC
      exact absurd (hA.symm.trans hA2) (by decide)
  · have hmn : m = v.n := by
      have : ¬ ((m : Int) < (v.n : Int)) := of_decide_eq_false h1
      omega
    subst hmn
    clear h1
    have hA2 : allO v.wl v.s v.n = true := allN_t hQ
    repeat' first | (exact PLe.refl _) | (exact BLe.refl _) | (exact PLeL.nil) | (exact BLeL.nil) | (refine ⟨?_, ?_⟩) | (refine PLeL.cons ?_ ?_) | (refine BLeL.cons ?_ ?_) | (refine ple_int ?_) | (refine ple_bool ?_) | (refine ple_tt ?_) | (refine ple_ff ?_) | (refine PLe.aggL ?_) | (refine PLe.tupL ?_) | (refine BLe.cellsL ?_) | (refine fun h => absurd h (by decide)) | (refine fun (h : @Eq Bool _ _) => ?_)
    all_goals first | trivial | rfl | omega | skip
set_option maxRecDepth 20000 in
set_option maxHeartbeats 4000000 in
theorem sfaultF (v : Svy) (p1 : decide (60 < (v.n : Int)) = false) (p2 : decide (1 ≤ v.wl ∧ v.wl ≤ 10) = true) (p3 : decide (-2000000000 ≤ v.lv ∧ v.lv ≤ 2000000000) = true) (hA : allO v.wl v.s v.n = false) : SF Try.prog 41 (V.atS [.agg (svyC v)] (I 1)) := by
  have hn : v.n ≤ 60 := by have := of_decide_eq_false p1; omega
  refine sf_gen types_ok mixed (l := [(30, withinS), (62, isFromS)]) ⟨sf30, sf62, trivial⟩ (es := []) trivial (its := []) trivial (fr := []) trivial [] [] false [] [] 1 Try.func41 rfl (by kernel_rfl) fun args h => ?_
  have h : args = _ := h
  subst h
  refine ⟨rfl, ?_⟩
  show evalCode _ _ _ fun o => match o with
    | .normal st | .ret st => withP _ (_ ∧ PLe _ (I 1))
    | _ => False
  repeat' first | (exact PLe.refl _) | (exact BLe.refl _) | (exact PLeL.nil) | (exact BLeL.nil) | (refine ⟨?_, ?_⟩) | (refine PLeL.cons ?_ ?_) | (refine BLeL.cons ?_ ?_) | (refine ple_int ?_) | (refine ple_bool ?_) | (refine ple_tt ?_) | (refine ple_ff ?_) | (refine PLe.aggL ?_) | (refine PLe.tupL ?_) | (refine BLe.cellsL ?_) | (refine halt_rng (cnt 3) v.n [1, 3] [1] (fun m => [.ptr 1 0, I (m : Nat)]) (fun m => [.cells (svyC v)]) (fun m => ∀ i, i < m → obsB v.wl (v.s i).a (v.s i).b (v.s i).lo (v.s i).hi = true) rfl (.mk ?_ ?_) (fun i hi => absurd hi (Nat.not_lt_zero i)) ?_) | (refine fun h => absurd h (by decide)) | (refine fun h => ?_; exfalso; simp only [p1, p2, p3, Int.toNat_natCast, Bool.cond_true_left, Bool.cond_false_right, Bool.cond_true_right, Bool.cond_false_left, cond_true, cond_false, Bool.not_true, Bool.not_false, Bool.not_not, Bool.and_true, Bool.true_and, Bool.and_false, Bool.false_and, Bool.or_true, Bool.true_or, Bool.or_false, Bool.false_or, beq_self_eq_true, bne_self_eq_false, Bool.true_eq_false, Bool.false_eq_true, reduceCtorEq, Bool.and_self, Bool.or_self, Int.reduceBEq, Int.reduceBNe, Int.reduceNeg, decide_true, decide_false, Int.reduceLT, Int.reduceLE, Int.reduceGT] at h; done) | (refine fun (h : @Eq Bool _ _) => ?_)
  all_goals first | trivial | rfl | omega | (simp only [p1, p2, p3, Int.toNat_natCast, Bool.cond_true_left, Bool.cond_false_right, Bool.cond_true_right, Bool.cond_false_left, cond_true, cond_false, Bool.not_true, Bool.not_false, Bool.not_not, Bool.and_true, Bool.true_and, Bool.and_false, Bool.false_and, Bool.or_true, Bool.true_or, Bool.or_false, Bool.false_or, beq_self_eq_true, bne_self_eq_false, Bool.true_eq_false, Bool.false_eq_true, reduceCtorEq, Bool.and_self, Bool.or_self, Int.reduceBEq, Int.reduceBNe, Int.reduceNeg, decide_true, decide_false, Int.reduceLT, Int.reduceLE, Int.reduceGT]; done) | (show @Eq Bool _ _; simp only [p1, p2, p3, Int.toNat_natCast, Bool.cond_true_left, Bool.cond_false_right, Bool.cond_true_right, Bool.cond_false_left, cond_true, cond_false, Bool.not_true, Bool.not_false, Bool.not_not, Bool.and_true, Bool.true_and, Bool.and_false, Bool.false_and, Bool.or_true, Bool.true_or, Bool.or_false, Bool.false_or, beq_self_eq_true, bne_self_eq_false, Bool.true_eq_false, Bool.false_eq_true, reduceCtorEq, Bool.and_self, Bool.or_self, Int.reduceBEq, Int.reduceBNe, Int.reduceNeg, decide_true, decide_false, Int.reduceLT, Int.reduceLE, Int.reduceGT]; done) | skip
  intro m hm hQ
  refine ⟨fun h1 => ?_, fun h1 => ?_⟩
  · have hlt : m < v.n := by
      have : (m : Int) < (v.n : Int) := of_decide_eq_true h1
      omega
    have e1 := succ_w hlt (by omega)
    clear h1
    refine (Bool.eq_false_or_eq_true (decide (0 ≤ (v.s m).a ∧ (v.s m).a ≤ IntKind.i64.wrap (v.wl - 1)))).elim (fun a0 => ?_) fun a0 => ?_
    · skip
      refine (Bool.eq_false_or_eq_true (decide (0 ≤ (v.s m).b ∧ (v.s m).b ≤ IntKind.i64.wrap (v.wl - 1)))).elim (fun a1 => ?_) fun a1 => ?_
      · skip
        refine (Bool.eq_false_or_eq_true ((v.s m).a == (v.s m).b)).elim (fun a2 => ?_) fun a2 => ?_
        · skip
          have eC : obsB v.wl (v.s m).a (v.s m).b (v.s m).lo (v.s m).hi = false := by
            show (decide (0 ≤ (v.s m).a ∧ (v.s m).a ≤ IntKind.i64.wrap (v.wl - 1)) && (decide (0 ≤ (v.s m).b ∧ (v.s m).b ≤ IntKind.i64.wrap (v.wl - 1)) && (((v.s m).a != (v.s m).b) && decide (-2000000000 ≤ (v.s m).lo ∧ (v.s m).lo ≤ (v.s m).hi ∧ (v.s m).hi ≤ 2000000000)))) = false
            rw [bne, a2]; simp only [Bool.true_and, Bool.false_and, Bool.and_false, Bool.not_true]
          have hA2 : allO v.wl v.s v.n = false := allN_f hlt eC
          repeat' first | (exact PLe.refl _) | (exact BLe.refl _) | (exact PLeL.nil) | (exact BLeL.nil) | (refine ⟨?_, ?_⟩) | (refine PLeL.cons ?_ ?_) | (refine BLeL.cons ?_ ?_) | (refine ple_int ?_) | (refine ple_bool ?_) | (refine ple_tt ?_) | (refine ple_ff ?_) | (refine PLe.aggL ?_) | (refine PLe.tupL ?_) | (refine BLe.cellsL ?_) | (refine fun h => absurd h (by decide)) | (refine fun h => ?_; exfalso; simp only [a0, a1, a2, Int.toNat_natCast, Bool.cond_true_left, Bool.cond_false_right, Bool.cond_true_right, Bool.cond_false_left, cond_true, cond_false, Bool.not_true, Bool.not_false, Bool.not_not, Bool.and_true, Bool.true_and, Bool.and_false, Bool.false_and, Bool.or_true, Bool.true_or, Bool.or_false, Bool.false_or, beq_self_eq_true, bne_self_eq_false, Bool.true_eq_false, Bool.false_eq_true, reduceCtorEq, Bool.and_self, Bool.or_self, Int.reduceBEq, Int.reduceBNe, Int.reduceNeg, decide_true, decide_false, Int.reduceLT, Int.reduceLE, Int.reduceGT] at h; done) | (refine fun (h : @Eq Bool _ _) => ?_)
          all_goals first | trivial | rfl | omega | (exact e1) | (show (0 : Int) ≤ (m : Int); omega) | (show (m : Int) < (v.n : Int); omega) | (simp only [a0, a1, a2, Int.toNat_natCast, Bool.cond_true_left, Bool.cond_false_right, Bool.cond_true_right, Bool.cond_false_left, cond_true, cond_false, Bool.not_true, Bool.not_false, Bool.not_not, Bool.and_true, Bool.true_and, Bool.and_false, Bool.false_and, Bool.or_true, Bool.true_or, Bool.or_false, Bool.false_or, beq_self_eq_true, bne_self_eq_false, Bool.true_eq_false, Bool.false_eq_true, reduceCtorEq, Bool.and_self, Bool.or_self, Int.reduceBEq, Int.reduceBNe, Int.reduceNeg, decide_true, decide_false, Int.reduceLT, Int.reduceLE, Int.reduceGT]; done) | (show @Eq Bool _ _; simp only [a0, a1, a2, Int.toNat_natCast, Bool.cond_true_left, Bool.cond_false_right, Bool.cond_true_right, Bool.cond_false_left, cond_true, cond_false, Bool.not_true, Bool.not_false, Bool.not_not, Bool.and_true, Bool.true_and, Bool.and_false, Bool.false_and, Bool.or_true, Bool.true_or, Bool.or_false, Bool.false_or, beq_self_eq_true, bne_self_eq_false, Bool.true_eq_false, Bool.false_eq_true, reduceCtorEq, Bool.and_self, Bool.or_self, Int.reduceBEq, Int.reduceBNe, Int.reduceNeg, decide_true, decide_false, Int.reduceLT, Int.reduceLE, Int.reduceGT]; done) | skip
        · skip
          refine (Bool.eq_false_or_eq_true (decide (-2000000000 ≤ (v.s m).lo ∧ (v.s m).lo ≤ (v.s m).hi ∧ (v.s m).hi ≤ 2000000000))).elim (fun a3 => ?_) fun a3 => ?_
          · skip
            have eC : obsB v.wl (v.s m).a (v.s m).b (v.s m).lo (v.s m).hi = true := by
              show (decide (0 ≤ (v.s m).a ∧ (v.s m).a ≤ IntKind.i64.wrap (v.wl - 1)) && (decide (0 ≤ (v.s m).b ∧ (v.s m).b ≤ IntKind.i64.wrap (v.wl - 1)) && (((v.s m).a != (v.s m).b) && decide (-2000000000 ≤ (v.s m).lo ∧ (v.s m).lo ≤ (v.s m).hi ∧ (v.s m).hi ≤ 2000000000)))) = true
              rw [a0, a1, a3, bne, a2]; rfl
            have hQ' : ∀ i, i < m + 1 → obsB v.wl (v.s i).a (v.s i).b (v.s i).lo (v.s i).hi = true := fun i hi => by
              rcases Nat.lt_succ_iff_lt_or_eq.1 hi with h1 | rfl
              · exact hQ i h1
              · exact eC
            repeat' first | (exact PLe.refl _) | (exact BLe.refl _) | (exact PLeL.nil) | (exact BLeL.nil) | (refine ⟨?_, ?_⟩) | (refine PLeL.cons ?_ ?_) | (refine BLeL.cons ?_ ?_) | (refine ple_int ?_) | (refine ple_bool ?_) | (refine ple_tt ?_) | (refine ple_ff ?_) | (refine PLe.aggL ?_) | (refine PLe.tupL ?_) | (refine BLe.cellsL ?_) | (refine next_rng (cn := cnt 3) rfl (fun _ => rfl) hlt hQ' (.mk ?_ ?_)) | (refine fun h => absurd h (by decide)) | (refine fun h => ?_; exfalso; simp only [a0, a1, a2, a3, Int.toNat_natCast, Bool.cond_true_left, Bool.cond_false_right, Bool.cond_true_right, Bool.cond_false_left, cond_true, cond_false, Bool.not_true, Bool.not_false, Bool.not_not, Bool.and_true, Bool.true_and, Bool.and_false, Bool.false_and, Bool.or_true, Bool.true_or, Bool.or_false, Bool.false_or, beq_self_eq_true, bne_self_eq_false, Bool.true_eq_false, Bool.false_eq_true, reduceCtorEq, Bool.and_self, Bool.or_self, Int.reduceBEq, Int.reduceBNe, Int.reduceNeg, decide_true, decide_false, Int.reduceLT, Int.reduceLE, Int.reduceGT] at h; done) | (refine fun (h : @Eq Bool _ _) => ?_)
            all_goals first | trivial | rfl | omega | (exact e1) | (show (0 : Int) ≤ (m : Int); omega) | (show (m : Int) < (v.n : Int); omega) | (simp only [a0, a1, a2, a3, Int.toNat_natCast, Bool.cond_true_left, Bool.cond_false_right, Bool.cond_true_right, Bool.cond_false_left, cond_true, cond_false, Bool.not_true, Bool.not_false, Bool.not_not, Bool.and_true, Bool.true_and, Bool.and_false, Bool.false_and, Bool.or_true, Bool.true_or, Bool.or_false, Bool.false_or, beq_self_eq_true, bne_self_eq_false, Bool.true_eq_false, Bool.false_eq_true, reduceCtorEq, Bool.and_self, Bool.or_self, Int.reduceBEq, Int.reduceBNe, Int.reduceNeg, decide_true, decide_false, Int.reduceLT, Int.reduceLE, Int.reduceGT]; done) | (show @Eq Bool _ _; simp only [a0, a1, a2, a3, Int.toNat_natCast, Bool.cond_true_left, Bool.cond_false_right, Bool.cond_true_right, Bool.cond_false_left, cond_true, cond_false, Bool.not_true, Bool.not_false, Bool.not_not, Bool.and_true, Bool.true_and, Bool.and_false, Bool.false_and, Bool.or_true, Bool.true_or, Bool.or_false, Bool.false_or, beq_self_eq_true, bne_self_eq_false, Bool.true_eq_false, Bool.false_eq_true, reduceCtorEq, Bool.and_self, Bool.or_self, Int.reduceBEq, Int.reduceBNe, Int.reduceNeg, decide_true, decide_false, Int.reduceLT, Int.reduceLE, Int.reduceGT]; done) | skip
          · skip
            have eC : obsB v.wl (v.s m).a (v.s m).b (v.s m).lo (v.s m).hi = false := by
              show (decide (0 ≤ (v.s m).a ∧ (v.s m).a ≤ IntKind.i64.wrap (v.wl - 1)) && (decide (0 ≤ (v.s m).b ∧ (v.s m).b ≤ IntKind.i64.wrap (v.wl - 1)) && (((v.s m).a != (v.s m).b) && decide (-2000000000 ≤ (v.s m).lo ∧ (v.s m).lo ≤ (v.s m).hi ∧ (v.s m).hi ≤ 2000000000)))) = false
              rw [a3]; simp only [Bool.true_and, Bool.false_and, Bool.and_false, Bool.not_true]
            have hA2 : allO v.wl v.s v.n = false := allN_f hlt eC
            repeat' first | (exact PLe.refl _) | (exact BLe.refl _) | (exact PLeL.nil) | (exact BLeL.nil) | (refine ⟨?_, ?_⟩) | (refine PLeL.cons ?_ ?_) | (refine BLeL.cons ?_ ?_) | (refine ple_int ?_) | (refine ple_bool ?_) | (refine ple_tt ?_) | (refine ple_ff ?_) | (refine PLe.aggL ?_) | (refine PLe.tupL ?_) | (refine BLe.cellsL ?_) | (refine fun h => absurd h (by decide)) | (refine fun h => ?_; exfalso; simp only [a0, a1, a2, a3, Int.toNat_natCast, Bool.cond_true_left, Bool.cond_false_right, Bool.cond_true_right, Bool.cond_false_left, cond_true, cond_false, Bool.not_true, Bool.not_false, Bool.not_not, Bool.and_true, Bool.true_and, Bool.and_false, Bool.false_and, Bool.or_true, Bool.true_or, Bool.or_false, Bool.false_or, beq_self_eq_true, bne_self_eq_false, Bool.true_eq_false, Bool.false_eq_true, reduceCtorEq, Bool.and_self, Bool.or_self, Int.reduceBEq, Int.reduceBNe, Int.reduceNeg, decide_true, decide_false, Int.reduceLT, Int.reduceLE, Int.reduceGT] at h; done) | (refine fun (h : @Eq Bool _ _) => ?_)
            all_goals first | trivial | rfl | omega | (exact e1) | (show (0 : Int) ≤ (m : Int); omega) | (show (m : Int) < (v.n : Int); omega) | (simp only [a0, a1, a2, a3, Int.toNat_natCast, Bool.cond_true_left, Bool.cond_false_right, Bool.cond_true_right, Bool.cond_false_left, cond_true, cond_false, Bool.not_true, Bool.not_false, Bool.not_not, Bool.and_true, Bool.true_and, Bool.and_false, Bool.false_and, Bool.or_true, Bool.true_or, Bool.or_false, Bool.false_or, beq_self_eq_true, bne_self_eq_false, Bool.true_eq_false, Bool.false_eq_true, reduceCtorEq, Bool.and_self, Bool.or_self, Int.reduceBEq, Int.reduceBNe, Int.reduceNeg, decide_true, decide_false, Int.reduceLT, Int.reduceLE, Int.reduceGT]; done) | (show @Eq Bool _ _; simp only [a0, a1, a2, a3, Int.toNat_natCast, Bool.cond_true_left, Bool.cond_false_right, Bool.cond_true_right, Bool.cond_false_left, cond_true, cond_false, Bool.not_true, Bool.not_false, Bool.not_not, Bool.and_true, Bool.true_and, Bool.and_false, Bool.false_and, Bool.or_true, Bool.true_or, Bool.or_false, Bool.false_or, beq_self_eq_true, bne_self_eq_false, Bool.true_eq_false, Bool.false_eq_true, reduceCtorEq, Bool.and_self, Bool.or_self, Int.reduceBEq, Int.reduceBNe, Int.reduceNeg, decide_true, decide_false, Int.reduceLT, Int.reduceLE, Int.reduceGT]; done) | skip
      · skip
        have eC : obsB v.wl (v.s m).a (v.s m).b (v.s m).lo (v.s m).hi = false := by
          show (decide (0 ≤ (v.s m).a ∧ (v.s m).a ≤ IntKind.i64.wrap (v.wl - 1)) && (decide (0 ≤ (v.s m).b ∧ (v.s m).b ≤ IntKind.i64.wrap (v.wl - 1)) && (((v.s m).a != (v.s m).b) && decide (-2000000000 ≤ (v.s m).lo ∧ (v.s m).lo ≤ (v.s m).hi ∧ (v.s m).hi ≤ 2000000000)))) = false
          rw [a1]; simp only [Bool.true_and, Bool.false_and, Bool.and_false, Bool.not_true]
        have hA2 : allO v.wl v.s v.n = false := allN_f hlt eC
        repeat' first | (exact PLe.refl _) | (exact BLe.refl _) | (exact PLeL.nil) | (exact BLeL.nil) | (refine ⟨?_, ?_⟩) | (refine PLeL.cons ?_ ?_) | (refine BLeL.cons ?_ ?_) | (refine ple_int ?_) | (refine ple_bool ?_) | (refine ple_tt ?_) | (refine ple_ff ?_) | (refine PLe.aggL ?_) | (refine PLe.tupL ?_) | (refine BLe.cellsL ?_) | (refine fun h => absurd h (by decide)) | (refine fun h => ?_; exfalso; simp only [a0, a1, Int.toNat_natCast, Bool.cond_true_left, Bool.cond_false_right, Bool.cond_true_right, Bool.cond_false_left, cond_true, cond_false, Bool.not_true, Bool.not_false, Bool.not_not, Bool.and_true, Bool.true_and, Bool.and_false, Bool.false_and, Bool.or_true, Bool.true_or, Bool.or_false, Bool.false_or, beq_self_eq_true, bne_self_eq_false, Bool.true_eq_false, Bool.false_eq_true, reduceCtorEq, Bool.and_self, Bool.or_self, Int.reduceBEq, Int.reduceBNe, Int.reduceNeg, decide_true, decide_false, Int.reduceLT, Int.reduceLE, Int.reduceGT] at h; done) | (refine fun (h : @Eq Bool _ _) => ?_)
        all_goals first | trivial | rfl | omega | (exact e1) | (show (0 : Int) ≤ (m : Int); omega) | (show (m : Int) < (v.n : Int); omega) | (simp only [a0, a1, Int.toNat_natCast, Bool.cond_true_left, Bool.cond_false_right, Bool.cond_true_right, Bool.cond_false_left, cond_true, cond_false, Bool.not_true, Bool.not_false, Bool.not_not, Bool.and_true, Bool.true_and, Bool.and_false, Bool.false_and, Bool.or_true, Bool.true_or, Bool.or_false, Bool.false_or, beq_self_eq_true, bne_self_eq_false, Bool.true_eq_false, Bool.false_eq_true, reduceCtorEq, Bool.and_self, Bool.or_self, Int.reduceBEq, Int.reduceBNe, Int.reduceNeg, decide_true, decide_false, Int.reduceLT, Int.reduceLE, Int.reduceGT]; done) | (show @Eq Bool _ _; simp only [a0, a1, Int.toNat_natCast, Bool.cond_true_left, Bool.cond_false_right, Bool.cond_true_right, Bool.cond_false_left, cond_true, cond_false, Bool.not_true, Bool.not_false, Bool.not_not, Bool.and_true, Bool.true_and, Bool.and_false, Bool.false_and, Bool.or_true, Bool.true_or, Bool.or_false, Bool.false_or, beq_self_eq_true, bne_self_eq_false, Bool.true_eq_false, Bool.false_eq_true, reduceCtorEq, Bool.and_self, Bool.or_self, Int.reduceBEq, Int.reduceBNe, Int.reduceNeg, decide_true, decide_false, Int.reduceLT, Int.reduceLE, Int.reduceGT]; done) | skip
    · skip
      have eC : obsB v.wl (v.s m).a (v.s m).b (v.s m).lo (v.s m).hi = false := by
        show (decide (0 ≤ (v.s m).a ∧ (v.s m).a ≤ IntKind.i64.wrap (v.wl - 1)) && (decide (0 ≤ (v.s m).b ∧ (v.s m).b ≤ IntKind.i64.wrap (v.wl - 1)) && (((v.s m).a != (v.s m).b) && decide (-2000000000 ≤ (v.s m).lo ∧ (v.s m).lo ≤ (v.s m).hi ∧ (v.s m).hi ≤ 2000000000)))) = false
        rw [a0]; simp only [Bool.true_and, Bool.false_and, Bool.and_false, Bool.not_true]
      have hA2 : allO v.wl v.s v.n = false := allN_f hlt eC
      repeat' first | (exact PLe.refl _) | (exact BLe.refl _) | (exact PLeL.nil) | (exact BLeL.nil) | (refine ⟨?_, ?_⟩) | (refine PLeL.cons ?_ ?_) | (refine BLeL.cons ?_ ?_) | (refine ple_int ?_) | (refine ple_bool ?_) | (refine ple_tt ?_) | (refine ple_ff ?_) | (refine PLe.aggL ?_) | (refine PLe.tupL ?_) | (refine BLe.cellsL ?_) | (refine fun h => absurd h (by decide)) | (refine fun h => ?_; exfalso; simp only [a0, Int.toNat_natCast, Bool.cond_true_left, Bool.cond_false_right, Bool.cond_true_right, Bool.cond_false_left, cond_true, cond_false, Bool.not_true, Bool.not_false, Bool.not_not, Bool.and_true, Bool.true_and, Bool.and_false, Bool.false_and, Bool.or_true, Bool.true_or, Bool.or_false, Bool.false_or, beq_self_eq_true, bne_self_eq_false, Bool.true_eq_false, Bool.false_eq_true, reduceCtorEq, Bool.and_self, Bool.or_self, Int.reduceBEq, Int.reduceBNe, Int.reduceNeg, decide_true, decide_false, Int.reduceLT, Int.reduceLE, Int.reduceGT] at h; done) | (refine fun (h : @Eq Bool _ _) => ?_)
      all_goals first | trivial | rfl | omega | (exact e1) | (show (0 : Int) ≤ (m : Int); omega) | (show (m : Int) < (v.n : Int); omega) | (simp only [a0, Int.toNat_natCast, Bool.cond_true_left, Bool.cond_false_right, Bool.cond_true_right, Bool.cond_false_left, cond_true, cond_false, Bool.not_true, Bool.not_false, Bool.not_not, Bool.and_true, Bool.true_and, Bool.and_false, Bool.false_and, Bool.or_true, Bool.true_or, Bool.or_false, Bool.false_or, beq_self_eq_true, bne_self_eq_false, Bool.true_eq_false, Bool.false_eq_true, reduceCtorEq, Bool.and_self, Bool.or_self, Int.reduceBEq, Int.reduceBNe, Int.reduceNeg, decide_true, decide_false, Int.reduceLT, Int.reduceLE, Int.reduceGT]; done) | (show @Eq Bool _ _; simp only [a0, Int.toNat_natCast, Bool.cond_true_left, Bool.cond_false_right, Bool.cond_true_right, Bool.cond_false_left, cond_true, cond_false, Bool.not_true, Bool.not_false, Bool.not_not, Bool.and_true, Bool.true_and, Bool.and_false, Bool.false_and, Bool.or_true, Bool.true_or, Bool.or_false, Bool.false_or, beq_self_eq_true, bne_self_eq_false, Bool.true_eq_false, Bool.false_eq_true, reduceCtorEq, Bool.and_self, Bool.or_self, Int.reduceBEq, Int.reduceBNe, Int.reduceNeg, decide_true, decide_false, Int.reduceLT, Int.reduceLE, Int.reduceGT]; done) | skip
  · have hmn : m = v.n := by
      have : ¬ ((m : Int) < (v.n : Int)) := of_decide_eq_false h1
      omega
    subst hmn
    clear h1
    have hA2 : allO v.wl v.s v.n = true := allN_t hQ
    exact absurd (hA.symm.trans hA2) (by decide)
theorem d41 (v : Svy) : SF Try.prog 41 (V.atS [.agg (svyC v)] (I (svE v))) := by
  unfold svE okWls okLv
  cases p1 : decide ((60 : Int) < (v.n : Int)) with
  | true => exact sfault3 v p1
  | false =>
    cases p2 : decide (1 ≤ v.wl ∧ v.wl ≤ 10) with
    | false => exact sfault1 v p1 p2
    | true =>
      cases p3 : decide (-2000000000 ≤ v.lv ∧ v.lv ≤ 2000000000) with
      | false => exact sfault2 v p1 p2 p3
      | true =>
        cases hA : allO v.wl v.s v.n with
        | false => exact sfaultF v p1 p2 p3 hA
        | true => exact sfaultT v p1 p2 p3 hA
end Go.Proofs.Ytnjhbmcambofgaa
