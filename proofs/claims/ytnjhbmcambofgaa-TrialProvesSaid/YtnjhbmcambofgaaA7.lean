/- Layer 4: the law on proofs of none: the right list, changed. -/
import Derived.Test.YtnjhbmcambofgaaA7s
namespace Go.Proofs.Ytnjhbmcambofgaa
open Go.V
set_option linter.unusedSimpArgs false
set_option linter.unusedVariables false

set_option maxRecDepth 20000 in
set_option maxHeartbeats 2000000 in
theorem prv3 (t : Tst) (m : Nat) (p : Nat → Int × Int) (a x y : Int) (hn : t.n ≤ 20) (hm : m ≤ 1700) (pr : (tfE t == 0) = true) (hok : okT t) (h0 : 0 ≤ a) (h1 : a < ((QL t).length : Int)) : SF Try.prog 7 (V.atS [.agg (tstC t), .slice none m fun i => pairL (p i), .bool true, I a, .agg [I x, I y]] (.bool true)) := by
  have p0 : decide ((20 : Int) < (t.n : Int)) = false := decide_eq_false (by omega)
  have p00 : decide ((1700 : Int) < (m : Int)) = false := decide_eq_false (by omega)
  have hQ := QL_len hok
  have hn12 := hok.n
  have ew : IntKind.i64.wrap (((QL t).length : Int) - 1) = ((QL t).length : Int) - 1 := wi (by omega)
  have w1 : decide (0 ≤ a ∧ a ≤ IntKind.i64.wrap (((QL t).length : Int) - 1)) = true := decide_eq_true (by omega)
  have w2 : (a == ((QL t).length : Int)) = false := by rw [beq_eq_false_iff_ne]; omega
  have hq : ∀ i, i < (QL t).length → (bif Nat.beq i a.toNat then fillL (getP (QL t) a.toNat) 0 [I x, I y] else getP (QL t) i) = pairL (q3 t a.toNat (x, y) i) := fun i _ => by
    unfold q3
    cases Nat.beq i a.toNat <;> rfl
  have hs : ∀ i, i < (QL t).length → (bif Nat.beq i a.toNat then fillL (getP (QL t) a.toNat) 0 [I x, I y] else getP (QL t) i).length = 2 ∧ (bif Nat.beq i a.toNat then fillL (getP (QL t) a.toNat) 0 [I x, I y] else getP (QL t) i).all sc1 = true := fun i _ => by
    cases Nat.beq i a.toNat <;> exact ⟨rfl, rfl⟩
  refine sf_gen types_ok mixed (l := [(18, V.atS [] (.bool true)), (21, V.atS [.agg (tstC t)] (I (tfE t))), (20, V.atS [.agg (tstC t)] (.agg (tstC t))), (30, withinS), (39, pairsS t (q3 t a.toNat (x, y)) ((QL t).length) (.bool (prvB t ((QL t).length) (q3 t a.toNat (x, y))))), (40, pairsS t (q3 t a.toNat (x, y)) ((QL t).length) (.bool (prvB t ((QL t).length) (q3 t a.toNat (x, y)))))]) ⟨sf18, c21 t (by omega), c20 t (by omega), sf30, sf_pairs (c39 t (by omega) ((QL t).length) (q3 t a.toNat (x, y)) (by omega)), sf_pairs (c40 t hok ((QL t).length) (q3 t a.toNat (x, y)) (by omega)), trivial⟩ (es := []) trivial (its := []) trivial (fr := [(37, 67, 2, refConsS)]) ⟨sff37, trivial⟩ [(7, [.own 1 [3, 5, 9, 11] [5, 9]]), (10, [.frz 1 [5, 11] [5]])] [30] false [] [] 5 Try.func7 rfl (by kernel_rfl) fun args h => ?_
  have h : args = _ := h
  subst h
  refine ⟨rfl, ?_⟩
  show evalCode _ _ _ fun o => match o with
    | .normal st | .ret st => withP _ (_ ∧ PLe _ (.bool true))
    | _ => False
  repeat' first | (refine fun h => absurd (h.symm.trans w1) (by decide)) | (refine fun h => absurd (h.symm.trans w2) (by decide)) | (exact PLe.refl _) | (exact BLe.refl _) | (exact PLeL.nil) | (exact BLeL.nil) | (refine ⟨?_, ?_⟩) | (refine PLeL.cons ?_ ?_) | (refine BLeL.cons ?_ ?_) | (refine ple_int ?_) | (refine ple_bool ?_) | (refine ple_tt ?_) | (refine ple_ff ?_) | (refine PLe.aggL ?_) | (refine PLe.tupL ?_) | (refine BLe.cellsL ?_) | (refine fun h => absurd h (by decide)) | (refine fun h => ?_; exfalso; simp only [p0, p00, pr, Int.toNat_natCast, Bool.cond_true_left, Bool.cond_false_right, Bool.cond_true_right, Bool.cond_false_left, cond_true, cond_false, Bool.not_true, Bool.not_false, Bool.not_not, Bool.and_true, Bool.true_and, Bool.and_false, Bool.false_and, Bool.or_true, Bool.true_or, Bool.or_false, Bool.false_or, beq_self_eq_true, bne_self_eq_false, Bool.true_eq_false, Bool.false_eq_true, reduceCtorEq, Bool.and_self, Bool.or_self, Int.reduceBEq, Int.reduceBNe, Int.reduceNeg, decide_true, decide_false, Int.reduceLT, Int.reduceLE, Int.reduceGT] at h; done) | (refine fun (h : @Eq Bool _ _) => ?_)
  all_goals first | trivial | rfl | omega | (show (0 + (QL t).length) * 16 ≤ 140737488355328; omega) | (exact Nat.zero_add _) | (intro i hi; exact absurd hi (by omega)) | (intro i hi; exact ⟨rfl, rfl⟩) | (intro i hi; rfl) | (exact .mk hok rfl) | (intro i hi; exact ⟨rfl, rfl⟩) | (exact hq) | (exact hs) | (show 0 + (QL t).length < 2147483648; omega) | (exact h0) | (exact h1) | (show a.toNat < (QL t).length; omega) | (show 0 < (QL t).length; omega) | (exact Nat.le_refl 2) | (simp only [p0, p00, pr, Int.toNat_natCast, Bool.cond_true_left, Bool.cond_false_right, Bool.cond_true_right, Bool.cond_false_left, cond_true, cond_false, Bool.not_true, Bool.not_false, Bool.not_not, Bool.and_true, Bool.true_and, Bool.and_false, Bool.false_and, Bool.or_true, Bool.true_or, Bool.or_false, Bool.false_or, beq_self_eq_true, bne_self_eq_false, Bool.true_eq_false, Bool.false_eq_true, reduceCtorEq, Bool.and_self, Bool.or_self, Int.reduceBEq, Int.reduceBNe, Int.reduceNeg, decide_true, decide_false, Int.reduceLT, Int.reduceLE, Int.reduceGT]; done) | (show @Eq Bool _ _; simp only [p0, p00, pr, Int.toNat_natCast, Bool.cond_true_left, Bool.cond_false_right, Bool.cond_true_right, Bool.cond_false_left, cond_true, cond_false, Bool.not_true, Bool.not_false, Bool.not_not, Bool.and_true, Bool.true_and, Bool.and_false, Bool.false_and, Bool.or_true, Bool.true_or, Bool.or_false, Bool.false_or, beq_self_eq_true, bne_self_eq_false, Bool.true_eq_false, Bool.false_eq_true, reduceCtorEq, Bool.and_self, Bool.or_self, Int.reduceBEq, Int.reduceBNe, Int.reduceNeg, decide_true, decide_false, Int.reduceLT, Int.reduceLE, Int.reduceGT]; done) | skip
set_option maxRecDepth 20000 in
set_option maxHeartbeats 2000000 in
theorem prv4 (t : Tst) (m : Nat) (p : Nat → Int × Int) (a x y : Int) (hn : t.n ≤ 20) (hm : m ≤ 1700) (pr : (tfE t == 0) = true) (hok : okT t) (h1 : a = ((QL t).length : Int)) : SF Try.prog 7 (V.atS [.agg (tstC t), .slice none m fun i => pairL (p i), .bool true, I a, .agg [I x, I y]] (.bool true)) := by
  have p0 : decide ((20 : Int) < (t.n : Int)) = false := decide_eq_false (by omega)
  have p00 : decide ((1700 : Int) < (m : Int)) = false := decide_eq_false (by omega)
  have hQ := QL_len hok
  have hn12 := hok.n
  have ew : IntKind.i64.wrap (((QL t).length : Int) - 1) = ((QL t).length : Int) - 1 := wi (by omega)
  have w1 : decide (0 ≤ a ∧ a ≤ IntKind.i64.wrap (((QL t).length : Int) - 1)) = false := decide_eq_false (by omega)
  have w2 : (a == ((QL t).length : Int)) = true := by rw [h1]; exact beq_self_eq_true _
  have hq : ∀ i, i < (QL t).length + 1 → (bif Nat.blt i (QL t).length then getP (QL t) i else (fun j => List.take 2 (List.drop (j * 2) (List.map toView [I x, I y]))) (i - (QL t).length)) = pairL (q4 t (x, y) i) := fun i hi => by
    unfold q4
    by_cases hl : i < (QL t).length
    · rw [blt_t hl]; rfl
    · obtain rfl : i = (QL t).length := by omega
      rw [blt_f hl, Nat.sub_self]; rfl
  have hs : ∀ i, i < (QL t).length + 1 → (bif Nat.blt i (QL t).length then getP (QL t) i else (fun j => List.take 2 (List.drop (j * 2) (List.map toView [I x, I y]))) (i - (QL t).length)).length = 2 ∧ (bif Nat.blt i (QL t).length then getP (QL t) i else (fun j => List.take 2 (List.drop (j * 2) (List.map toView [I x, I y]))) (i - (QL t).length)).all sc1 = true := fun i hi => by
    by_cases hl : i < (QL t).length
    · rw [blt_t hl]; exact ⟨rfl, rfl⟩
    · obtain rfl : i = (QL t).length := by omega
      rw [blt_f hl, Nat.sub_self]; exact ⟨rfl, rfl⟩
  refine sf_gen types_ok mixed (l := [(18, V.atS [] (.bool true)), (21, V.atS [.agg (tstC t)] (I (tfE t))), (20, V.atS [.agg (tstC t)] (.agg (tstC t))), (30, withinS), (39, pairsS t (q4 t (x, y)) ((QL t).length + 1) (.bool (prvB t ((QL t).length + 1) (q4 t (x, y))))), (40, pairsS t (q4 t (x, y)) ((QL t).length + 1) (.bool (prvB t ((QL t).length + 1) (q4 t (x, y)))))]) ⟨sf18, c21 t (by omega), c20 t (by omega), sf30, sf_pairs (c39 t (by omega) ((QL t).length + 1) (q4 t (x, y)) (by omega)), sf_pairs (c40 t hok ((QL t).length + 1) (q4 t (x, y)) (by omega)), trivial⟩ (es := []) trivial (its := []) trivial (fr := [(37, 67, 2, refConsS)]) ⟨sff37, trivial⟩ [(10, [.frz 1 [5, 11] [5]])] [30] false [] [] 5 Try.func7 rfl (by kernel_rfl) fun args h => ?_
  have h : args = _ := h
  subst h
  refine ⟨rfl, ?_⟩
  show evalCode _ _ _ fun o => match o with
    | .normal st | .ret st => withP _ (_ ∧ PLe _ (.bool true))
    | _ => False
  repeat' first | (refine fun h => absurd (h.symm.trans w1) (by decide)) | (refine fun h => absurd (h.symm.trans w2) (by decide)) | (exact PLe.refl _) | (exact BLe.refl _) | (exact PLeL.nil) | (exact BLeL.nil) | (refine ⟨?_, ?_⟩) | (refine PLeL.cons ?_ ?_) | (refine BLeL.cons ?_ ?_) | (refine ple_int ?_) | (refine ple_bool ?_) | (refine ple_tt ?_) | (refine ple_ff ?_) | (refine PLe.aggL ?_) | (refine PLe.tupL ?_) | (refine BLe.cellsL ?_) | (refine fun h => absurd h (by decide)) | (refine fun h => ?_; exfalso; simp only [p0, p00, pr, Int.toNat_natCast, Bool.cond_true_left, Bool.cond_false_right, Bool.cond_true_right, Bool.cond_false_left, cond_true, cond_false, Bool.not_true, Bool.not_false, Bool.not_not, Bool.and_true, Bool.true_and, Bool.and_false, Bool.false_and, Bool.or_true, Bool.true_or, Bool.or_false, Bool.false_or, beq_self_eq_true, bne_self_eq_false, Bool.true_eq_false, Bool.false_eq_true, reduceCtorEq, Bool.and_self, Bool.or_self, Int.reduceBEq, Int.reduceBNe, Int.reduceNeg, decide_true, decide_false, Int.reduceLT, Int.reduceLE, Int.reduceGT] at h; done) | (refine fun (h : @Eq Bool _ _) => ?_)
  all_goals first | trivial | (exact hq) | (exact hs) | (intro i9 hi9; have h9 := Nat.lt_one_iff.1 hi9; subst h9; exact ⟨rfl, rfl⟩) | (show 0 + ((QL t).length + 1) < 2147483648; omega) | (show (QL t).length + 1 < 2147483648; omega) | (show ((QL t).length + 1) * 16 ≤ 140737488355328; omega) | (show (0 + ((QL t).length + 1)) * 16 ≤ 140737488355328; omega) | (exact Nat.zero_add _) | (exact .mk hok rfl) | omega | (show (0 + (QL t).length + 1) * 16 ≤ 140737488355328; omega) | (intro i hi; exact absurd hi (by omega)) | (intro i hi; exact ⟨rfl, rfl⟩) | (intro i hi; rfl) | (intro i hi; exact ⟨rfl, rfl⟩) | (simp only [p0, p00, pr, Int.toNat_natCast, Bool.cond_true_left, Bool.cond_false_right, Bool.cond_true_right, Bool.cond_false_left, cond_true, cond_false, Bool.not_true, Bool.not_false, Bool.not_not, Bool.and_true, Bool.true_and, Bool.and_false, Bool.false_and, Bool.or_true, Bool.true_or, Bool.or_false, Bool.false_or, beq_self_eq_true, bne_self_eq_false, Bool.true_eq_false, Bool.false_eq_true, reduceCtorEq, Bool.and_self, Bool.or_self, Int.reduceBEq, Int.reduceBNe, Int.reduceNeg, decide_true, decide_false, Int.reduceLT, Int.reduceLE, Int.reduceGT]; done) | (show @Eq Bool _ _; simp only [p0, p00, pr, Int.toNat_natCast, Bool.cond_true_left, Bool.cond_false_right, Bool.cond_true_right, Bool.cond_false_left, cond_true, cond_false, Bool.not_true, Bool.not_false, Bool.not_not, Bool.and_true, Bool.true_and, Bool.and_false, Bool.false_and, Bool.or_true, Bool.true_or, Bool.or_false, Bool.false_or, beq_self_eq_true, bne_self_eq_false, Bool.true_eq_false, Bool.false_eq_true, reduceCtorEq, Bool.and_self, Bool.or_self, Int.reduceBEq, Int.reduceBNe, Int.reduceNeg, decide_true, decide_false, Int.reduceLT, Int.reduceLE, Int.reduceGT]; done) | skip
set_option maxRecDepth 20000 in
set_option maxHeartbeats 2000000 in
theorem prv5 (t : Tst) (m : Nat) (p : Nat → Int × Int) (a x y : Int) (hn : t.n ≤ 20) (hm : m ≤ 1700) (pr : (tfE t == 0) = true) (hok : okT t) (h1 : ¬ (0 ≤ a ∧ a ≤ ((QL t).length : Int))) : SF Try.prog 7 (V.atS [.agg (tstC t), .slice none m fun i => pairL (p i), .bool true, I a, .agg [I x, I y]] (.bool true)) := by
  have p0 : decide ((20 : Int) < (t.n : Int)) = false := decide_eq_false (by omega)
  have p00 : decide ((1700 : Int) < (m : Int)) = false := decide_eq_false (by omega)
  have hQ := QL_len hok
  have hn12 := hok.n
  have ew : IntKind.i64.wrap (((QL t).length : Int) - 1) = ((QL t).length : Int) - 1 := wi (by omega)
  have w1 : decide (0 ≤ a ∧ a ≤ IntKind.i64.wrap (((QL t).length : Int) - 1)) = false := decide_eq_false (by omega)
  have w2 : (a == ((QL t).length : Int)) = false := by rw [beq_eq_false_iff_ne]; omega
  refine sf_gen types_ok mixed (l := [(18, V.atS [] (.bool true)), (21, V.atS [.agg (tstC t)] (I (tfE t))), (20, V.atS [.agg (tstC t)] (.agg (tstC t))), (30, withinS), (39, pairsS t (q5 t) ((QL t).length) (.bool (prvB t ((QL t).length) (q5 t)))), (40, pairsS t (q5 t) ((QL t).length) (.bool (prvB t ((QL t).length) (q5 t))))]) ⟨sf18, c21 t (by omega), c20 t (by omega), sf30, sf_pairs (c39 t (by omega) ((QL t).length) (q5 t) (by omega)), sf_pairs (c40 t hok ((QL t).length) (q5 t) (by omega)), trivial⟩ (es := []) trivial (its := []) trivial (fr := [(37, 67, 2, refConsS)]) ⟨sff37, trivial⟩ [(10, [.frz 1 [5, 11] [5]])] [30] false [] [] 5 Try.func7 rfl (by kernel_rfl) fun args h => ?_
  have h : args = _ := h
  subst h
  refine ⟨rfl, ?_⟩
  show evalCode _ _ _ fun o => match o with
    | .normal st | .ret st => withP _ (_ ∧ PLe _ (.bool true))
    | _ => False
  repeat' first | (refine fun h => absurd (h.symm.trans w1) (by decide)) | (refine fun h => absurd (h.symm.trans w2) (by decide)) | (exact PLe.refl _) | (exact BLe.refl _) | (exact PLeL.nil) | (exact BLeL.nil) | (refine ⟨?_, ?_⟩) | (refine PLeL.cons ?_ ?_) | (refine BLeL.cons ?_ ?_) | (refine ple_int ?_) | (refine ple_bool ?_) | (refine ple_tt ?_) | (refine ple_ff ?_) | (refine PLe.aggL ?_) | (refine PLe.tupL ?_) | (refine BLe.cellsL ?_) | (refine fun h => absurd h (by decide)) | (refine fun h => ?_; exfalso; simp only [p0, p00, pr, Int.toNat_natCast, Bool.cond_true_left, Bool.cond_false_right, Bool.cond_true_right, Bool.cond_false_left, cond_true, cond_false, Bool.not_true, Bool.not_false, Bool.not_not, Bool.and_true, Bool.true_and, Bool.and_false, Bool.false_and, Bool.or_true, Bool.true_or, Bool.or_false, Bool.false_or, beq_self_eq_true, bne_self_eq_false, Bool.true_eq_false, Bool.false_eq_true, reduceCtorEq, Bool.and_self, Bool.or_self, Int.reduceBEq, Int.reduceBNe, Int.reduceNeg, decide_true, decide_false, Int.reduceLT, Int.reduceLE, Int.reduceGT] at h; done) | (refine fun (h : @Eq Bool _ _) => ?_)
  all_goals first | trivial | rfl | omega | (show (0 + (QL t).length) * 16 ≤ 140737488355328; omega) | (exact Nat.zero_add _) | (intro i hi; exact absurd hi (by omega)) | (intro i hi; exact ⟨rfl, rfl⟩) | (intro i hi; rfl) | (exact .mk hok rfl) | (intro i hi; exact ⟨rfl, rfl⟩) | (show 0 + (QL t).length < 2147483648; omega) | (simp only [p0, p00, pr, Int.toNat_natCast, Bool.cond_true_left, Bool.cond_false_right, Bool.cond_true_right, Bool.cond_false_left, cond_true, cond_false, Bool.not_true, Bool.not_false, Bool.not_not, Bool.and_true, Bool.true_and, Bool.and_false, Bool.false_and, Bool.or_true, Bool.true_or, Bool.or_false, Bool.false_or, beq_self_eq_true, bne_self_eq_false, Bool.true_eq_false, Bool.false_eq_true, reduceCtorEq, Bool.and_self, Bool.or_self, Int.reduceBEq, Int.reduceBNe, Int.reduceNeg, decide_true, decide_false, Int.reduceLT, Int.reduceLE, Int.reduceGT]; done) | (show @Eq Bool _ _; simp only [p0, p00, pr, Int.toNat_natCast, Bool.cond_true_left, Bool.cond_false_right, Bool.cond_true_right, Bool.cond_false_left, cond_true, cond_false, Bool.not_true, Bool.not_false, Bool.not_not, Bool.and_true, Bool.true_and, Bool.and_false, Bool.false_and, Bool.or_true, Bool.true_or, Bool.or_false, Bool.false_or, beq_self_eq_true, bne_self_eq_false, Bool.true_eq_false, Bool.false_eq_true, reduceCtorEq, Bool.and_self, Bool.or_self, Int.reduceBEq, Int.reduceBNe, Int.reduceNeg, decide_true, decide_false, Int.reduceLT, Int.reduceLE, Int.reduceGT]; done) | skip
theorem prvA (t : Tst) (m : Nat) (p : Nat → Int × Int) (ow : Bool) (a x y : Int) : SF Try.prog 7 (V.atS [.agg (tstC t), .slice none m fun i => pairL (p i), .bool ow, I a, .agg [I x, I y]] (.bool true)) := by
  by_cases hn : t.n ≤ 20
  · by_cases hm : m ≤ 1700
    · cases pr : (tfE t == 0) with
      | false =>
        cases ow with
        | true => exact prvNt t m p a x y hn hm pr
        | false => exact prvNf t m p a x y hn hm pr
      | true =>
        have hok : okT t := tfE_ok (by simpa using pr)
        cases ow with
        | false => exact prvP t m p a x y hn hm pr hok
        | true =>
          by_cases h1 : a = ((QL t).length : Int)
          · exact prv4 t m p a x y hn hm pr hok h1
          · by_cases h2 : 0 ≤ a ∧ a < ((QL t).length : Int)
            · exact prv3 t m p a x y hn hm pr hok h2.1 h2.2
            · exact prv5 t m p a x y hn hm pr hok (by omega)
    · exact prvBig2 t m p a x y ow hn (by omega)
  · exact prvBig1 t m p a x y ow (by omega)
end Go.Proofs.Ytnjhbmcambofgaa
