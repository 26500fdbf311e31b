/- Layer 4: whether two lists of numbers are the same. -/
import Derived.Test.YtnjhbmcambofgaaS30
namespace Go.Proofs.Ytnjhbmcambofgaa
open Go.V
set_option linter.unusedSimpArgs false
set_option linter.unusedVariables false

def sameI (n m : Nat) (g h : Nat → List PV) : Bool := ((n : Int) == (m : Int)) && allN (fun i => intOf (g i) == intOf (h i)) n
def intsS : V.Spec
  | [.slice none n g, .slice none m h] => (some (isL intL n g ∧ isL intL m h), .bool (sameI n m g h))
  | _ => bad
set_option maxRecDepth 20000 in
set_option maxHeartbeats 1000000 in
theorem sf46 : SF Try.prog 46 intsS := by
  refine sf_of types_ok mixed (l := []) trivial (es := []) trivial 2 Try.func46 rfl (by kernel_rfl) fun args h => ?_
  unfold intsS at h
  split at h
  · rename_i n g m h0
    obtain ⟨hL, hM⟩ : isL intL n g ∧ isL intL m h0 := h
    obtain ⟨hn, s, rfl⟩ := isL.get hL
    obtain ⟨hm, t, rfl⟩ := isL.get hM
    refine ⟨rfl, ?_⟩
    show evalCode _ _ _ fun o => match o with
      | .normal st | .ret st => withP _ (_ ∧ PLe _ (.bool (sameI n m (fun i => intL (s i)) (fun i => intL (t i)))))
      | _ => False
    refine (Bool.eq_false_or_eq_true ((n : Int) == (m : Int))).elim (fun p1 => ?_) fun p1 => ?_
    · have p2 : ((n : Int) != (m : Int)) = false := by rw [bne, p1]; rfl
      have p3 : m = n := by
        have : (n : Int) = (m : Int) := by simpa using p1
        omega
      subst p3
      repeat' first | (exact PLe.refl _) | (exact BLe.refl _) | (exact PLeL.nil) | (exact BLeL.nil) | (refine ⟨?_, ?_⟩) | (refine PLeL.cons ?_ ?_) | (refine BLeL.cons ?_ ?_) | (refine ple_int ?_) | (refine ple_bool ?_) | (refine ple_tt ?_) | (refine ple_ff ?_) | (refine PLe.aggL ?_) | (refine PLe.tupL ?_) | (refine BLe.cellsL ?_) | (refine halt_rng (cnt 5) m [0, 1, 5] [] (fun x => [.slice none m fun i => intL (s i), .slice none m fun i => intL (t i), I (x : Nat)]) (fun x => []) (fun x => ∀ i, i < x → (s i == t i) = true) rfl (.mk ?_ ?_) (fun i hi => by omega) ?_) | (refine fun h => absurd h (by decide)) | (refine fun h => ?_; exfalso; simp only [p2, Int.toNat_natCast, Bool.cond_true_left, Bool.cond_false_right, Bool.cond_true_right, Bool.cond_false_left, cond_true, cond_false, Bool.not_true, Bool.not_false, Bool.not_not, Bool.and_true, Bool.true_and, Bool.and_false, Bool.false_and, Bool.or_true, Bool.true_or, Bool.or_false, Bool.false_or, beq_self_eq_true, bne_self_eq_false, Bool.true_eq_false, Bool.false_eq_true, reduceCtorEq, Bool.and_self, Bool.or_self, Int.reduceBEq, Int.reduceBNe, Int.reduceNeg, decide_true, decide_false, Int.reduceLT, Int.reduceLE, Int.reduceGT] at h; done) | (refine fun (h : @Eq Bool _ _) => ?_)
      all_goals first | trivial | rfl | omega | (simp only [p2, Int.toNat_natCast, Bool.cond_true_left, Bool.cond_false_right, Bool.cond_true_right, Bool.cond_false_left, cond_true, cond_false, Bool.not_true, Bool.not_false, Bool.not_not, Bool.and_true, Bool.true_and, Bool.and_false, Bool.false_and, Bool.or_true, Bool.true_or, Bool.or_false, Bool.false_or, beq_self_eq_true, bne_self_eq_false, Bool.true_eq_false, Bool.false_eq_true, reduceCtorEq, Bool.and_self, Bool.or_self, Int.reduceBEq, Int.reduceBNe, Int.reduceNeg, decide_true, decide_false, Int.reduceLT, Int.reduceLE, Int.reduceGT]; done) | (show @Eq Bool _ _; simp only [p2, Int.toNat_natCast, Bool.cond_true_left, Bool.cond_false_right, Bool.cond_true_right, Bool.cond_false_left, cond_true, cond_false, Bool.not_true, Bool.not_false, Bool.not_not, Bool.and_true, Bool.true_and, Bool.and_false, Bool.false_and, Bool.or_true, Bool.true_or, Bool.or_false, Bool.false_or, beq_self_eq_true, bne_self_eq_false, Bool.true_eq_false, Bool.false_eq_true, reduceCtorEq, Bool.and_self, Bool.or_self, Int.reduceBEq, Int.reduceBNe, Int.reduceNeg, decide_true, decide_false, Int.reduceLT, Int.reduceLE, Int.reduceGT]; done) | skip
      · intro x hx hQ
        refine ⟨fun h1 => ?_, fun h1 => ?_⟩
        · have hlt : x < m := by
            have : (x : Int) < (m : Int) := of_decide_eq_true h1
            omega
          have e1 := succ_w hlt hn
          clear h1
          refine (Bool.eq_false_or_eq_true (s x == t x)).elim (fun q1 => ?_) fun q1 => ?_
          · have q2 : (s x != t x) = false := by rw [bne, q1]; rfl
            have hQ' : ∀ i, i < x + 1 → (s i == t i) = true := fun i hi => by
              rcases Nat.lt_succ_iff_lt_or_eq.1 hi with h1 | rfl
              · exact hQ i h1
              · exact q1
            repeat' first | (exact PLe.refl _) | (exact BLe.refl _) | (exact PLeL.nil) | (exact BLeL.nil) | (refine ⟨?_, ?_⟩) | (refine PLeL.cons ?_ ?_) | (refine BLeL.cons ?_ ?_) | (refine ple_int ?_) | (refine ple_bool ?_) | (refine ple_tt ?_) | (refine ple_ff ?_) | (refine PLe.aggL ?_) | (refine PLe.tupL ?_) | (refine BLe.cellsL ?_) | (refine next_rng (cn := cnt 5) rfl (fun _ => rfl) hlt hQ' (.mk ?_ ?_)) | (refine fun h => absurd h (by decide)) | (refine fun h => ?_; exfalso; simp only [q2, Int.toNat_natCast, Bool.cond_true_left, Bool.cond_false_right, Bool.cond_true_right, Bool.cond_false_left, cond_true, cond_false, Bool.not_true, Bool.not_false, Bool.not_not, Bool.and_true, Bool.true_and, Bool.and_false, Bool.false_and, Bool.or_true, Bool.true_or, Bool.or_false, Bool.false_or, beq_self_eq_true, bne_self_eq_false, Bool.true_eq_false, Bool.false_eq_true, reduceCtorEq, Bool.and_self, Bool.or_self, Int.reduceBEq, Int.reduceBNe, Int.reduceNeg, decide_true, decide_false, Int.reduceLT, Int.reduceLE, Int.reduceGT] at h; done) | (refine fun (h : @Eq Bool _ _) => ?_)
            all_goals first | trivial | rfl | omega | (exact e1) | (simp only [q2, Int.toNat_natCast, Bool.cond_true_left, Bool.cond_false_right, Bool.cond_true_right, Bool.cond_false_left, cond_true, cond_false, Bool.not_true, Bool.not_false, Bool.not_not, Bool.and_true, Bool.true_and, Bool.and_false, Bool.false_and, Bool.or_true, Bool.true_or, Bool.or_false, Bool.false_or, beq_self_eq_true, bne_self_eq_false, Bool.true_eq_false, Bool.false_eq_true, reduceCtorEq, Bool.and_self, Bool.or_self, Int.reduceBEq, Int.reduceBNe, Int.reduceNeg, decide_true, decide_false, Int.reduceLT, Int.reduceLE, Int.reduceGT]; done) | (show @Eq Bool _ _; simp only [q2, Int.toNat_natCast, Bool.cond_true_left, Bool.cond_false_right, Bool.cond_true_right, Bool.cond_false_left, cond_true, cond_false, Bool.not_true, Bool.not_false, Bool.not_not, Bool.and_true, Bool.true_and, Bool.and_false, Bool.false_and, Bool.or_true, Bool.true_or, Bool.or_false, Bool.false_or, beq_self_eq_true, bne_self_eq_false, Bool.true_eq_false, Bool.false_eq_true, reduceCtorEq, Bool.and_self, Bool.or_self, Int.reduceBEq, Int.reduceBNe, Int.reduceNeg, decide_true, decide_false, Int.reduceLT, Int.reduceLE, Int.reduceGT]; done) | skip
          · have q2 : (s x != t x) = true := by rw [bne, q1]; rfl
            have eD : sameI m m (fun i => intL (s i)) (fun i => intL (t i)) = false := by
              unfold sameI
              rw [p1, Bool.true_and]
              exact allN_f hlt q1
            rw [eD]
            repeat' first | (exact PLe.refl _) | (exact BLe.refl _) | (exact PLeL.nil) | (exact BLeL.nil) | (refine ⟨?_, ?_⟩) | (refine PLeL.cons ?_ ?_) | (refine BLeL.cons ?_ ?_) | (refine ple_int ?_) | (refine ple_bool ?_) | (refine ple_tt ?_) | (refine ple_ff ?_) | (refine PLe.aggL ?_) | (refine PLe.tupL ?_) | (refine BLe.cellsL ?_) | (refine fun h => absurd h (by decide)) | (refine fun h => ?_; exfalso; simp only [q2, Int.toNat_natCast, Bool.cond_true_left, Bool.cond_false_right, Bool.cond_true_right, Bool.cond_false_left, cond_true, cond_false, Bool.not_true, Bool.not_false, Bool.not_not, Bool.and_true, Bool.true_and, Bool.and_false, Bool.false_and, Bool.or_true, Bool.true_or, Bool.or_false, Bool.false_or, beq_self_eq_true, bne_self_eq_false, Bool.true_eq_false, Bool.false_eq_true, reduceCtorEq, Bool.and_self, Bool.or_self, Int.reduceBEq, Int.reduceBNe, Int.reduceNeg, decide_true, decide_false, Int.reduceLT, Int.reduceLE, Int.reduceGT] at h; done) | (refine fun (h : @Eq Bool _ _) => ?_)
            all_goals first | trivial | rfl | omega | (simp only [q2, Int.toNat_natCast, Bool.cond_true_left, Bool.cond_false_right, Bool.cond_true_right, Bool.cond_false_left, cond_true, cond_false, Bool.not_true, Bool.not_false, Bool.not_not, Bool.and_true, Bool.true_and, Bool.and_false, Bool.false_and, Bool.or_true, Bool.true_or, Bool.or_false, Bool.false_or, beq_self_eq_true, bne_self_eq_false, Bool.true_eq_false, Bool.false_eq_true, reduceCtorEq, Bool.and_self, Bool.or_self, Int.reduceBEq, Int.reduceBNe, Int.reduceNeg, decide_true, decide_false, Int.reduceLT, Int.reduceLE, Int.reduceGT]; done) | (show @Eq Bool _ _; simp only [q2, Int.toNat_natCast, Bool.cond_true_left, Bool.cond_false_right, Bool.cond_true_right, Bool.cond_false_left, cond_true, cond_false, Bool.not_true, Bool.not_false, Bool.not_not, Bool.and_true, Bool.true_and, Bool.and_false, Bool.false_and, Bool.or_true, Bool.true_or, Bool.or_false, Bool.false_or, beq_self_eq_true, bne_self_eq_false, Bool.true_eq_false, Bool.false_eq_true, reduceCtorEq, Bool.and_self, Bool.or_self, Int.reduceBEq, Int.reduceBNe, Int.reduceNeg, decide_true, decide_false, Int.reduceLT, Int.reduceLE, Int.reduceGT]; done) | skip
        · have hxm : x = m := by
            have : ¬ ((x : Int) < (m : Int)) := of_decide_eq_false h1
            omega
          subst hxm
          clear h1
          have eD : sameI x x (fun i => intL (s i)) (fun i => intL (t i)) = true := by
            unfold sameI
            rw [p1, Bool.true_and]
            exact allN_t hQ
          rw [eD]
          repeat' first | (exact PLe.refl _) | (exact BLe.refl _) | (exact PLeL.nil) | (exact BLeL.nil) | (refine ⟨?_, ?_⟩) | (refine PLeL.cons ?_ ?_) | (refine BLeL.cons ?_ ?_) | (refine ple_int ?_) | (refine ple_bool ?_) | (refine ple_tt ?_) | (refine ple_ff ?_) | (refine PLe.aggL ?_) | (refine PLe.tupL ?_) | (refine BLe.cellsL ?_) | (refine fun h => absurd h (by decide)) | (refine fun (h : @Eq Bool _ _) => ?_)
          all_goals first | trivial | rfl | omega | skip
    · have p2 : ((n : Int) != (m : Int)) = true := by rw [bne, p1]; rfl
      have eD : sameI n m (fun i => intL (s i)) (fun i => intL (t i)) = false := by unfold sameI; rw [p1]; rfl
      rw [eD]
      repeat' first | (exact PLe.refl _) | (exact BLe.refl _) | (exact PLeL.nil) | (exact BLeL.nil) | (refine ⟨?_, ?_⟩) | (refine PLeL.cons ?_ ?_) | (refine BLeL.cons ?_ ?_) | (refine ple_int ?_) | (refine ple_bool ?_) | (refine ple_tt ?_) | (refine ple_ff ?_) | (refine PLe.aggL ?_) | (refine PLe.tupL ?_) | (refine BLe.cellsL ?_) | (refine fun h => absurd h (by decide)) | (refine fun h => ?_; exfalso; simp only [p2, Int.toNat_natCast, Bool.cond_true_left, Bool.cond_false_right, Bool.cond_true_right, Bool.cond_false_left, cond_true, cond_false, Bool.not_true, Bool.not_false, Bool.not_not, Bool.and_true, Bool.true_and, Bool.and_false, Bool.false_and, Bool.or_true, Bool.true_or, Bool.or_false, Bool.false_or, beq_self_eq_true, bne_self_eq_false, Bool.true_eq_false, Bool.false_eq_true, reduceCtorEq, Bool.and_self, Bool.or_self, Int.reduceBEq, Int.reduceBNe, Int.reduceNeg, decide_true, decide_false, Int.reduceLT, Int.reduceLE, Int.reduceGT] at h; done) | (refine fun (h : @Eq Bool _ _) => ?_)
      all_goals first | trivial | rfl | omega | (simp only [p2, Int.toNat_natCast, Bool.cond_true_left, Bool.cond_false_right, Bool.cond_true_right, Bool.cond_false_left, cond_true, cond_false, Bool.not_true, Bool.not_false, Bool.not_not, Bool.and_true, Bool.true_and, Bool.and_false, Bool.false_and, Bool.or_true, Bool.true_or, Bool.or_false, Bool.false_or, beq_self_eq_true, bne_self_eq_false, Bool.true_eq_false, Bool.false_eq_true, reduceCtorEq, Bool.and_self, Bool.or_self, Int.reduceBEq, Int.reduceBNe, Int.reduceNeg, decide_true, decide_false, Int.reduceLT, Int.reduceLE, Int.reduceGT]; done) | (show @Eq Bool _ _; simp only [p2, Int.toNat_natCast, Bool.cond_true_left, Bool.cond_false_right, Bool.cond_true_right, Bool.cond_false_left, cond_true, cond_false, Bool.not_true, Bool.not_false, Bool.not_not, Bool.and_true, Bool.true_and, Bool.and_false, Bool.false_and, Bool.or_true, Bool.true_or, Bool.or_false, Bool.false_or, beq_self_eq_true, bne_self_eq_false, Bool.true_eq_false, Bool.false_eq_true, reduceCtorEq, Bool.and_self, Bool.or_self, Int.reduceBEq, Int.reduceBNe, Int.reduceNeg, decide_true, decide_false, Int.reduceLT, Int.reduceLE, Int.reduceGT]; done) | skip
  · exact h.elim
inductive okInts (n : Nat) (g : Nat → List PV) : Prop
  | mk (hn : n ≤ 1000) (h : ∀ i, i < n → ∃ x : Int, g i = intL x)
  | no (h : False)
def intsS2 : V.Spec
  | [.slice none n g, .slice none m h] => (some (okInts n g ∧ okInts m h), .bool (sameI n m g h))
  | _ => bad
theorem okInts.get {n : Nat} {g : Nat → List PV} (h : okInts n g) : n ≤ 1000 ∧ ∃ f : Nat → Int, ∀ i, i < n → g i = intL (f i) := by
  cases h with
  | no h => exact h.elim
  | mk hn h => exact ⟨hn, fun i => if h1 : i < n then Classical.choose (h i h1) else 0, fun i h1 => by simp only [dif_pos h1]; exact Classical.choose_spec (h i h1)⟩
theorem sf46b : SF Try.prog 46 intsS2 := by
  refine sf_args sf46 fun args h => ?_
  unfold intsS2 at h ⊢
  split at h
  · rename_i n g m h0
    obtain ⟨hg, hh⟩ : okInts n g ∧ okInts m h0 := h
    obtain ⟨hn, f, hf⟩ := hg.get
    obtain ⟨hm, f', hf'⟩ := hh.get
    refine ⟨[.slice none n fun i => intL (f i), .slice none m fun i => intL (f' i)], rfl, ?_, ?_, ?_⟩
    · intro i hi
      match i, hi with
      | 0, _ => exact .slice _ _ _ _ fun i hi => hf i hi
      | 1, _ => exact .slice _ _ _ _ fun i hi => hf' i hi
    · exact ⟨.mk f (by omega) rfl, .mk f' (by omega) rfl⟩
    · refine congrArg PV.bool ?_
      unfold sameI
      cases hd : ((n : Int) == (m : Int)) with
      | false => rfl
      | true =>
        have : n = m := by
          have : (n : Int) = (m : Int) := by simpa using hd
          omega
        subst this
        simp only [Bool.true_and]
        cases hb : allN (fun i => intOf (g i) == intOf (h0 i)) n with
        | true => exact allN_t fun i hi => by have := allN_all hb i hi; rw [hf i hi, hf' i hi] at this; exact this
        | false =>
          cases hc : allN (fun i => intOf (intL (f i)) == intOf (intL (f' i))) n with
          | false => rfl
          | true =>
            rw [← hb, eq_comm]
            exact allN_t fun i hi => by have := allN_all hc i hi; rw [hf i hi, hf' i hi]; exact this
  · exact h.elim
end Go.Proofs.Ytnjhbmcambofgaa
