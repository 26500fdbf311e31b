/- Layer 4: conditions for all elements; common parts; what encloses. -/
import Derived.Test.YtnjhbmcambofgaaS1
namespace Go.Proofs.Ytnjhbmcambofgaa
open Go.V
set_option linter.unusedSimpArgs false

def allN (f : Nat → Bool) : Nat → Bool
  | 0 => true
  | n + 1 => allN f n && f n
theorem allN_t {f : Nat → Bool} : ∀ {n : Nat}, (∀ i, i < n → f i = true) → allN f n = true
  | 0, _ => rfl
  | n + 1, h => by simp only [allN, allN_t fun i hi => h i (Nat.lt_succ_of_lt hi), h n (Nat.lt_succ_self n), Bool.and_self]
theorem allN_all {f : Nat → Bool} : ∀ {n : Nat}, allN f n = true → ∀ i, i < n → f i = true
  | 0, _, i, hi => by omega
  | n + 1, h, i, hi => by
    simp only [allN, Bool.and_eq_true] at h
    rcases Nat.lt_succ_iff_lt_or_eq.1 hi with h1 | rfl
    · exact allN_all h.1 i h1
    · exact h.2
theorem allN_f {f : Nat → Bool} {n m : Nat} (hm : m < n) (h : f m = false) : allN f n = false := by
  cases hb : allN f n with
  | false => rfl
  | true => rw [allN_all hb m hm] at h; cases h
theorem allN_iff {f : Nat → Bool} {n : Nat} : allN f n = true ↔ ∀ i, i < n → f i = true := ⟨allN_all, allN_t⟩
inductive isL {α : Type} (enc : α → List PV) (n : Nat) (get : Nat → List PV) : Prop
  | mk (s : Nat → α) (hn : n ≤ 4611686018427387904) (e : get = fun i => enc (s i))
  | no (h : False)
theorem isL.get {α : Type} {enc : α → List PV} {n : Nat} {get : Nat → List PV} (h : isL enc n get) : n ≤ 4611686018427387904 ∧ ∃ s : Nat → α, get = fun i => enc (s i) := by
  cases h with
  | mk s hn e => exact ⟨hn, s, e⟩
  | no h => exact h.elim
def intL (n : Int) : List PV := [I n]
def intOf : List PV → Int
  | [.int .i64 n] => n
  | _ => 0
theorem succ_w {m n : Nat} (h : m < n) (hn : n ≤ 4611686018427387904) : IntKind.i64.wrap ((m : Int) + 1) = ((m + 1 : Nat) : Int) := by rw [w64 (by omega) (by omega)]; omega
def agrees1S : V.Spec
  | [.agg [.int .i64 q, .int .i64 a, .int .i64 b], .cptr [.int .i64 A, .int .i64 B, .int .i64 C]] => (none, .bool (decide (a ≤ dropI A B C q ∧ dropI A B C q ≤ b)))
  | _ => bad
theorem sf70 : SF Try.prog 70 agrees1S := by
  refine sf_of types_ok mixed (l := [(71, atQS), (69, hasS)]) ⟨sf71, sf69, trivial⟩ (es := []) trivial 2 Try.func70 rfl (by kernel_rfl) fun args h => ?_
  unfold agrees1S at h
  split at h
  · rename_i q a b A B C
    clear h
    refine ⟨rfl, ?_⟩
    repeat' first | (exact PLe.refl _) | (exact BLe.refl _) | (exact PLeL.nil) | (exact BLeL.nil) | (refine ⟨?_, ?_⟩) | (refine PLeL.cons ?_ ?_) | (refine BLeL.cons ?_ ?_) | (refine ple_int ?_) | (refine ple_bool ?_) | (refine ple_tt ?_) | (refine ple_ff ?_) | (refine PLe.aggL ?_) | (refine PLe.tupL ?_) | (refine BLe.cellsL ?_) | (refine fun h => absurd h (by decide)) | (refine fun (h : @Eq Bool _ _) => ?_)
    all_goals first | trivial | rfl | omega | skip
    all_goals first | trivial | (show @Eq Int _ _) | (show @Eq Bool _ _) | skip
    all_goals try simp only [w, cond_true, cond_false, Bool.not_eq_true', Bool.not_eq_false', decide_eq_true_eq, decide_eq_false_iff_not, bne_iff_ne, bne_eq_false_iff_eq, beq_iff_eq, beq_eq_false_iff_ne, ne_eq, ite_eq_left_iff, Decidable.not_not, Bool.and_eq_true, Bool.or_eq_true, Bool.and_eq_false_iff, Bool.or_eq_false_iff, not_and, Bool.not_true, Bool.not_false] at *
    all_goals try simp (disch := omega) only [w64, if_pos, if_neg] at *
    all_goals first | trivial | omega | (split <;> omega) | (rw [if_pos (by omega)]; omega) | (rw [if_neg (by omega)]; omega) | (refine decide_eq_decide.2 ?_; omega) | (refine decide_eq_true ?_; omega) | (refine decide_eq_false ?_; omega)
  · exact h.elim
def everyVS : V.Spec
  | [.slice none n get, .fn (.func 68) [] []] => (some (isL stpL n get), .bool (allN (fun i => decide (okStp (stpOf (get i)).q (stpOf (get i)).lo (stpOf (get i)).hi)) n))
  | _ => bad
set_option maxRecDepth 20000 in
theorem sf67a : SF Try.prog 67 everyVS := by
  refine sf_of types_ok mixed (l := [(68, validS)]) ⟨sf68, trivial⟩ (es := []) trivial 2 Try.func67 rfl (by kernel_rfl) fun args h => ?_
  unfold everyVS at h
  split at h
  · rename_i n get
    obtain ⟨hn, s, rfl⟩ := isL.get h
    clear h
    refine ⟨rfl, ?_⟩
    show evalCode _ _ _ fun o => match o with
      | .normal st | .ret st => withP _ (_ ∧ PLe _ (.bool (allN (fun i => decide (okStp (s i).q (s i).lo (s i).hi)) n)))
      | _ => False
    refine halt_rng (cnt 9) n [1, 7, 8, 9] [] (fun m => [.fn (.func 68) [] [], .slice none n fun i => stpL (s i), I n, I m]) (fun m => []) (fun m => ∀ i, i < m → (decide (okStp (s i).q (s i).lo (s i).hi)) = true) rfl ?_ (fun i hi => by omega) ?_
    · repeat' first | (exact PLe.refl _) | (exact PLeL.nil) | (exact BLeL.nil) | (refine ⟨?_, ?_⟩) | (refine PLeL.cons ?_ ?_)
    · intro m hm hq
      refine ⟨fun h1 => ?_, fun h1 => ?_⟩
      · have hlt : m < n := by simpa using h1
        have e1 := succ_w hlt hn
        clear h1
        cases hp : (decide (okStp (s m).q (s m).lo (s m).hi)) with
        | true =>
          have hq' : ∀ i, i < m + 1 → (decide (okStp (s i).q (s i).lo (s i).hi)) = true := fun i hi => by
            rcases Nat.lt_succ_iff_lt_or_eq.1 hi with h1 | rfl
            · exact hq i h1
            · exact hp
          repeat' first | (exact PLe.refl _) | (exact BLe.refl _) | (exact PLeL.nil) | (exact BLeL.nil) | (refine ⟨?_, ?_⟩) | (refine PLeL.cons ?_ ?_) | (refine BLeL.cons ?_ ?_) | (refine ple_int ?_) | (refine ple_bool ?_) | (refine ple_tt ?_) | (refine ple_ff ?_) | (refine PLe.aggL ?_) | (refine PLe.tupL ?_) | (refine BLe.cellsL ?_) | (refine next_rng (cn := cnt 9) rfl (fun _ => rfl) hlt hq' ?_) | (refine fun h => absurd h (by decide)) | (refine fun h => ?_; exfalso; simp only [hp, Int.toNat_natCast, Bool.cond_true_left, Bool.cond_false_right, Bool.cond_true_right, Bool.cond_false_left, cond_true, cond_false, Bool.not_true, Bool.not_false, Bool.not_not, Bool.and_true, Bool.true_and, Bool.and_false, Bool.false_and, Bool.or_true, Bool.true_or, Bool.or_false, Bool.false_or, beq_self_eq_true, bne_self_eq_false, Bool.true_eq_false, Bool.false_eq_true, reduceCtorEq, Bool.and_self, Bool.or_self, Int.reduceBEq, Int.reduceBNe, Int.reduceNeg, decide_true, decide_false, Int.reduceLT, Int.reduceLE, Int.reduceGT] at h; done) | (refine fun (h : @Eq Bool _ _) => ?_)
          all_goals first | trivial | rfl | omega | (exact e1) | (simp only [hp, Int.toNat_natCast, Bool.cond_true_left, Bool.cond_false_right, Bool.cond_true_right, Bool.cond_false_left, cond_true, cond_false, Bool.not_true, Bool.not_false, Bool.not_not, Bool.and_true, Bool.true_and, Bool.and_false, Bool.false_and, Bool.or_true, Bool.true_or, Bool.or_false, Bool.false_or, beq_self_eq_true, bne_self_eq_false, Bool.true_eq_false, Bool.false_eq_true, reduceCtorEq, Bool.and_self, Bool.or_self, Int.reduceBEq, Int.reduceBNe, Int.reduceNeg, decide_true, decide_false, Int.reduceLT, Int.reduceLE, Int.reduceGT]; done) | (show @Eq Bool _ _; simp only [hp, Int.toNat_natCast, Bool.cond_true_left, Bool.cond_false_right, Bool.cond_true_right, Bool.cond_false_left, cond_true, cond_false, Bool.not_true, Bool.not_false, Bool.not_not, Bool.and_true, Bool.true_and, Bool.and_false, Bool.false_and, Bool.or_true, Bool.true_or, Bool.or_false, Bool.false_or, beq_self_eq_true, bne_self_eq_false, Bool.true_eq_false, Bool.false_eq_true, reduceCtorEq, Bool.and_self, Bool.or_self, Int.reduceBEq, Int.reduceBNe, Int.reduceNeg, decide_true, decide_false, Int.reduceLT, Int.reduceLE, Int.reduceGT]; done) | skip
        | false =>
          repeat' first | (exact PLe.refl _) | (exact BLe.refl _) | (exact PLeL.nil) | (exact BLeL.nil) | (refine ⟨?_, ?_⟩) | (refine PLeL.cons ?_ ?_) | (refine BLeL.cons ?_ ?_) | (refine ple_int ?_) | (refine ple_bool ?_) | (refine ple_tt ?_) | (refine ple_ff ?_) | (refine PLe.aggL ?_) | (refine PLe.tupL ?_) | (refine BLe.cellsL ?_) | (refine fun h => absurd h (by decide)) | (refine fun h => ?_; exfalso; simp only [hp, Int.toNat_natCast, Bool.cond_true_left, Bool.cond_false_right, Bool.cond_true_right, Bool.cond_false_left, cond_true, cond_false, Bool.not_true, Bool.not_false, Bool.not_not, Bool.and_true, Bool.true_and, Bool.and_false, Bool.false_and, Bool.or_true, Bool.true_or, Bool.or_false, Bool.false_or, beq_self_eq_true, bne_self_eq_false, Bool.true_eq_false, Bool.false_eq_true, reduceCtorEq, Bool.and_self, Bool.or_self, Int.reduceBEq, Int.reduceBNe, Int.reduceNeg, decide_true, decide_false, Int.reduceLT, Int.reduceLE, Int.reduceGT] at h; done) | (refine fun (h : @Eq Bool _ _) => ?_)
          all_goals first | trivial | rfl | omega | (exact allN_f hlt hp) | (simp only [hp, Int.toNat_natCast, Bool.cond_true_left, Bool.cond_false_right, Bool.cond_true_right, Bool.cond_false_left, cond_true, cond_false, Bool.not_true, Bool.not_false, Bool.not_not, Bool.and_true, Bool.true_and, Bool.and_false, Bool.false_and, Bool.or_true, Bool.true_or, Bool.or_false, Bool.false_or, beq_self_eq_true, bne_self_eq_false, Bool.true_eq_false, Bool.false_eq_true, reduceCtorEq, Bool.and_self, Bool.or_self, Int.reduceBEq, Int.reduceBNe, Int.reduceNeg, decide_true, decide_false, Int.reduceLT, Int.reduceLE, Int.reduceGT]; done) | (show @Eq Bool _ _; simp only [hp, Int.toNat_natCast, Bool.cond_true_left, Bool.cond_false_right, Bool.cond_true_right, Bool.cond_false_left, cond_true, cond_false, Bool.not_true, Bool.not_false, Bool.not_not, Bool.and_true, Bool.true_and, Bool.and_false, Bool.false_and, Bool.or_true, Bool.true_or, Bool.or_false, Bool.false_or, beq_self_eq_true, bne_self_eq_false, Bool.true_eq_false, Bool.false_eq_true, reduceCtorEq, Bool.and_self, Bool.or_self, Int.reduceBEq, Int.reduceBNe, Int.reduceNeg, decide_true, decide_false, Int.reduceLT, Int.reduceLE, Int.reduceGT]; done) | skip
      · obtain rfl : n = m := by
          have : ¬ ((m : Int) < n) := of_decide_eq_false h1
          omega
        refine ⟨rfl, .tt _ (allN_t hq)⟩
  · exact h.elim
def everyAS : V.Spec
  | [.slice none n get, .fn (.func 70) [] [.cptr [.int .i64 A, .int .i64 B, .int .i64 C]]] => (some (isL stpL n get), .bool (allN (fun i => decide ((stpOf (get i)).lo ≤ dropI A B C (stpOf (get i)).q ∧ dropI A B C (stpOf (get i)).q ≤ (stpOf (get i)).hi)) n))
  | _ => bad
set_option maxRecDepth 20000 in
theorem sf67b : SF Try.prog 67 everyAS := by
  refine sf_of types_ok mixed (l := [(70, agrees1S)]) ⟨sf70, trivial⟩ (es := []) trivial 2 Try.func67 rfl (by kernel_rfl) fun args h => ?_
  unfold everyAS at h
  split at h
  · rename_i n get A B C
    obtain ⟨hn, s, rfl⟩ := isL.get h
    clear h
    refine ⟨rfl, ?_⟩
    show evalCode _ _ _ fun o => match o with
      | .normal st | .ret st => withP _ (_ ∧ PLe _ (.bool (allN (fun i => decide ((s i).lo ≤ dropI A B C (s i).q ∧ dropI A B C (s i).q ≤ (s i).hi)) n)))
      | _ => False
    refine halt_rng (cnt 9) n [1, 7, 8, 9] [] (fun m => [.fn (.func 70) [] [.cptr [I A, I B, I C]], .slice none n fun i => stpL (s i), I n, I m]) (fun m => []) (fun m => ∀ i, i < m → (decide ((s i).lo ≤ dropI A B C (s i).q ∧ dropI A B C (s i).q ≤ (s i).hi)) = true) rfl ?_ (fun i hi => by omega) ?_
    · repeat' first | (exact PLe.refl _) | (exact PLeL.nil) | (exact BLeL.nil) | (refine ⟨?_, ?_⟩) | (refine PLeL.cons ?_ ?_)
    · intro m hm hq
      refine ⟨fun h1 => ?_, fun h1 => ?_⟩
      · have hlt : m < n := by simpa using h1
        have e1 := succ_w hlt hn
        clear h1
        cases hp : (decide ((s m).lo ≤ dropI A B C (s m).q ∧ dropI A B C (s m).q ≤ (s m).hi)) with
        | true =>
          have hq' : ∀ i, i < m + 1 → (decide ((s i).lo ≤ dropI A B C (s i).q ∧ dropI A B C (s i).q ≤ (s i).hi)) = true := fun i hi => by
            rcases Nat.lt_succ_iff_lt_or_eq.1 hi with h1 | rfl
            · exact hq i h1
            · exact hp
          repeat' first | (exact PLe.refl _) | (exact BLe.refl _) | (exact PLeL.nil) | (exact BLeL.nil) | (refine ⟨?_, ?_⟩) | (refine PLeL.cons ?_ ?_) | (refine BLeL.cons ?_ ?_) | (refine ple_int ?_) | (refine ple_bool ?_) | (refine ple_tt ?_) | (refine ple_ff ?_) | (refine PLe.aggL ?_) | (refine PLe.tupL ?_) | (refine BLe.cellsL ?_) | (refine next_rng (cn := cnt 9) rfl (fun _ => rfl) hlt hq' ?_) | (refine fun h => absurd h (by decide)) | (refine fun h => ?_; exfalso; simp only [hp, Int.toNat_natCast, Bool.cond_true_left, Bool.cond_false_right, Bool.cond_true_right, Bool.cond_false_left, cond_true, cond_false, Bool.not_true, Bool.not_false, Bool.not_not, Bool.and_true, Bool.true_and, Bool.and_false, Bool.false_and, Bool.or_true, Bool.true_or, Bool.or_false, Bool.false_or, beq_self_eq_true, bne_self_eq_false, Bool.true_eq_false, Bool.false_eq_true, reduceCtorEq, Bool.and_self, Bool.or_self, Int.reduceBEq, Int.reduceBNe, Int.reduceNeg, decide_true, decide_false, Int.reduceLT, Int.reduceLE, Int.reduceGT] at h; done) | (refine fun (h : @Eq Bool _ _) => ?_)
          all_goals first | trivial | rfl | omega | (exact e1) | (simp only [hp, Int.toNat_natCast, Bool.cond_true_left, Bool.cond_false_right, Bool.cond_true_right, Bool.cond_false_left, cond_true, cond_false, Bool.not_true, Bool.not_false, Bool.not_not, Bool.and_true, Bool.true_and, Bool.and_false, Bool.false_and, Bool.or_true, Bool.true_or, Bool.or_false, Bool.false_or, beq_self_eq_true, bne_self_eq_false, Bool.true_eq_false, Bool.false_eq_true, reduceCtorEq, Bool.and_self, Bool.or_self, Int.reduceBEq, Int.reduceBNe, Int.reduceNeg, decide_true, decide_false, Int.reduceLT, Int.reduceLE, Int.reduceGT]; done) | (show @Eq Bool _ _; simp only [hp, Int.toNat_natCast, Bool.cond_true_left, Bool.cond_false_right, Bool.cond_true_right, Bool.cond_false_left, cond_true, cond_false, Bool.not_true, Bool.not_false, Bool.not_not, Bool.and_true, Bool.true_and, Bool.and_false, Bool.false_and, Bool.or_true, Bool.true_or, Bool.or_false, Bool.false_or, beq_self_eq_true, bne_self_eq_false, Bool.true_eq_false, Bool.false_eq_true, reduceCtorEq, Bool.and_self, Bool.or_self, Int.reduceBEq, Int.reduceBNe, Int.reduceNeg, decide_true, decide_false, Int.reduceLT, Int.reduceLE, Int.reduceGT]; done) | skip
        | false =>
          repeat' first | (exact PLe.refl _) | (exact BLe.refl _) | (exact PLeL.nil) | (exact BLeL.nil) | (refine ⟨?_, ?_⟩) | (refine PLeL.cons ?_ ?_) | (refine BLeL.cons ?_ ?_) | (refine ple_int ?_) | (refine ple_bool ?_) | (refine ple_tt ?_) | (refine ple_ff ?_) | (refine PLe.aggL ?_) | (refine PLe.tupL ?_) | (refine BLe.cellsL ?_) | (refine fun h => absurd h (by decide)) | (refine fun h => ?_; exfalso; simp only [hp, Int.toNat_natCast, Bool.cond_true_left, Bool.cond_false_right, Bool.cond_true_right, Bool.cond_false_left, cond_true, cond_false, Bool.not_true, Bool.not_false, Bool.not_not, Bool.and_true, Bool.true_and, Bool.and_false, Bool.false_and, Bool.or_true, Bool.true_or, Bool.or_false, Bool.false_or, beq_self_eq_true, bne_self_eq_false, Bool.true_eq_false, Bool.false_eq_true, reduceCtorEq, Bool.and_self, Bool.or_self, Int.reduceBEq, Int.reduceBNe, Int.reduceNeg, decide_true, decide_false, Int.reduceLT, Int.reduceLE, Int.reduceGT] at h; done) | (refine fun (h : @Eq Bool _ _) => ?_)
          all_goals first | trivial | rfl | omega | (exact allN_f hlt hp) | (simp only [hp, Int.toNat_natCast, Bool.cond_true_left, Bool.cond_false_right, Bool.cond_true_right, Bool.cond_false_left, cond_true, cond_false, Bool.not_true, Bool.not_false, Bool.not_not, Bool.and_true, Bool.true_and, Bool.and_false, Bool.false_and, Bool.or_true, Bool.true_or, Bool.or_false, Bool.false_or, beq_self_eq_true, bne_self_eq_false, Bool.true_eq_false, Bool.false_eq_true, reduceCtorEq, Bool.and_self, Bool.or_self, Int.reduceBEq, Int.reduceBNe, Int.reduceNeg, decide_true, decide_false, Int.reduceLT, Int.reduceLE, Int.reduceGT]; done) | (show @Eq Bool _ _; simp only [hp, Int.toNat_natCast, Bool.cond_true_left, Bool.cond_false_right, Bool.cond_true_right, Bool.cond_false_left, cond_true, cond_false, Bool.not_true, Bool.not_false, Bool.not_not, Bool.and_true, Bool.true_and, Bool.and_false, Bool.false_and, Bool.or_true, Bool.true_or, Bool.or_false, Bool.false_or, beq_self_eq_true, bne_self_eq_false, Bool.true_eq_false, Bool.false_eq_true, reduceCtorEq, Bool.and_self, Bool.or_self, Int.reduceBEq, Int.reduceBNe, Int.reduceNeg, decide_true, decide_false, Int.reduceLT, Int.reduceLE, Int.reduceGT]; done) | skip
      · obtain rfl : n = m := by
          have : ¬ ((m : Int) < n) := of_decide_eq_false h1
          omega
        refine ⟨rfl, .tt _ (allN_t hq)⟩
  · exact h.elim
def everyFS : V.Spec
  | [.slice none n get, .fn (.func 80) [] []] => (some (isL intL n get), .bool (allN (fun i => decide (0 ≤ (intOf (get i)) ∧ (intOf (get i)) ≤ 1000)) n))
  | _ => bad
set_option maxRecDepth 20000 in
theorem sf83a : SF Try.prog 83 everyFS := by
  refine sf_of types_ok mixed (l := [(80, isFlowS)]) ⟨sf80, trivial⟩ (es := []) trivial 2 Try.func83 rfl (by kernel_rfl) fun args h => ?_
  unfold everyFS at h
  split at h
  · rename_i n get
    obtain ⟨hn, s, rfl⟩ := isL.get h
    clear h
    refine ⟨rfl, ?_⟩
    show evalCode _ _ _ fun o => match o with
      | .normal st | .ret st => withP _ (_ ∧ PLe _ (.bool (allN (fun i => decide (0 ≤ (s i) ∧ (s i) ≤ 1000)) n)))
      | _ => False
    refine halt_rng (cnt 9) n [1, 7, 8, 9] [] (fun m => [.fn (.func 80) [] [], .slice none n fun i => intL (s i), I n, I m]) (fun m => []) (fun m => ∀ i, i < m → (decide (0 ≤ (s i) ∧ (s i) ≤ 1000)) = true) rfl ?_ (fun i hi => by omega) ?_
    · repeat' first | (exact PLe.refl _) | (exact PLeL.nil) | (exact BLeL.nil) | (refine ⟨?_, ?_⟩) | (refine PLeL.cons ?_ ?_)
    · intro m hm hq
      refine ⟨fun h1 => ?_, fun h1 => ?_⟩
      · have hlt : m < n := by simpa using h1
        have e1 := succ_w hlt hn
        clear h1
        cases hp : (decide (0 ≤ (s m) ∧ (s m) ≤ 1000)) with
        | true =>
          have hq' : ∀ i, i < m + 1 → (decide (0 ≤ (s i) ∧ (s i) ≤ 1000)) = true := fun i hi => by
            rcases Nat.lt_succ_iff_lt_or_eq.1 hi with h1 | rfl
            · exact hq i h1
            · exact hp
          repeat' first | (exact PLe.refl _) | (exact BLe.refl _) | (exact PLeL.nil) | (exact BLeL.nil) | (refine ⟨?_, ?_⟩) | (refine PLeL.cons ?_ ?_) | (refine BLeL.cons ?_ ?_) | (refine ple_int ?_) | (refine ple_bool ?_) | (refine ple_tt ?_) | (refine ple_ff ?_) | (refine PLe.aggL ?_) | (refine PLe.tupL ?_) | (refine BLe.cellsL ?_) | (refine next_rng (cn := cnt 9) rfl (fun _ => rfl) hlt hq' ?_) | (refine fun h => absurd h (by decide)) | (refine fun h => ?_; exfalso; simp only [hp, Int.toNat_natCast, Bool.cond_true_left, Bool.cond_false_right, Bool.cond_true_right, Bool.cond_false_left, cond_true, cond_false, Bool.not_true, Bool.not_false, Bool.not_not, Bool.and_true, Bool.true_and, Bool.and_false, Bool.false_and, Bool.or_true, Bool.true_or, Bool.or_false, Bool.false_or, beq_self_eq_true, bne_self_eq_false, Bool.true_eq_false, Bool.false_eq_true, reduceCtorEq, Bool.and_self, Bool.or_self, Int.reduceBEq, Int.reduceBNe, Int.reduceNeg, decide_true, decide_false, Int.reduceLT, Int.reduceLE, Int.reduceGT] at h; done) | (refine fun (h : @Eq Bool _ _) => ?_)
          all_goals first | trivial | rfl | omega | (exact e1) | (simp only [hp, Int.toNat_natCast, Bool.cond_true_left, Bool.cond_false_right, Bool.cond_true_right, Bool.cond_false_left, cond_true, cond_false, Bool.not_true, Bool.not_false, Bool.not_not, Bool.and_true, Bool.true_and, Bool.and_false, Bool.false_and, Bool.or_true, Bool.true_or, Bool.or_false, Bool.false_or, beq_self_eq_true, bne_self_eq_false, Bool.true_eq_false, Bool.false_eq_true, reduceCtorEq, Bool.and_self, Bool.or_self, Int.reduceBEq, Int.reduceBNe, Int.reduceNeg, decide_true, decide_false, Int.reduceLT, Int.reduceLE, Int.reduceGT]; done) | (show @Eq Bool _ _; simp only [hp, Int.toNat_natCast, Bool.cond_true_left, Bool.cond_false_right, Bool.cond_true_right, Bool.cond_false_left, cond_true, cond_false, Bool.not_true, Bool.not_false, Bool.not_not, Bool.and_true, Bool.true_and, Bool.and_false, Bool.false_and, Bool.or_true, Bool.true_or, Bool.or_false, Bool.false_or, beq_self_eq_true, bne_self_eq_false, Bool.true_eq_false, Bool.false_eq_true, reduceCtorEq, Bool.and_self, Bool.or_self, Int.reduceBEq, Int.reduceBNe, Int.reduceNeg, decide_true, decide_false, Int.reduceLT, Int.reduceLE, Int.reduceGT]; done) | skip
        | false =>
          repeat' first | (exact PLe.refl _) | (exact BLe.refl _) | (exact PLeL.nil) | (exact BLeL.nil) | (refine ⟨?_, ?_⟩) | (refine PLeL.cons ?_ ?_) | (refine BLeL.cons ?_ ?_) | (refine ple_int ?_) | (refine ple_bool ?_) | (refine ple_tt ?_) | (refine ple_ff ?_) | (refine PLe.aggL ?_) | (refine PLe.tupL ?_) | (refine BLe.cellsL ?_) | (refine fun h => absurd h (by decide)) | (refine fun h => ?_; exfalso; simp only [hp, Int.toNat_natCast, Bool.cond_true_left, Bool.cond_false_right, Bool.cond_true_right, Bool.cond_false_left, cond_true, cond_false, Bool.not_true, Bool.not_false, Bool.not_not, Bool.and_true, Bool.true_and, Bool.and_false, Bool.false_and, Bool.or_true, Bool.true_or, Bool.or_false, Bool.false_or, beq_self_eq_true, bne_self_eq_false, Bool.true_eq_false, Bool.false_eq_true, reduceCtorEq, Bool.and_self, Bool.or_self, Int.reduceBEq, Int.reduceBNe, Int.reduceNeg, decide_true, decide_false, Int.reduceLT, Int.reduceLE, Int.reduceGT] at h; done) | (refine fun (h : @Eq Bool _ _) => ?_)
          all_goals first | trivial | rfl | omega | (exact allN_f hlt hp) | (simp only [hp, Int.toNat_natCast, Bool.cond_true_left, Bool.cond_false_right, Bool.cond_true_right, Bool.cond_false_left, cond_true, cond_false, Bool.not_true, Bool.not_false, Bool.not_not, Bool.and_true, Bool.true_and, Bool.and_false, Bool.false_and, Bool.or_true, Bool.true_or, Bool.or_false, Bool.false_or, beq_self_eq_true, bne_self_eq_false, Bool.true_eq_false, Bool.false_eq_true, reduceCtorEq, Bool.and_self, Bool.or_self, Int.reduceBEq, Int.reduceBNe, Int.reduceNeg, decide_true, decide_false, Int.reduceLT, Int.reduceLE, Int.reduceGT]; done) | (show @Eq Bool _ _; simp only [hp, Int.toNat_natCast, Bool.cond_true_left, Bool.cond_false_right, Bool.cond_true_right, Bool.cond_false_left, cond_true, cond_false, Bool.not_true, Bool.not_false, Bool.not_not, Bool.and_true, Bool.true_and, Bool.and_false, Bool.false_and, Bool.or_true, Bool.true_or, Bool.or_false, Bool.false_or, beq_self_eq_true, bne_self_eq_false, Bool.true_eq_false, Bool.false_eq_true, reduceCtorEq, Bool.and_self, Bool.or_self, Int.reduceBEq, Int.reduceBNe, Int.reduceNeg, decide_true, decide_false, Int.reduceLT, Int.reduceLE, Int.reduceGT]; done) | skip
      · obtain rfl : n = m := by
          have : ¬ ((m : Int) < n) := of_decide_eq_false h1
          omega
        refine ⟨rfl, .tt _ (allN_t hq)⟩
  · exact h.elim
def cutM (f : Rng) (w : Nat → Rng) : Nat → Rng
  | 0 => f
  | k + 1 => ⟨gmax (cutM f w k).lo (w k).lo, gmin (cutM f w k).hi (w k).hi⟩
def cutS : V.Spec
  | [.agg [.int .i64 lo, .int .i64 hi], .slice none n get] => (some (isL rngL n get), encR (cutM ⟨lo, hi⟩ (fun i => rngOf (get i)) n))
  | _ => bad
set_option maxRecDepth 20000 in
theorem sf120 : SF Try.prog 120 cutS := by
  refine sf_of types_ok mixed (l := []) trivial (es := []) trivial 2 Try.func120 rfl (by kernel_rfl) fun args h => ?_
  unfold cutS at h
  split at h
  · rename_i lo hi n get
    obtain ⟨hn, w, rfl⟩ := isL.get h
    clear h
    refine ⟨rfl, ?_⟩
    show evalCode _ _ _ fun o => match o with
      | .normal st | .ret st => withP _ (_ ∧ PLe _ (encR (cutM ⟨lo, hi⟩ w n)))
      | _ => False
    refine halt_rng (cnt 9) n [2, 4, 7, 8, 9] [2, 4] (fun m => [.ptr 2 0, .ptr 4 0, .slice none n fun i => rngL (w i), I n, I m]) (fun m => [.cells (rngL (cutM ⟨lo, hi⟩ w m)), .cells [I 0, I 0]]) (fun _ => True) rfl ?_ trivial ?_
    · repeat' first | (exact PLe.refl _) | (exact BLe.refl _) | (exact PLeL.nil) | (exact BLeL.nil) | (refine ⟨?_, ?_⟩) | (refine PLeL.cons ?_ ?_) | (refine BLeL.cons ?_ ?_)
    · intro m hm _
      refine ⟨fun h1 => ?_, fun h1 => ?_⟩
      · have hlt : m < n := by simpa using h1
        have e1 : IntKind.i64.wrap ((m : Int) + 1) = ((m + 1 : Nat) : Int) := by rw [w64 (by omega) (by omega)]; omega
        repeat' first | (exact PLe.refl _) | (exact BLe.refl _) | (exact PLeL.nil) | (exact BLeL.nil) | (refine ⟨?_, ?_⟩) | (refine PLeL.cons ?_ ?_) | (refine BLeL.cons ?_ ?_) | (refine ple_int ?_) | (refine BLe.cellsL ?_) | (refine next_rng (cn := cnt 9) rfl (fun _ => rfl) hlt trivial ?_) | (refine fun h => absurd h (by decide))
        all_goals first | trivial | rfl | omega | skip
      · obtain rfl : n = m := by
          have : ¬ ((m : Int) < n) := of_decide_eq_false h1
          omega
        repeat' first | (refine ⟨?_, ?_⟩) | (exact PLe.refl _)
        all_goals first | trivial | rfl
  · exact h.elim
end Go.Proofs.Ytnjhbmcambofgaa
