/- Layer 4: clashes; what the relation of two wells is; what is found first. -/
import Derived.Test.YtnjhbmcambofgaaS13
namespace Go.Proofs.Ytnjhbmcambofgaa
open Go.V
set_option linter.unusedSimpArgs false
set_option linter.unusedVariables false

/-- The first index at which it holds, or -1. -/
def firstN (f : Nat → Bool) : Nat → Int
  | 0 => -1
  | n + 1 => bif decide (0 ≤ firstN f n) then firstN f n else bif f n then (n : Int) else -1
theorem firstN_f {f : Nat → Bool} : ∀ {n : Nat}, (∀ i, i < n → f i = false) → firstN f n = -1
  | 0, _ => rfl
  | n + 1, h => by
    have e := firstN_f fun i hi => h i (Nat.lt_succ_of_lt hi)
    simp only [firstN, e, h n (Nat.lt_succ_self n), cond_false]
    rfl
theorem firstN_t {f : Nat → Bool} {m : Nat} (h : ∀ i, i < m → f i = false) (hm : f m = true) : ∀ {n : Nat}, m < n → firstN f n = (m : Int)
  | 0, hn => by omega
  | n + 1, hn => by
    by_cases e : m = n
    · subst e
      simp only [firstN, firstN_f h, hm, cond_true]
      rfl
    · have e := firstN_t h hm (n := n) (by omega)
      simp only [firstN, e]
      have : decide (0 ≤ (m : Int)) = true := decide_eq_true (by omega)
      rw [this]; rfl
abbrev in10 (n : Int) : Prop := 0 ≤ n ∧ n < 10
def clB (lv : Int) (g : List Int) (a b hi : Int) : Bool := decide (hi < lv) && (g.getD (ix a) 0 == g.getD (ix b) 0)
def agB (lv : Int) (g : List Int) (p q a b hi : Int) : Bool := decide (hi < lv) && (((g.getD (ix a) 0 == g.getD (ix p) 0) && (g.getD (ix b) 0 == g.getD (ix q) 0)) || ((g.getD (ix a) 0 == g.getD (ix q) 0) && (g.getD (ix b) 0 == g.getD (ix p) 0)))
def isClashS : V.Spec
  | [.agg [.int .i64 wl, .int .i64 lv, .slice none m gt, .int .i64 g0, .int .i64 g1, .int .i64 g2, .int .i64 g3, .int .i64 g4, .int .i64 g5, .int .i64 g6, .int .i64 g7, .int .i64 g8, .int .i64 g9], .agg [.int .i64 a, .int .i64 b, .int .i64 lo, .int .i64 hi]] => (some (in10 a ∧ in10 b), .bool (clB lv [g0, g1, g2, g3, g4, g5, g6, g7, g8, g9] a b hi))
  | _ => bad
def rel1S : V.Spec
  | [.agg [.int .i64 a, .int .i64 b, .int .i64 lo, .int .i64 hi], .cptr [.int .i64 wl, .int .i64 lv, .slice none m gt, .int .i64 g0, .int .i64 g1, .int .i64 g2, .int .i64 g3, .int .i64 g4, .int .i64 g5, .int .i64 g6, .int .i64 g7, .int .i64 g8, .int .i64 g9], .cptr [.int .i64 p], .cptr [.int .i64 q]] => (some ((in10 a ∧ in10 b) ∧ in10 p ∧ in10 q), .bool (agB lv [g0, g1, g2, g3, g4, g5, g6, g7, g8, g9] p q a b hi))
  | _ => bad
set_option maxRecDepth 20000 in
set_option maxHeartbeats 1000000 in
theorem sf96 : SF Try.prog 96 isClashS := by
  refine sf_of types_ok mixed (l := [(124, isAgainstS), (125, togetherS)]) ⟨sf124, sf125, trivial⟩ (es := []) trivial 2 Try.func96 rfl (by kernel_rfl) fun args h => ?_
  unfold isClashS at h
  split at h
  · rename_i wl lv m gt g0 g1 g2 g3 g4 g5 g6 g7 g8 g9 a b lo hi
    obtain ⟨ha, hb⟩ : in10 a ∧ in10 b := h
    refine ⟨rfl, ?_⟩
    show evalCode _ _ _ fun o => match o with
      | .normal st | .ret st => withP _ (_ ∧ PLe _ (.bool (clB lv [g0, g1, g2, g3, g4, g5, g6, g7, g8, g9] a b hi)))
      | _ => False
    refine (Bool.eq_false_or_eq_true (decide (hi < lv))).elim (fun p1 => ?_) fun p1 => ?_
    · have e : clB lv [g0, g1, g2, g3, g4, g5, g6, g7, g8, g9] a b hi = (([g0, g1, g2, g3, g4, g5, g6, g7, g8, g9] : List Int).getD (ix a) 0 == ([g0, g1, g2, g3, g4, g5, g6, g7, g8, g9] : List Int).getD (ix b) 0) := by unfold clB; rw [p1]; rfl
      rw [e]
      repeat' first
        | exact PLe.refl _
        | exact BLe.refl _
        | exact PLeL.nil
        | exact BLeL.nil
        | refine ⟨?_, ?_⟩
        | refine PLeL.cons ?_ ?_
        | refine BLeL.cons ?_ ?_
        | refine ple_int ?_
        | refine ple_bool ?_
        | refine ple_tt ?_
        | refine ple_ff ?_
        | refine PLe.aggL ?_
        | refine PLe.tupL ?_
        | refine BLe.cellsL ?_
        | refine fun h => absurd h (by decide)
        | (refine fun h => ?_; exfalso; simp only [p1, Int.toNat_natCast, Bool.cond_true_left, Bool.cond_false_right, Bool.cond_true_right, Bool.cond_false_left, cond_true, cond_false, Bool.not_true, Bool.not_false, Bool.not_not, Bool.and_true, Bool.true_and, Bool.and_false, Bool.false_and, Bool.or_true, Bool.true_or, Bool.or_false, Bool.false_or, beq_self_eq_true, bne_self_eq_false, Bool.true_eq_false, Bool.false_eq_true, reduceCtorEq, Bool.and_self, Bool.or_self, Int.reduceBEq, Int.reduceBNe, Int.reduceNeg, decide_true, decide_false, Int.reduceLT, Int.reduceLE, Int.reduceGT] at h; done)
        | refine fun (h : @Eq Bool _ _) => ?_
      all_goals first
        | trivial
        | rfl
        | omega
        | exact ha.1
        | exact ha.2
        | exact hb.1
        | exact hb.2
        | exact ⟨ha, hb⟩
        | (simp only [p1, Int.toNat_natCast, Bool.cond_true_left, Bool.cond_false_right, Bool.cond_true_right, Bool.cond_false_left, cond_true, cond_false, Bool.not_true, Bool.not_false, Bool.not_not, Bool.and_true, Bool.true_and, Bool.and_false, Bool.false_and, Bool.or_true, Bool.true_or, Bool.or_false, Bool.false_or, beq_self_eq_true, bne_self_eq_false, Bool.true_eq_false, Bool.false_eq_true, reduceCtorEq, Bool.and_self, Bool.or_self, Int.reduceBEq, Int.reduceBNe, Int.reduceNeg, decide_true, decide_false, Int.reduceLT, Int.reduceLE, Int.reduceGT]; done)
        | (show @Eq Bool _ _; simp only [p1, Int.toNat_natCast, Bool.cond_true_left, Bool.cond_false_right, Bool.cond_true_right, Bool.cond_false_left, cond_true, cond_false, Bool.not_true, Bool.not_false, Bool.not_not, Bool.and_true, Bool.true_and, Bool.and_false, Bool.false_and, Bool.or_true, Bool.true_or, Bool.or_false, Bool.false_or, beq_self_eq_true, bne_self_eq_false, Bool.true_eq_false, Bool.false_eq_true, reduceCtorEq, Bool.and_self, Bool.or_self, Int.reduceBEq, Int.reduceBNe, Int.reduceNeg, decide_true, decide_false, Int.reduceLT, Int.reduceLE, Int.reduceGT]; done)
        | skip
    · have e : clB lv [g0, g1, g2, g3, g4, g5, g6, g7, g8, g9] a b hi = false := by unfold clB; rw [p1]; rfl
      rw [e]
      repeat' first
        | exact PLe.refl _
        | exact BLe.refl _
        | exact PLeL.nil
        | exact BLeL.nil
        | refine ⟨?_, ?_⟩
        | refine PLeL.cons ?_ ?_
        | refine BLeL.cons ?_ ?_
        | refine ple_int ?_
        | refine ple_bool ?_
        | refine ple_tt ?_
        | refine ple_ff ?_
        | refine PLe.aggL ?_
        | refine PLe.tupL ?_
        | refine BLe.cellsL ?_
        | refine fun h => absurd h (by decide)
        | (refine fun h => ?_; exfalso; simp only [p1, Int.toNat_natCast, Bool.cond_true_left, Bool.cond_false_right, Bool.cond_true_right, Bool.cond_false_left, cond_true, cond_false, Bool.not_true, Bool.not_false, Bool.not_not, Bool.and_true, Bool.true_and, Bool.and_false, Bool.false_and, Bool.or_true, Bool.true_or, Bool.or_false, Bool.false_or, beq_self_eq_true, bne_self_eq_false, Bool.true_eq_false, Bool.false_eq_true, reduceCtorEq, Bool.and_self, Bool.or_self, Int.reduceBEq, Int.reduceBNe, Int.reduceNeg, decide_true, decide_false, Int.reduceLT, Int.reduceLE, Int.reduceGT] at h; done)
        | refine fun (h : @Eq Bool _ _) => ?_
      all_goals first
        | trivial
        | rfl
        | omega
        | (simp only [p1, Int.toNat_natCast, Bool.cond_true_left, Bool.cond_false_right, Bool.cond_true_right, Bool.cond_false_left, cond_true, cond_false, Bool.not_true, Bool.not_false, Bool.not_not, Bool.and_true, Bool.true_and, Bool.and_false, Bool.false_and, Bool.or_true, Bool.true_or, Bool.or_false, Bool.false_or, beq_self_eq_true, bne_self_eq_false, Bool.true_eq_false, Bool.false_eq_true, reduceCtorEq, Bool.and_self, Bool.or_self, Int.reduceBEq, Int.reduceBNe, Int.reduceNeg, decide_true, decide_false, Int.reduceLT, Int.reduceLE, Int.reduceGT]; done)
        | (show @Eq Bool _ _; simp only [p1, Int.toNat_natCast, Bool.cond_true_left, Bool.cond_false_right, Bool.cond_true_right, Bool.cond_false_left, cond_true, cond_false, Bool.not_true, Bool.not_false, Bool.not_not, Bool.and_true, Bool.true_and, Bool.and_false, Bool.false_and, Bool.or_true, Bool.true_or, Bool.or_false, Bool.false_or, beq_self_eq_true, bne_self_eq_false, Bool.true_eq_false, Bool.false_eq_true, reduceCtorEq, Bool.and_self, Bool.or_self, Int.reduceBEq, Int.reduceBNe, Int.reduceNeg, decide_true, decide_false, Int.reduceLT, Int.reduceLE, Int.reduceGT]; done)
        | skip
  · exact h.elim
set_option maxRecDepth 20000 in
set_option maxHeartbeats 1000000 in
theorem sf127 : SF Try.prog 127 rel1S := by
  refine sf_of types_ok mixed (l := [(124, isAgainstS), (125, togetherS)]) ⟨sf124, sf125, trivial⟩ (es := []) trivial 4 Try.func127 rfl (by kernel_rfl) fun args h => ?_
  unfold rel1S at h
  split at h
  · rename_i a b lo hi wl lv m gt g0 g1 g2 g3 g4 g5 g6 g7 g8 g9 p q
    obtain ⟨⟨ha, hb⟩, hp, hq⟩ : (in10 a ∧ in10 b) ∧ in10 p ∧ in10 q := h
    refine ⟨rfl, ?_⟩
    show evalCode _ _ _ fun o => match o with
      | .normal st | .ret st => withP _ (_ ∧ PLe _ (.bool (agB lv [g0, g1, g2, g3, g4, g5, g6, g7, g8, g9] p q a b hi)))
      | _ => False
    refine (Bool.eq_false_or_eq_true (decide (hi < lv))).elim (fun p1 => ?_) fun p1 => ?_
    · skip
      refine (Bool.eq_false_or_eq_true ((([g0, g1, g2, g3, g4, g5, g6, g7, g8, g9] : List Int).getD (ix a) 0 == ([g0, g1, g2, g3, g4, g5, g6, g7, g8, g9] : List Int).getD (ix p) 0))).elim (fun p2 => ?_) fun p2 => ?_
      · skip
        refine (Bool.eq_false_or_eq_true ((([g0, g1, g2, g3, g4, g5, g6, g7, g8, g9] : List Int).getD (ix b) 0 == ([g0, g1, g2, g3, g4, g5, g6, g7, g8, g9] : List Int).getD (ix q) 0))).elim (fun p3 => ?_) fun p3 => ?_
        · skip
          have e : agB lv [g0, g1, g2, g3, g4, g5, g6, g7, g8, g9] p q a b hi = true := by unfold agB; simp only [p1, p2, p3, Bool.true_and, Bool.false_and, Bool.and_false, Bool.and_true, Bool.or_true, Bool.true_or, Bool.or_false, Bool.false_or]
          rw [e]
          repeat' first
            | exact PLe.refl _
            | exact BLe.refl _
            | exact PLeL.nil
            | exact BLeL.nil
            | refine ⟨?_, ?_⟩
            | refine PLeL.cons ?_ ?_
            | refine BLeL.cons ?_ ?_
            | refine ple_int ?_
            | refine ple_bool ?_
            | refine ple_tt ?_
            | refine ple_ff ?_
            | refine PLe.aggL ?_
            | refine PLe.tupL ?_
            | refine BLe.cellsL ?_
            | refine fun h => absurd h (by decide)
            | (refine fun h => ?_; exfalso; simp only [p1, p2, p3, Int.toNat_natCast, Bool.cond_true_left, Bool.cond_false_right, Bool.cond_true_right, Bool.cond_false_left, cond_true, cond_false, Bool.not_true, Bool.not_false, Bool.not_not, Bool.and_true, Bool.true_and, Bool.and_false, Bool.false_and, Bool.or_true, Bool.true_or, Bool.or_false, Bool.false_or, beq_self_eq_true, bne_self_eq_false, Bool.true_eq_false, Bool.false_eq_true, reduceCtorEq, Bool.and_self, Bool.or_self, Int.reduceBEq, Int.reduceBNe, Int.reduceNeg, decide_true, decide_false, Int.reduceLT, Int.reduceLE, Int.reduceGT] at h; done)
            | refine fun (h : @Eq Bool _ _) => ?_
          all_goals first
            | trivial
            | rfl
            | omega
            | exact ⟨ha, hp⟩
            | exact ⟨hb, hq⟩
            | exact ⟨ha, hq⟩
            | exact ⟨hb, hp⟩
            | exact ha.1
            | exact ha.2
            | exact hb.1
            | exact hb.2
            | exact hp.1
            | exact hp.2
            | exact hq.1
            | exact hq.2
            | (simp only [p1, p2, p3, Int.toNat_natCast, Bool.cond_true_left, Bool.cond_false_right, Bool.cond_true_right, Bool.cond_false_left, cond_true, cond_false, Bool.not_true, Bool.not_false, Bool.not_not, Bool.and_true, Bool.true_and, Bool.and_false, Bool.false_and, Bool.or_true, Bool.true_or, Bool.or_false, Bool.false_or, beq_self_eq_true, bne_self_eq_false, Bool.true_eq_false, Bool.false_eq_true, reduceCtorEq, Bool.and_self, Bool.or_self, Int.reduceBEq, Int.reduceBNe, Int.reduceNeg, decide_true, decide_false, Int.reduceLT, Int.reduceLE, Int.reduceGT]; done)
            | (show @Eq Bool _ _; simp only [p1, p2, p3, Int.toNat_natCast, Bool.cond_true_left, Bool.cond_false_right, Bool.cond_true_right, Bool.cond_false_left, cond_true, cond_false, Bool.not_true, Bool.not_false, Bool.not_not, Bool.and_true, Bool.true_and, Bool.and_false, Bool.false_and, Bool.or_true, Bool.true_or, Bool.or_false, Bool.false_or, beq_self_eq_true, bne_self_eq_false, Bool.true_eq_false, Bool.false_eq_true, reduceCtorEq, Bool.and_self, Bool.or_self, Int.reduceBEq, Int.reduceBNe, Int.reduceNeg, decide_true, decide_false, Int.reduceLT, Int.reduceLE, Int.reduceGT]; done)
            | skip
        · skip
          refine (Bool.eq_false_or_eq_true ((([g0, g1, g2, g3, g4, g5, g6, g7, g8, g9] : List Int).getD (ix a) 0 == ([g0, g1, g2, g3, g4, g5, g6, g7, g8, g9] : List Int).getD (ix q) 0))).elim (fun p4 => ?_) fun p4 => ?_
          · skip
            refine (Bool.eq_false_or_eq_true ((([g0, g1, g2, g3, g4, g5, g6, g7, g8, g9] : List Int).getD (ix b) 0 == ([g0, g1, g2, g3, g4, g5, g6, g7, g8, g9] : List Int).getD (ix p) 0))).elim (fun p5 => ?_) fun p5 => ?_
            · skip
              have e : agB lv [g0, g1, g2, g3, g4, g5, g6, g7, g8, g9] p q a b hi = true := by unfold agB; simp only [p1, p2, p3, p4, p5, Bool.true_and, Bool.false_and, Bool.and_false, Bool.and_true, Bool.or_true, Bool.true_or, Bool.or_false, Bool.false_or]
              rw [e]
              repeat' first
                | exact PLe.refl _
                | exact BLe.refl _
                | exact PLeL.nil
                | exact BLeL.nil
                | refine ⟨?_, ?_⟩
                | refine PLeL.cons ?_ ?_
                | refine BLeL.cons ?_ ?_
                | refine ple_int ?_
                | refine ple_bool ?_
                | refine ple_tt ?_
                | refine ple_ff ?_
                | refine PLe.aggL ?_
                | refine PLe.tupL ?_
                | refine BLe.cellsL ?_
                | refine fun h => absurd h (by decide)
                | (refine fun h => ?_; exfalso; simp only [p1, p2, p3, p4, p5, Int.toNat_natCast, Bool.cond_true_left, Bool.cond_false_right, Bool.cond_true_right, Bool.cond_false_left, cond_true, cond_false, Bool.not_true, Bool.not_false, Bool.not_not, Bool.and_true, Bool.true_and, Bool.and_false, Bool.false_and, Bool.or_true, Bool.true_or, Bool.or_false, Bool.false_or, beq_self_eq_true, bne_self_eq_false, Bool.true_eq_false, Bool.false_eq_true, reduceCtorEq, Bool.and_self, Bool.or_self, Int.reduceBEq, Int.reduceBNe, Int.reduceNeg, decide_true, decide_false, Int.reduceLT, Int.reduceLE, Int.reduceGT] at h; done)
                | refine fun (h : @Eq Bool _ _) => ?_
              all_goals first
                | trivial
                | rfl
                | omega
                | exact ⟨ha, hp⟩
                | exact ⟨hb, hq⟩
                | exact ⟨ha, hq⟩
                | exact ⟨hb, hp⟩
                | exact ha.1
                | exact ha.2
                | exact hb.1
                | exact hb.2
                | exact hp.1
                | exact hp.2
                | exact hq.1
                | exact hq.2
                | (simp only [p1, p2, p3, p4, p5, Int.toNat_natCast, Bool.cond_true_left, Bool.cond_false_right, Bool.cond_true_right, Bool.cond_false_left, cond_true, cond_false, Bool.not_true, Bool.not_false, Bool.not_not, Bool.and_true, Bool.true_and, Bool.and_false, Bool.false_and, Bool.or_true, Bool.true_or, Bool.or_false, Bool.false_or, beq_self_eq_true, bne_self_eq_false, Bool.true_eq_false, Bool.false_eq_true, reduceCtorEq, Bool.and_self, Bool.or_self, Int.reduceBEq, Int.reduceBNe, Int.reduceNeg, decide_true, decide_false, Int.reduceLT, Int.reduceLE, Int.reduceGT]; done)
                | (show @Eq Bool _ _; simp only [p1, p2, p3, p4, p5, Int.toNat_natCast, Bool.cond_true_left, Bool.cond_false_right, Bool.cond_true_right, Bool.cond_false_left, cond_true, cond_false, Bool.not_true, Bool.not_false, Bool.not_not, Bool.and_true, Bool.true_and, Bool.and_false, Bool.false_and, Bool.or_true, Bool.true_or, Bool.or_false, Bool.false_or, beq_self_eq_true, bne_self_eq_false, Bool.true_eq_false, Bool.false_eq_true, reduceCtorEq, Bool.and_self, Bool.or_self, Int.reduceBEq, Int.reduceBNe, Int.reduceNeg, decide_true, decide_false, Int.reduceLT, Int.reduceLE, Int.reduceGT]; done)
                | skip
            · skip
              have e : agB lv [g0, g1, g2, g3, g4, g5, g6, g7, g8, g9] p q a b hi = false := by unfold agB; simp only [p1, p2, p3, p4, p5, Bool.true_and, Bool.false_and, Bool.and_false, Bool.and_true, Bool.or_true, Bool.true_or, Bool.or_false, Bool.false_or]
              rw [e]
              repeat' first
                | exact PLe.refl _
                | exact BLe.refl _
                | exact PLeL.nil
                | exact BLeL.nil
                | refine ⟨?_, ?_⟩
                | refine PLeL.cons ?_ ?_
                | refine BLeL.cons ?_ ?_
                | refine ple_int ?_
                | refine ple_bool ?_
                | refine ple_tt ?_
                | refine ple_ff ?_
                | refine PLe.aggL ?_
                | refine PLe.tupL ?_
                | refine BLe.cellsL ?_
                | refine fun h => absurd h (by decide)
                | (refine fun h => ?_; exfalso; simp only [p1, p2, p3, p4, p5, Int.toNat_natCast, Bool.cond_true_left, Bool.cond_false_right, Bool.cond_true_right, Bool.cond_false_left, cond_true, cond_false, Bool.not_true, Bool.not_false, Bool.not_not, Bool.and_true, Bool.true_and, Bool.and_false, Bool.false_and, Bool.or_true, Bool.true_or, Bool.or_false, Bool.false_or, beq_self_eq_true, bne_self_eq_false, Bool.true_eq_false, Bool.false_eq_true, reduceCtorEq, Bool.and_self, Bool.or_self, Int.reduceBEq, Int.reduceBNe, Int.reduceNeg, decide_true, decide_false, Int.reduceLT, Int.reduceLE, Int.reduceGT] at h; done)
                | refine fun (h : @Eq Bool _ _) => ?_
              all_goals first
                | trivial
                | rfl
                | omega
                | exact ⟨ha, hp⟩
                | exact ⟨hb, hq⟩
                | exact ⟨ha, hq⟩
                | exact ⟨hb, hp⟩
                | exact ha.1
                | exact ha.2
                | exact hb.1
                | exact hb.2
                | exact hp.1
                | exact hp.2
                | exact hq.1
                | exact hq.2
                | (simp only [p1, p2, p3, p4, p5, Int.toNat_natCast, Bool.cond_true_left, Bool.cond_false_right, Bool.cond_true_right, Bool.cond_false_left, cond_true, cond_false, Bool.not_true, Bool.not_false, Bool.not_not, Bool.and_true, Bool.true_and, Bool.and_false, Bool.false_and, Bool.or_true, Bool.true_or, Bool.or_false, Bool.false_or, beq_self_eq_true, bne_self_eq_false, Bool.true_eq_false, Bool.false_eq_true, reduceCtorEq, Bool.and_self, Bool.or_self, Int.reduceBEq, Int.reduceBNe, Int.reduceNeg, decide_true, decide_false, Int.reduceLT, Int.reduceLE, Int.reduceGT]; done)
                | (show @Eq Bool _ _; simp only [p1, p2, p3, p4, p5, Int.toNat_natCast, Bool.cond_true_left, Bool.cond_false_right, Bool.cond_true_right, Bool.cond_false_left, cond_true, cond_false, Bool.not_true, Bool.not_false, Bool.not_not, Bool.and_true, Bool.true_and, Bool.and_false, Bool.false_and, Bool.or_true, Bool.true_or, Bool.or_false, Bool.false_or, beq_self_eq_true, bne_self_eq_false, Bool.true_eq_false, Bool.false_eq_true, reduceCtorEq, Bool.and_self, Bool.or_self, Int.reduceBEq, Int.reduceBNe, Int.reduceNeg, decide_true, decide_false, Int.reduceLT, Int.reduceLE, Int.reduceGT]; done)
                | skip
          · skip
            have e : agB lv [g0, g1, g2, g3, g4, g5, g6, g7, g8, g9] p q a b hi = false := by unfold agB; simp only [p1, p2, p3, p4, Bool.true_and, Bool.false_and, Bool.and_false, Bool.and_true, Bool.or_true, Bool.true_or, Bool.or_false, Bool.false_or]
            rw [e]
            repeat' first
              | exact PLe.refl _
              | exact BLe.refl _
              | exact PLeL.nil
              | exact BLeL.nil
              | refine ⟨?_, ?_⟩
              | refine PLeL.cons ?_ ?_
              | refine BLeL.cons ?_ ?_
              | refine ple_int ?_
              | refine ple_bool ?_
              | refine ple_tt ?_
              | refine ple_ff ?_
              | refine PLe.aggL ?_
              | refine PLe.tupL ?_
              | refine BLe.cellsL ?_
              | refine fun h => absurd h (by decide)
              | (refine fun h => ?_; exfalso; simp only [p1, p2, p3, p4, Int.toNat_natCast, Bool.cond_true_left, Bool.cond_false_right, Bool.cond_true_right, Bool.cond_false_left, cond_true, cond_false, Bool.not_true, Bool.not_false, Bool.not_not, Bool.and_true, Bool.true_and, Bool.and_false, Bool.false_and, Bool.or_true, Bool.true_or, Bool.or_false, Bool.false_or, beq_self_eq_true, bne_self_eq_false, Bool.true_eq_false, Bool.false_eq_true, reduceCtorEq, Bool.and_self, Bool.or_self, Int.reduceBEq, Int.reduceBNe, Int.reduceNeg, decide_true, decide_false, Int.reduceLT, Int.reduceLE, Int.reduceGT] at h; done)
              | refine fun (h : @Eq Bool _ _) => ?_
            all_goals first
              | trivial
              | rfl
              | omega
              | exact ⟨ha, hp⟩
              | exact ⟨hb, hq⟩
              | exact ⟨ha, hq⟩
              | exact ⟨hb, hp⟩
              | exact ha.1
              | exact ha.2
              | exact hb.1
              | exact hb.2
              | exact hp.1
              | exact hp.2
              | exact hq.1
              | exact hq.2
              | (simp only [p1, p2, p3, p4, Int.toNat_natCast, Bool.cond_true_left, Bool.cond_false_right, Bool.cond_true_right, Bool.cond_false_left, cond_true, cond_false, Bool.not_true, Bool.not_false, Bool.not_not, Bool.and_true, Bool.true_and, Bool.and_false, Bool.false_and, Bool.or_true, Bool.true_or, Bool.or_false, Bool.false_or, beq_self_eq_true, bne_self_eq_false, Bool.true_eq_false, Bool.false_eq_true, reduceCtorEq, Bool.and_self, Bool.or_self, Int.reduceBEq, Int.reduceBNe, Int.reduceNeg, decide_true, decide_false, Int.reduceLT, Int.reduceLE, Int.reduceGT]; done)
              | (show @Eq Bool _ _; simp only [p1, p2, p3, p4, Int.toNat_natCast, Bool.cond_true_left, Bool.cond_false_right, Bool.cond_true_right, Bool.cond_false_left, cond_true, cond_false, Bool.not_true, Bool.not_false, Bool.not_not, Bool.and_true, Bool.true_and, Bool.and_false, Bool.false_and, Bool.or_true, Bool.true_or, Bool.or_false, Bool.false_or, beq_self_eq_true, bne_self_eq_false, Bool.true_eq_false, Bool.false_eq_true, reduceCtorEq, Bool.and_self, Bool.or_self, Int.reduceBEq, Int.reduceBNe, Int.reduceNeg, decide_true, decide_false, Int.reduceLT, Int.reduceLE, Int.reduceGT]; done)
              | skip
      · skip
        refine (Bool.eq_false_or_eq_true ((([g0, g1, g2, g3, g4, g5, g6, g7, g8, g9] : List Int).getD (ix a) 0 == ([g0, g1, g2, g3, g4, g5, g6, g7, g8, g9] : List Int).getD (ix q) 0))).elim (fun p4 => ?_) fun p4 => ?_
        · skip
          refine (Bool.eq_false_or_eq_true ((([g0, g1, g2, g3, g4, g5, g6, g7, g8, g9] : List Int).getD (ix b) 0 == ([g0, g1, g2, g3, g4, g5, g6, g7, g8, g9] : List Int).getD (ix p) 0))).elim (fun p5 => ?_) fun p5 => ?_
          · skip
            have e : agB lv [g0, g1, g2, g3, g4, g5, g6, g7, g8, g9] p q a b hi = true := by unfold agB; simp only [p1, p2, p4, p5, Bool.true_and, Bool.false_and, Bool.and_false, Bool.and_true, Bool.or_true, Bool.true_or, Bool.or_false, Bool.false_or]
            rw [e]
            repeat' first
              | exact PLe.refl _
              | exact BLe.refl _
              | exact PLeL.nil
              | exact BLeL.nil
              | refine ⟨?_, ?_⟩
              | refine PLeL.cons ?_ ?_
              | refine BLeL.cons ?_ ?_
              | refine ple_int ?_
              | refine ple_bool ?_
              | refine ple_tt ?_
              | refine ple_ff ?_
              | refine PLe.aggL ?_
              | refine PLe.tupL ?_
              | refine BLe.cellsL ?_
              | refine fun h => absurd h (by decide)
              | (refine fun h => ?_; exfalso; simp only [p1, p2, p4, p5, Int.toNat_natCast, Bool.cond_true_left, Bool.cond_false_right, Bool.cond_true_right, Bool.cond_false_left, cond_true, cond_false, Bool.not_true, Bool.not_false, Bool.not_not, Bool.and_true, Bool.true_and, Bool.and_false, Bool.false_and, Bool.or_true, Bool.true_or, Bool.or_false, Bool.false_or, beq_self_eq_true, bne_self_eq_false, Bool.true_eq_false, Bool.false_eq_true, reduceCtorEq, Bool.and_self, Bool.or_self, Int.reduceBEq, Int.reduceBNe, Int.reduceNeg, decide_true, decide_false, Int.reduceLT, Int.reduceLE, Int.reduceGT] at h; done)
              | refine fun (h : @Eq Bool _ _) => ?_
            all_goals first
              | trivial
              | rfl
              | omega
              | exact ⟨ha, hp⟩
              | exact ⟨hb, hq⟩
              | exact ⟨ha, hq⟩
              | exact ⟨hb, hp⟩
              | exact ha.1
              | exact ha.2
              | exact hb.1
              | exact hb.2
              | exact hp.1
              | exact hp.2
              | exact hq.1
              | exact hq.2
              | (simp only [p1, p2, p4, p5, Int.toNat_natCast, Bool.cond_true_left, Bool.cond_false_right, Bool.cond_true_right, Bool.cond_false_left, cond_true, cond_false, Bool.not_true, Bool.not_false, Bool.not_not, Bool.and_true, Bool.true_and, Bool.and_false, Bool.false_and, Bool.or_true, Bool.true_or, Bool.or_false, Bool.false_or, beq_self_eq_true, bne_self_eq_false, Bool.true_eq_false, Bool.false_eq_true, reduceCtorEq, Bool.and_self, Bool.or_self, Int.reduceBEq, Int.reduceBNe, Int.reduceNeg, decide_true, decide_false, Int.reduceLT, Int.reduceLE, Int.reduceGT]; done)
              | (show @Eq Bool _ _; simp only [p1, p2, p4, p5, Int.toNat_natCast, Bool.cond_true_left, Bool.cond_false_right, Bool.cond_true_right, Bool.cond_false_left, cond_true, cond_false, Bool.not_true, Bool.not_false, Bool.not_not, Bool.and_true, Bool.true_and, Bool.and_false, Bool.false_and, Bool.or_true, Bool.true_or, Bool.or_false, Bool.false_or, beq_self_eq_true, bne_self_eq_false, Bool.true_eq_false, Bool.false_eq_true, reduceCtorEq, Bool.and_self, Bool.or_self, Int.reduceBEq, Int.reduceBNe, Int.reduceNeg, decide_true, decide_false, Int.reduceLT, Int.reduceLE, Int.reduceGT]; done)
              | skip
          · skip
            have e : agB lv [g0, g1, g2, g3, g4, g5, g6, g7, g8, g9] p q a b hi = false := by unfold agB; simp only [p1, p2, p4, p5, Bool.true_and, Bool.false_and, Bool.and_false, Bool.and_true, Bool.or_true, Bool.true_or, Bool.or_false, Bool.false_or]
            rw [e]
            repeat' first
              | exact PLe.refl _
              | exact BLe.refl _
              | exact PLeL.nil
              | exact BLeL.nil
              | refine ⟨?_, ?_⟩
              | refine PLeL.cons ?_ ?_
              | refine BLeL.cons ?_ ?_
              | refine ple_int ?_
              | refine ple_bool ?_
              | refine ple_tt ?_
              | refine ple_ff ?_
              | refine PLe.aggL ?_
              | refine PLe.tupL ?_
              | refine BLe.cellsL ?_
              | refine fun h => absurd h (by decide)
              | (refine fun h => ?_; exfalso; simp only [p1, p2, p4, p5, Int.toNat_natCast, Bool.cond_true_left, Bool.cond_false_right, Bool.cond_true_right, Bool.cond_false_left, cond_true, cond_false, Bool.not_true, Bool.not_false, Bool.not_not, Bool.and_true, Bool.true_and, Bool.and_false, Bool.false_and, Bool.or_true, Bool.true_or, Bool.or_false, Bool.false_or, beq_self_eq_true, bne_self_eq_false, Bool.true_eq_false, Bool.false_eq_true, reduceCtorEq, Bool.and_self, Bool.or_self, Int.reduceBEq, Int.reduceBNe, Int.reduceNeg, decide_true, decide_false, Int.reduceLT, Int.reduceLE, Int.reduceGT] at h; done)
              | refine fun (h : @Eq Bool _ _) => ?_
            all_goals first
              | trivial
              | rfl
              | omega
              | exact ⟨ha, hp⟩
              | exact ⟨hb, hq⟩
              | exact ⟨ha, hq⟩
              | exact ⟨hb, hp⟩
              | exact ha.1
              | exact ha.2
              | exact hb.1
              | exact hb.2
              | exact hp.1
              | exact hp.2
              | exact hq.1
              | exact hq.2
              | (simp only [p1, p2, p4, p5, Int.toNat_natCast, Bool.cond_true_left, Bool.cond_false_right, Bool.cond_true_right, Bool.cond_false_left, cond_true, cond_false, Bool.not_true, Bool.not_false, Bool.not_not, Bool.and_true, Bool.true_and, Bool.and_false, Bool.false_and, Bool.or_true, Bool.true_or, Bool.or_false, Bool.false_or, beq_self_eq_true, bne_self_eq_false, Bool.true_eq_false, Bool.false_eq_true, reduceCtorEq, Bool.and_self, Bool.or_self, Int.reduceBEq, Int.reduceBNe, Int.reduceNeg, decide_true, decide_false, Int.reduceLT, Int.reduceLE, Int.reduceGT]; done)
              | (show @Eq Bool _ _; simp only [p1, p2, p4, p5, Int.toNat_natCast, Bool.cond_true_left, Bool.cond_false_right, Bool.cond_true_right, Bool.cond_false_left, cond_true, cond_false, Bool.not_true, Bool.not_false, Bool.not_not, Bool.and_true, Bool.true_and, Bool.and_false, Bool.false_and, Bool.or_true, Bool.true_or, Bool.or_false, Bool.false_or, beq_self_eq_true, bne_self_eq_false, Bool.true_eq_false, Bool.false_eq_true, reduceCtorEq, Bool.and_self, Bool.or_self, Int.reduceBEq, Int.reduceBNe, Int.reduceNeg, decide_true, decide_false, Int.reduceLT, Int.reduceLE, Int.reduceGT]; done)
              | skip
        · skip
          have e : agB lv [g0, g1, g2, g3, g4, g5, g6, g7, g8, g9] p q a b hi = false := by unfold agB; simp only [p1, p2, p4, Bool.true_and, Bool.false_and, Bool.and_false, Bool.and_true, Bool.or_true, Bool.true_or, Bool.or_false, Bool.false_or]
          rw [e]
          repeat' first
            | exact PLe.refl _
            | exact BLe.refl _
            | exact PLeL.nil
            | exact BLeL.nil
            | refine ⟨?_, ?_⟩
            | refine PLeL.cons ?_ ?_
            | refine BLeL.cons ?_ ?_
            | refine ple_int ?_
            | refine ple_bool ?_
            | refine ple_tt ?_
            | refine ple_ff ?_
            | refine PLe.aggL ?_
            | refine PLe.tupL ?_
            | refine BLe.cellsL ?_
            | refine fun h => absurd h (by decide)
            | (refine fun h => ?_; exfalso; simp only [p1, p2, p4, Int.toNat_natCast, Bool.cond_true_left, Bool.cond_false_right, Bool.cond_true_right, Bool.cond_false_left, cond_true, cond_false, Bool.not_true, Bool.not_false, Bool.not_not, Bool.and_true, Bool.true_and, Bool.and_false, Bool.false_and, Bool.or_true, Bool.true_or, Bool.or_false, Bool.false_or, beq_self_eq_true, bne_self_eq_false, Bool.true_eq_false, Bool.false_eq_true, reduceCtorEq, Bool.and_self, Bool.or_self, Int.reduceBEq, Int.reduceBNe, Int.reduceNeg, decide_true, decide_false, Int.reduceLT, Int.reduceLE, Int.reduceGT] at h; done)
            | refine fun (h : @Eq Bool _ _) => ?_
          all_goals first
            | trivial
            | rfl
            | omega
            | exact ⟨ha, hp⟩
            | exact ⟨hb, hq⟩
            | exact ⟨ha, hq⟩
            | exact ⟨hb, hp⟩
            | exact ha.1
            | exact ha.2
            | exact hb.1
            | exact hb.2
            | exact hp.1
            | exact hp.2
            | exact hq.1
            | exact hq.2
            | (simp only [p1, p2, p4, Int.toNat_natCast, Bool.cond_true_left, Bool.cond_false_right, Bool.cond_true_right, Bool.cond_false_left, cond_true, cond_false, Bool.not_true, Bool.not_false, Bool.not_not, Bool.and_true, Bool.true_and, Bool.and_false, Bool.false_and, Bool.or_true, Bool.true_or, Bool.or_false, Bool.false_or, beq_self_eq_true, bne_self_eq_false, Bool.true_eq_false, Bool.false_eq_true, reduceCtorEq, Bool.and_self, Bool.or_self, Int.reduceBEq, Int.reduceBNe, Int.reduceNeg, decide_true, decide_false, Int.reduceLT, Int.reduceLE, Int.reduceGT]; done)
            | (show @Eq Bool _ _; simp only [p1, p2, p4, Int.toNat_natCast, Bool.cond_true_left, Bool.cond_false_right, Bool.cond_true_right, Bool.cond_false_left, cond_true, cond_false, Bool.not_true, Bool.not_false, Bool.not_not, Bool.and_true, Bool.true_and, Bool.and_false, Bool.false_and, Bool.or_true, Bool.true_or, Bool.or_false, Bool.false_or, beq_self_eq_true, bne_self_eq_false, Bool.true_eq_false, Bool.false_eq_true, reduceCtorEq, Bool.and_self, Bool.or_self, Int.reduceBEq, Int.reduceBNe, Int.reduceNeg, decide_true, decide_false, Int.reduceLT, Int.reduceLE, Int.reduceGT]; done)
            | skip
    · skip
      have e : agB lv [g0, g1, g2, g3, g4, g5, g6, g7, g8, g9] p q a b hi = false := by unfold agB; simp only [p1, Bool.true_and, Bool.false_and, Bool.and_false, Bool.and_true, Bool.or_true, Bool.true_or, Bool.or_false, Bool.false_or]
      rw [e]
      repeat' first
        | exact PLe.refl _
        | exact BLe.refl _
        | exact PLeL.nil
        | exact BLeL.nil
        | refine ⟨?_, ?_⟩
        | refine PLeL.cons ?_ ?_
        | refine BLeL.cons ?_ ?_
        | refine ple_int ?_
        | refine ple_bool ?_
        | refine ple_tt ?_
        | refine ple_ff ?_
        | refine PLe.aggL ?_
        | refine PLe.tupL ?_
        | refine BLe.cellsL ?_
        | refine fun h => absurd h (by decide)
        | (refine fun h => ?_; exfalso; simp only [p1, Int.toNat_natCast, Bool.cond_true_left, Bool.cond_false_right, Bool.cond_true_right, Bool.cond_false_left, cond_true, cond_false, Bool.not_true, Bool.not_false, Bool.not_not, Bool.and_true, Bool.true_and, Bool.and_false, Bool.false_and, Bool.or_true, Bool.true_or, Bool.or_false, Bool.false_or, beq_self_eq_true, bne_self_eq_false, Bool.true_eq_false, Bool.false_eq_true, reduceCtorEq, Bool.and_self, Bool.or_self, Int.reduceBEq, Int.reduceBNe, Int.reduceNeg, decide_true, decide_false, Int.reduceLT, Int.reduceLE, Int.reduceGT] at h; done)
        | refine fun (h : @Eq Bool _ _) => ?_
      all_goals first
        | trivial
        | rfl
        | omega
        | exact ⟨ha, hp⟩
        | exact ⟨hb, hq⟩
        | exact ⟨ha, hq⟩
        | exact ⟨hb, hp⟩
        | exact ha.1
        | exact ha.2
        | exact hb.1
        | exact hb.2
        | exact hp.1
        | exact hp.2
        | exact hq.1
        | exact hq.2
        | (simp only [p1, Int.toNat_natCast, Bool.cond_true_left, Bool.cond_false_right, Bool.cond_true_right, Bool.cond_false_left, cond_true, cond_false, Bool.not_true, Bool.not_false, Bool.not_not, Bool.and_true, Bool.true_and, Bool.and_false, Bool.false_and, Bool.or_true, Bool.true_or, Bool.or_false, Bool.false_or, beq_self_eq_true, bne_self_eq_false, Bool.true_eq_false, Bool.false_eq_true, reduceCtorEq, Bool.and_self, Bool.or_self, Int.reduceBEq, Int.reduceBNe, Int.reduceNeg, decide_true, decide_false, Int.reduceLT, Int.reduceLE, Int.reduceGT]; done)
        | (show @Eq Bool _ _; simp only [p1, Int.toNat_natCast, Bool.cond_true_left, Bool.cond_false_right, Bool.cond_true_right, Bool.cond_false_left, cond_true, cond_false, Bool.not_true, Bool.not_false, Bool.not_not, Bool.and_true, Bool.true_and, Bool.and_false, Bool.false_and, Bool.or_true, Bool.true_or, Bool.or_false, Bool.false_or, beq_self_eq_true, bne_self_eq_false, Bool.true_eq_false, Bool.false_eq_true, reduceCtorEq, Bool.and_self, Bool.or_self, Int.reduceBEq, Int.reduceBNe, Int.reduceNeg, decide_true, decide_false, Int.reduceLT, Int.reduceLE, Int.reduceGT]; done)
        | skip
  · exact h.elim
def firstCS : V.Spec
  | [.slice none n get, .fn (.func 96) [.agg [.int .i64 wl, .int .i64 lv, .slice none m gt, .int .i64 g0, .int .i64 g1, .int .i64 g2, .int .i64 g3, .int .i64 g4, .int .i64 g5, .int .i64 g6, .int .i64 g7, .int .i64 g8, .int .i64 g9]] []] => (some ((isL obsL n get ∧ ∀ i, i < n → in10 (obsOf (get i)).a ∧ in10 (obsOf (get i)).b)), I (firstN (fun i => clB lv [g0, g1, g2, g3, g4, g5, g6, g7, g8, g9] (obsOf (get i)).a (obsOf (get i)).b (obsOf (get i)).hi) n))
  | _ => bad
set_option maxRecDepth 20000 in
set_option maxHeartbeats 1000000 in
theorem sf95a : SF Try.prog 95 firstCS := by
  refine sf_of types_ok mixed (l := [(96, isClashS)]) ⟨sf96, trivial⟩ (es := []) trivial 2 Try.func95 rfl (by kernel_rfl) fun args h => ?_
  unfold firstCS at h
  split at h
  · rename_i n get wl lv m gt g0 g1 g2 g3 g4 g5 g6 g7 g8 g9
    obtain ⟨hL, hs⟩ : (isL obsL n get ∧ ∀ i, i < n → in10 (obsOf (get i)).a ∧ in10 (obsOf (get i)).b) := h
    obtain ⟨hn, s, rfl⟩ := isL.get hL
    clear hL
    have hs : ∀ i, i < n → in10 (s i).a ∧ in10 (s i).b := hs
    refine ⟨rfl, ?_⟩
    show evalCode _ _ _ fun o => match o with
      | .normal st | .ret st => withP _ (_ ∧ PLe _ (I (firstN (fun i => clB lv [g0, g1, g2, g3, g4, g5, g6, g7, g8, g9] (s i).a (s i).b (s i).hi) n)))
      | _ => False
    refine halt_rng (cnt 8) n [0, 1, 7, 8] [] (fun k => [.slice none n fun i => obsL (s i), .fn (.func 96) [.agg [I wl, I lv, .slice none m gt, I g0, I g1, I g2, I g3, I g4, I g5, I g6, I g7, I g8, I g9]] [], I n, I k]) (fun k => []) (fun k => ∀ i, i < k → (clB lv [g0, g1, g2, g3, g4, g5, g6, g7, g8, g9] (s i).a (s i).b (s i).hi) = false) rfl (.mk ?_ ?_) (fun i hi => by omega) ?_
    · repeat' first
        | exact PLe.refl _
        | exact PLeL.nil
        | exact BLeL.nil
        | refine ⟨?_, ?_⟩
        | refine PLeL.cons ?_ ?_
    · exact BLeL.nil
    · intro k hk hQ
      refine ⟨fun h1 => ?_, fun h1 => ?_⟩
      · have hlt : k < n := by simpa using h1
        have e1 := succ_w hlt hn
        clear h1
        obtain ⟨ha, hb⟩ := hs k hlt
        refine (Bool.eq_false_or_eq_true (clB lv [g0, g1, g2, g3, g4, g5, g6, g7, g8, g9] (s k).a (s k).b (s k).hi)).elim (fun hp' => ?_) fun hp' => ?_
        · have e2 : firstN (fun i => clB lv [g0, g1, g2, g3, g4, g5, g6, g7, g8, g9] (s i).a (s i).b (s i).hi) n = (k : Int) := firstN_t hQ hp' hlt
          rw [e2]
          repeat' first
            | exact PLe.refl _
            | exact BLe.refl _
            | exact PLeL.nil
            | exact BLeL.nil
            | refine ⟨?_, ?_⟩
            | refine PLeL.cons ?_ ?_
            | refine BLeL.cons ?_ ?_
            | refine ple_int ?_
            | refine ple_bool ?_
            | refine ple_tt ?_
            | refine ple_ff ?_
            | refine PLe.aggL ?_
            | refine PLe.tupL ?_
            | refine BLe.cellsL ?_
            | refine fun h => absurd h (by decide)
            | (refine fun h => ?_; exfalso; simp only [hp', Int.toNat_natCast, Bool.cond_true_left, Bool.cond_false_right, Bool.cond_true_right, Bool.cond_false_left, cond_true, cond_false, Bool.not_true, Bool.not_false, Bool.not_not, Bool.and_true, Bool.true_and, Bool.and_false, Bool.false_and, Bool.or_true, Bool.true_or, Bool.or_false, Bool.false_or, beq_self_eq_true, bne_self_eq_false, Bool.true_eq_false, Bool.false_eq_true, reduceCtorEq, Bool.and_self, Bool.or_self, Int.reduceBEq, Int.reduceBNe, Int.reduceNeg, decide_true, decide_false, Int.reduceLT, Int.reduceLE, Int.reduceGT] at h; done)
            | refine fun (h : @Eq Bool _ _) => ?_
          all_goals first
            | trivial
            | rfl
            | omega
            | exact ⟨ha, hp⟩
            | exact ⟨hb, hq⟩
            | exact ⟨ha, hq⟩
            | exact ⟨hb, hp⟩
            | exact ha.1
            | exact ha.2
            | exact hb.1
            | exact hb.2
            | exact hp.1
            | exact hp.2
            | exact hq.1
            | exact hq.2
            | exact ⟨ha, hb⟩
            | exact ⟨⟨ha, hb⟩, hp, hq⟩
            | (simp only [hp', Int.toNat_natCast, Bool.cond_true_left, Bool.cond_false_right, Bool.cond_true_right, Bool.cond_false_left, cond_true, cond_false, Bool.not_true, Bool.not_false, Bool.not_not, Bool.and_true, Bool.true_and, Bool.and_false, Bool.false_and, Bool.or_true, Bool.true_or, Bool.or_false, Bool.false_or, beq_self_eq_true, bne_self_eq_false, Bool.true_eq_false, Bool.false_eq_true, reduceCtorEq, Bool.and_self, Bool.or_self, Int.reduceBEq, Int.reduceBNe, Int.reduceNeg, decide_true, decide_false, Int.reduceLT, Int.reduceLE, Int.reduceGT]; done)
            | (show @Eq Bool _ _; simp only [hp', Int.toNat_natCast, Bool.cond_true_left, Bool.cond_false_right, Bool.cond_true_right, Bool.cond_false_left, cond_true, cond_false, Bool.not_true, Bool.not_false, Bool.not_not, Bool.and_true, Bool.true_and, Bool.and_false, Bool.false_and, Bool.or_true, Bool.true_or, Bool.or_false, Bool.false_or, beq_self_eq_true, bne_self_eq_false, Bool.true_eq_false, Bool.false_eq_true, reduceCtorEq, Bool.and_self, Bool.or_self, Int.reduceBEq, Int.reduceBNe, Int.reduceNeg, decide_true, decide_false, Int.reduceLT, Int.reduceLE, Int.reduceGT]; done)
            | skip
        · have hQ' : ∀ i, i < k + 1 → (clB lv [g0, g1, g2, g3, g4, g5, g6, g7, g8, g9] (s i).a (s i).b (s i).hi) = false := fun i hi => by
            rcases Nat.lt_succ_iff_lt_or_eq.1 hi with h1 | rfl
            · exact hQ i h1
            · exact hp'
          repeat' first
            | exact PLe.refl _
            | exact BLe.refl _
            | exact PLeL.nil
            | exact BLeL.nil
            | refine ⟨?_, ?_⟩
            | refine PLeL.cons ?_ ?_
            | refine BLeL.cons ?_ ?_
            | refine ple_int ?_
            | refine ple_bool ?_
            | refine ple_tt ?_
            | refine ple_ff ?_
            | refine PLe.aggL ?_
            | refine PLe.tupL ?_
            | refine BLe.cellsL ?_
            | refine next_rng (cn := cnt 8) rfl (fun _ => rfl) hlt hQ' (.mk ?_ ?_)
            | refine fun h => absurd h (by decide)
            | (refine fun h => ?_; exfalso; simp only [hp', Int.toNat_natCast, Bool.cond_true_left, Bool.cond_false_right, Bool.cond_true_right, Bool.cond_false_left, cond_true, cond_false, Bool.not_true, Bool.not_false, Bool.not_not, Bool.and_true, Bool.true_and, Bool.and_false, Bool.false_and, Bool.or_true, Bool.true_or, Bool.or_false, Bool.false_or, beq_self_eq_true, bne_self_eq_false, Bool.true_eq_false, Bool.false_eq_true, reduceCtorEq, Bool.and_self, Bool.or_self, Int.reduceBEq, Int.reduceBNe, Int.reduceNeg, decide_true, decide_false, Int.reduceLT, Int.reduceLE, Int.reduceGT] at h; done)
            | refine fun (h : @Eq Bool _ _) => ?_
          all_goals first
            | trivial
            | rfl
            | omega
            | exact ⟨ha, hp⟩
            | exact ⟨hb, hq⟩
            | exact ⟨ha, hq⟩
            | exact ⟨hb, hp⟩
            | exact ha.1
            | exact ha.2
            | exact hb.1
            | exact hb.2
            | exact hp.1
            | exact hp.2
            | exact hq.1
            | exact hq.2
            | exact ⟨ha, hb⟩
            | exact ⟨⟨ha, hb⟩, hp, hq⟩
            | exact e1
            | (simp only [hp', Int.toNat_natCast, Bool.cond_true_left, Bool.cond_false_right, Bool.cond_true_right, Bool.cond_false_left, cond_true, cond_false, Bool.not_true, Bool.not_false, Bool.not_not, Bool.and_true, Bool.true_and, Bool.and_false, Bool.false_and, Bool.or_true, Bool.true_or, Bool.or_false, Bool.false_or, beq_self_eq_true, bne_self_eq_false, Bool.true_eq_false, Bool.false_eq_true, reduceCtorEq, Bool.and_self, Bool.or_self, Int.reduceBEq, Int.reduceBNe, Int.reduceNeg, decide_true, decide_false, Int.reduceLT, Int.reduceLE, Int.reduceGT]; done)
            | (show @Eq Bool _ _; simp only [hp', Int.toNat_natCast, Bool.cond_true_left, Bool.cond_false_right, Bool.cond_true_right, Bool.cond_false_left, cond_true, cond_false, Bool.not_true, Bool.not_false, Bool.not_not, Bool.and_true, Bool.true_and, Bool.and_false, Bool.false_and, Bool.or_true, Bool.true_or, Bool.or_false, Bool.false_or, beq_self_eq_true, bne_self_eq_false, Bool.true_eq_false, Bool.false_eq_true, reduceCtorEq, Bool.and_self, Bool.or_self, Int.reduceBEq, Int.reduceBNe, Int.reduceNeg, decide_true, decide_false, Int.reduceLT, Int.reduceLE, Int.reduceGT]; done)
            | skip
      · have hkn : k = n := by
          have : ¬ ((k : Int) < n) := of_decide_eq_false h1
          omega
        subst hkn
        have e2 : firstN (fun i => clB lv [g0, g1, g2, g3, g4, g5, g6, g7, g8, g9] (s i).a (s i).b (s i).hi) k = -1 := firstN_f hQ
        rw [e2]
        repeat' first
          | exact PLe.refl _
          | exact BLe.refl _
          | exact PLeL.nil
          | exact BLeL.nil
          | refine ⟨?_, ?_⟩
          | refine PLeL.cons ?_ ?_
          | refine BLeL.cons ?_ ?_
          | refine ple_int ?_
          | refine ple_bool ?_
          | refine ple_tt ?_
          | refine ple_ff ?_
          | refine PLe.aggL ?_
          | refine PLe.tupL ?_
          | refine BLe.cellsL ?_
          | refine fun h => absurd h (by decide)
          | refine fun (h : @Eq Bool _ _) => ?_
        all_goals first
          | trivial
          | rfl
          | omega
          | skip
  · exact h.elim
def cfirstCS : V.Spec
  | [.slice none n get, .fn (.func 96) [.agg [.int .i64 wl, .int .i64 lv, .slice none m gt, .int .i64 g0, .int .i64 g1, .int .i64 g2, .int .i64 g3, .int .i64 g4, .int .i64 g5, .int .i64 g6, .int .i64 g7, .int .i64 g8, .int .i64 g9]] []] => (some ((isL obsL n get ∧ ∀ i, i < n → in10 (obsOf (get i)).a ∧ in10 (obsOf (get i)).b)), .bool (decide (0 ≤ firstN (fun i => clB lv [g0, g1, g2, g3, g4, g5, g6, g7, g8, g9] (obsOf (get i)).a (obsOf (get i)).b (obsOf (get i)).hi) n)))
  | _ => bad
theorem sf104a : SF Try.prog 104 cfirstCS := by
  refine sf_of types_ok mixed (l := [(95, firstCS)]) ⟨sf95a, trivial⟩ (es := []) trivial 2 Try.func104 rfl (by kernel_rfl) fun args h => ?_
  unfold cfirstCS at h
  split at h
  · rename_i n get wl lv m gt g0 g1 g2 g3 g4 g5 g6 g7 g8 g9
    have hc : (isL obsL n get ∧ ∀ i, i < n → in10 (obsOf (get i)).a ∧ in10 (obsOf (get i)).b) := h
    clear h
    refine ⟨rfl, ?_⟩
    show evalCode _ _ _ fun o => match o with
      | .normal st | .ret st => withP _ (_ ∧ PLe _ (.bool (decide (0 ≤ firstN (fun i => clB lv [g0, g1, g2, g3, g4, g5, g6, g7, g8, g9] (obsOf (get i)).a (obsOf (get i)).b (obsOf (get i)).hi) n))))
      | _ => False
    repeat' first
      | exact PLe.refl _
      | exact BLe.refl _
      | exact PLeL.nil
      | exact BLeL.nil
      | refine ⟨?_, ?_⟩
      | refine PLeL.cons ?_ ?_
      | refine BLeL.cons ?_ ?_
      | refine ple_int ?_
      | refine ple_bool ?_
      | refine ple_tt ?_
      | refine ple_ff ?_
      | refine PLe.aggL ?_
      | refine PLe.tupL ?_
      | refine BLe.cellsL ?_
      | refine fun h => absurd h (by decide)
      | refine fun (h : @Eq Bool _ _) => ?_
    all_goals first
      | trivial
      | rfl
      | omega
      | exact hc
      | exact hc.1
      | exact hc.2
      | exact hc.1.1
      | exact hc.1.2
      | exact hc.2.1
      | exact hc.2.2
      | skip
  · exact h.elim
def firstRS : V.Spec
  | [.slice none n get, .fn (.func 127) [] [.cptr [.int .i64 wl, .int .i64 lv, .slice none m gt, .int .i64 g0, .int .i64 g1, .int .i64 g2, .int .i64 g3, .int .i64 g4, .int .i64 g5, .int .i64 g6, .int .i64 g7, .int .i64 g8, .int .i64 g9], .cptr [.int .i64 p], .cptr [.int .i64 q]]] => (some ((isL obsL n get ∧ ∀ i, i < n → in10 (obsOf (get i)).a ∧ in10 (obsOf (get i)).b) ∧ in10 p ∧ in10 q), I (firstN (fun i => agB lv [g0, g1, g2, g3, g4, g5, g6, g7, g8, g9] p q (obsOf (get i)).a (obsOf (get i)).b (obsOf (get i)).hi) n))
  | _ => bad
set_option maxRecDepth 20000 in
set_option maxHeartbeats 1000000 in
theorem sf95b : SF Try.prog 95 firstRS := by
  refine sf_of types_ok mixed (l := [(127, rel1S)]) ⟨sf127, trivial⟩ (es := []) trivial 2 Try.func95 rfl (by kernel_rfl) fun args h => ?_
  unfold firstRS at h
  split at h
  · rename_i n get wl lv m gt g0 g1 g2 g3 g4 g5 g6 g7 g8 g9 p q
    obtain ⟨⟨hL, hs⟩, hp, hq⟩ : (isL obsL n get ∧ ∀ i, i < n → in10 (obsOf (get i)).a ∧ in10 (obsOf (get i)).b) ∧ in10 p ∧ in10 q := h
    obtain ⟨hn, s, rfl⟩ := isL.get hL
    clear hL
    have hs : ∀ i, i < n → in10 (s i).a ∧ in10 (s i).b := hs
    refine ⟨rfl, ?_⟩
    show evalCode _ _ _ fun o => match o with
      | .normal st | .ret st => withP _ (_ ∧ PLe _ (I (firstN (fun i => agB lv [g0, g1, g2, g3, g4, g5, g6, g7, g8, g9] p q (s i).a (s i).b (s i).hi) n)))
      | _ => False
    refine halt_rng (cnt 8) n [0, 1, 7, 8] [] (fun k => [.slice none n fun i => obsL (s i), .fn (.func 127) [] [.cptr [I wl, I lv, .slice none m gt, I g0, I g1, I g2, I g3, I g4, I g5, I g6, I g7, I g8, I g9], .cptr [I p], .cptr [I q]], I n, I k]) (fun k => []) (fun k => ∀ i, i < k → (agB lv [g0, g1, g2, g3, g4, g5, g6, g7, g8, g9] p q (s i).a (s i).b (s i).hi) = false) rfl (.mk ?_ ?_) (fun i hi => by omega) ?_
    · repeat' first
        | exact PLe.refl _
        | exact PLeL.nil
        | exact BLeL.nil
        | refine ⟨?_, ?_⟩
        | refine PLeL.cons ?_ ?_
    · exact BLeL.nil
    · intro k hk hQ
      refine ⟨fun h1 => ?_, fun h1 => ?_⟩
      · have hlt : k < n := by simpa using h1
        have e1 := succ_w hlt hn
        clear h1
        obtain ⟨ha, hb⟩ := hs k hlt
        refine (Bool.eq_false_or_eq_true (agB lv [g0, g1, g2, g3, g4, g5, g6, g7, g8, g9] p q (s k).a (s k).b (s k).hi)).elim (fun hp' => ?_) fun hp' => ?_
        · have e2 : firstN (fun i => agB lv [g0, g1, g2, g3, g4, g5, g6, g7, g8, g9] p q (s i).a (s i).b (s i).hi) n = (k : Int) := firstN_t hQ hp' hlt
          rw [e2]
          repeat' first
            | exact PLe.refl _
            | exact BLe.refl _
            | exact PLeL.nil
            | exact BLeL.nil
            | refine ⟨?_, ?_⟩
            | refine PLeL.cons ?_ ?_
            | refine BLeL.cons ?_ ?_
            | refine ple_int ?_
            | refine ple_bool ?_
            | refine ple_tt ?_
            | refine ple_ff ?_
            | refine PLe.aggL ?_
            | refine PLe.tupL ?_
            | refine BLe.cellsL ?_
            | refine fun h => absurd h (by decide)
            | (refine fun h => ?_; exfalso; simp only [hp', Int.toNat_natCast, Bool.cond_true_left, Bool.cond_false_right, Bool.cond_true_right, Bool.cond_false_left, cond_true, cond_false, Bool.not_true, Bool.not_false, Bool.not_not, Bool.and_true, Bool.true_and, Bool.and_false, Bool.false_and, Bool.or_true, Bool.true_or, Bool.or_false, Bool.false_or, beq_self_eq_true, bne_self_eq_false, Bool.true_eq_false, Bool.false_eq_true, reduceCtorEq, Bool.and_self, Bool.or_self, Int.reduceBEq, Int.reduceBNe, Int.reduceNeg, decide_true, decide_false, Int.reduceLT, Int.reduceLE, Int.reduceGT] at h; done)
            | refine fun (h : @Eq Bool _ _) => ?_
          all_goals first
            | trivial
            | rfl
            | omega
            | exact ⟨ha, hp⟩
            | exact ⟨hb, hq⟩
            | exact ⟨ha, hq⟩
            | exact ⟨hb, hp⟩
            | exact ha.1
            | exact ha.2
            | exact hb.1
            | exact hb.2
            | exact hp.1
            | exact hp.2
            | exact hq.1
            | exact hq.2
            | exact ⟨ha, hb⟩
            | exact ⟨⟨ha, hb⟩, hp, hq⟩
            | (simp only [hp', Int.toNat_natCast, Bool.cond_true_left, Bool.cond_false_right, Bool.cond_true_right, Bool.cond_false_left, cond_true, cond_false, Bool.not_true, Bool.not_false, Bool.not_not, Bool.and_true, Bool.true_and, Bool.and_false, Bool.false_and, Bool.or_true, Bool.true_or, Bool.or_false, Bool.false_or, beq_self_eq_true, bne_self_eq_false, Bool.true_eq_false, Bool.false_eq_true, reduceCtorEq, Bool.and_self, Bool.or_self, Int.reduceBEq, Int.reduceBNe, Int.reduceNeg, decide_true, decide_false, Int.reduceLT, Int.reduceLE, Int.reduceGT]; done)
            | (show @Eq Bool _ _; simp only [hp', Int.toNat_natCast, Bool.cond_true_left, Bool.cond_false_right, Bool.cond_true_right, Bool.cond_false_left, cond_true, cond_false, Bool.not_true, Bool.not_false, Bool.not_not, Bool.and_true, Bool.true_and, Bool.and_false, Bool.false_and, Bool.or_true, Bool.true_or, Bool.or_false, Bool.false_or, beq_self_eq_true, bne_self_eq_false, Bool.true_eq_false, Bool.false_eq_true, reduceCtorEq, Bool.and_self, Bool.or_self, Int.reduceBEq, Int.reduceBNe, Int.reduceNeg, decide_true, decide_false, Int.reduceLT, Int.reduceLE, Int.reduceGT]; done)
            | skip
        · have hQ' : ∀ i, i < k + 1 → (agB lv [g0, g1, g2, g3, g4, g5, g6, g7, g8, g9] p q (s i).a (s i).b (s i).hi) = false := fun i hi => by
            rcases Nat.lt_succ_iff_lt_or_eq.1 hi with h1 | rfl
            · exact hQ i h1
            · exact hp'
          repeat' first
            | exact PLe.refl _
            | exact BLe.refl _
            | exact PLeL.nil
            | exact BLeL.nil
            | refine ⟨?_, ?_⟩
            | refine PLeL.cons ?_ ?_
            | refine BLeL.cons ?_ ?_
            | refine ple_int ?_
            | refine ple_bool ?_
            | refine ple_tt ?_
            | refine ple_ff ?_
            | refine PLe.aggL ?_
            | refine PLe.tupL ?_
            | refine BLe.cellsL ?_
            | refine next_rng (cn := cnt 8) rfl (fun _ => rfl) hlt hQ' (.mk ?_ ?_)
            | refine fun h => absurd h (by decide)
            | (refine fun h => ?_; exfalso; simp only [hp', Int.toNat_natCast, Bool.cond_true_left, Bool.cond_false_right, Bool.cond_true_right, Bool.cond_false_left, cond_true, cond_false, Bool.not_true, Bool.not_false, Bool.not_not, Bool.and_true, Bool.true_and, Bool.and_false, Bool.false_and, Bool.or_true, Bool.true_or, Bool.or_false, Bool.false_or, beq_self_eq_true, bne_self_eq_false, Bool.true_eq_false, Bool.false_eq_true, reduceCtorEq, Bool.and_self, Bool.or_self, Int.reduceBEq, Int.reduceBNe, Int.reduceNeg, decide_true, decide_false, Int.reduceLT, Int.reduceLE, Int.reduceGT] at h; done)
            | refine fun (h : @Eq Bool _ _) => ?_
          all_goals first
            | trivial
            | rfl
            | omega
            | exact ⟨ha, hp⟩
            | exact ⟨hb, hq⟩
            | exact ⟨ha, hq⟩
            | exact ⟨hb, hp⟩
            | exact ha.1
            | exact ha.2
            | exact hb.1
            | exact hb.2
            | exact hp.1
            | exact hp.2
            | exact hq.1
            | exact hq.2
            | exact ⟨ha, hb⟩
            | exact ⟨⟨ha, hb⟩, hp, hq⟩
            | exact e1
            | (simp only [hp', Int.toNat_natCast, Bool.cond_true_left, Bool.cond_false_right, Bool.cond_true_right, Bool.cond_false_left, cond_true, cond_false, Bool.not_true, Bool.not_false, Bool.not_not, Bool.and_true, Bool.true_and, Bool.and_false, Bool.false_and, Bool.or_true, Bool.true_or, Bool.or_false, Bool.false_or, beq_self_eq_true, bne_self_eq_false, Bool.true_eq_false, Bool.false_eq_true, reduceCtorEq, Bool.and_self, Bool.or_self, Int.reduceBEq, Int.reduceBNe, Int.reduceNeg, decide_true, decide_false, Int.reduceLT, Int.reduceLE, Int.reduceGT]; done)
            | (show @Eq Bool _ _; simp only [hp', Int.toNat_natCast, Bool.cond_true_left, Bool.cond_false_right, Bool.cond_true_right, Bool.cond_false_left, cond_true, cond_false, Bool.not_true, Bool.not_false, Bool.not_not, Bool.and_true, Bool.true_and, Bool.and_false, Bool.false_and, Bool.or_true, Bool.true_or, Bool.or_false, Bool.false_or, beq_self_eq_true, bne_self_eq_false, Bool.true_eq_false, Bool.false_eq_true, reduceCtorEq, Bool.and_self, Bool.or_self, Int.reduceBEq, Int.reduceBNe, Int.reduceNeg, decide_true, decide_false, Int.reduceLT, Int.reduceLE, Int.reduceGT]; done)
            | skip
      · have hkn : k = n := by
          have : ¬ ((k : Int) < n) := of_decide_eq_false h1
          omega
        subst hkn
        have e2 : firstN (fun i => agB lv [g0, g1, g2, g3, g4, g5, g6, g7, g8, g9] p q (s i).a (s i).b (s i).hi) k = -1 := firstN_f hQ
        rw [e2]
        repeat' first
          | exact PLe.refl _
          | exact BLe.refl _
          | exact PLeL.nil
          | exact BLeL.nil
          | refine ⟨?_, ?_⟩
          | refine PLeL.cons ?_ ?_
          | refine BLeL.cons ?_ ?_
          | refine ple_int ?_
          | refine ple_bool ?_
          | refine ple_tt ?_
          | refine ple_ff ?_
          | refine PLe.aggL ?_
          | refine PLe.tupL ?_
          | refine BLe.cellsL ?_
          | refine fun h => absurd h (by decide)
          | refine fun (h : @Eq Bool _ _) => ?_
        all_goals first
          | trivial
          | rfl
          | omega
          | skip
  · exact h.elim
def cfirstRS : V.Spec
  | [.slice none n get, .fn (.func 127) [] [.cptr [.int .i64 wl, .int .i64 lv, .slice none m gt, .int .i64 g0, .int .i64 g1, .int .i64 g2, .int .i64 g3, .int .i64 g4, .int .i64 g5, .int .i64 g6, .int .i64 g7, .int .i64 g8, .int .i64 g9], .cptr [.int .i64 p], .cptr [.int .i64 q]]] => (some ((isL obsL n get ∧ ∀ i, i < n → in10 (obsOf (get i)).a ∧ in10 (obsOf (get i)).b) ∧ in10 p ∧ in10 q), .bool (decide (0 ≤ firstN (fun i => agB lv [g0, g1, g2, g3, g4, g5, g6, g7, g8, g9] p q (obsOf (get i)).a (obsOf (get i)).b (obsOf (get i)).hi) n)))
  | _ => bad
theorem sf104b : SF Try.prog 104 cfirstRS := by
  refine sf_of types_ok mixed (l := [(95, firstRS)]) ⟨sf95b, trivial⟩ (es := []) trivial 2 Try.func104 rfl (by kernel_rfl) fun args h => ?_
  unfold cfirstRS at h
  split at h
  · rename_i n get wl lv m gt g0 g1 g2 g3 g4 g5 g6 g7 g8 g9 p q
    have hc : (isL obsL n get ∧ ∀ i, i < n → in10 (obsOf (get i)).a ∧ in10 (obsOf (get i)).b) ∧ in10 p ∧ in10 q := h
    clear h
    refine ⟨rfl, ?_⟩
    show evalCode _ _ _ fun o => match o with
      | .normal st | .ret st => withP _ (_ ∧ PLe _ (.bool (decide (0 ≤ firstN (fun i => agB lv [g0, g1, g2, g3, g4, g5, g6, g7, g8, g9] p q (obsOf (get i)).a (obsOf (get i)).b (obsOf (get i)).hi) n))))
      | _ => False
    repeat' first
      | exact PLe.refl _
      | exact BLe.refl _
      | exact PLeL.nil
      | exact BLeL.nil
      | refine ⟨?_, ?_⟩
      | refine PLeL.cons ?_ ?_
      | refine BLeL.cons ?_ ?_
      | refine ple_int ?_
      | refine ple_bool ?_
      | refine ple_tt ?_
      | refine ple_ff ?_
      | refine PLe.aggL ?_
      | refine PLe.tupL ?_
      | refine BLe.cellsL ?_
      | refine fun h => absurd h (by decide)
      | refine fun (h : @Eq Bool _ _) => ?_
    all_goals first
      | trivial
      | rfl
      | omega
      | exact hc
      | exact hc.1
      | exact hc.2
      | exact hc.1.1
      | exact hc.1.2
      | exact hc.2.1
      | exact hc.2.2
      | skip
  · exact h.elim
end Go.Proofs.Ytnjhbmcambofgaa
