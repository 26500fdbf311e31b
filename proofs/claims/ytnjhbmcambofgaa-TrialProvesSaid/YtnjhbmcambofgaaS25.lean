/- Layer 4: what shows that no curve agrees, by the document's words. -/
import Derived.Test.YtnjhbmcambofgaaS24
namespace Go.Proofs.Ytnjhbmcambofgaa
open Go.V
set_option linter.unusedSimpArgs false
set_option linter.unusedVariables false

def pairOf : List PV → Int × Int
  | [.int .i64 a, .int .i64 b] => (a, b)
  | _ => (0, 0)
def okIJ (t : Tst) (k : Nat) (p : Nat → Int × Int) (i j : Nat) : Bool := !decide ((k : Int) ≤ ((i * t.nc + j : Nat) : Int)) && conB t (t.b.lo + i) (t.c.lo + j) (p (i * t.nc + j)).1 (p (i * t.nc + j)).2
def okRow (t : Tst) (k : Nat) (p : Nat → Int × Int) (i : Nat) : Bool := allN (okIJ t k p i) t.nc
def showB (t : Tst) (k : Nat) (p : Nat → Int × Int) : Bool := allN (okRow t k p) t.nb && (((t.nb * t.nc : Nat) : Int) == (k : Int))
def refShowS : V.Spec
  | [.agg [.int .i64 a1, .int .i64 a2, .int .i64 b1, .int .i64 b2, .int .i64 c1, .int .i64 c2, .slice none n get], .slice none k getp] => (some (isT (tstOf a1 a2 b1 b2 c1 c2 n get) get ∧ isL pairL k getp), .bool (showB (tstOf a1 a2 b1 b2 c1 c2 n get) k fun i => pairOf (getp i)))
  | _ => bad
set_option maxRecDepth 20000 in
set_option maxHeartbeats 1000000 in
theorem sf40 : SF Try.prog 40 refShowS := by
  refine sf_of types_ok mixed (l := [(92, refConS)]) ⟨sf92, trivial⟩ (es := []) trivial 2 Try.func40 rfl (by kernel_rfl) fun args h => ?_
  unfold refShowS at h
  split at h
  · rename_i a1 a2 b1 b2 c1 c2 n get k getp
    obtain ⟨hT, hP⟩ : isT (tstOf a1 a2 b1 b2 c1 c2 n get) get ∧ isL pairL k getp := h
    obtain ⟨hok, e⟩ := isT.get hT
    obtain ⟨s, rfl⟩ : ∃ s : Nat → Stp, get = fun i => stpL (s i) := ⟨_, e⟩
    obtain ⟨hk, p, rfl⟩ := isL.get hP
    clear e
    refine ⟨rfl, ?_⟩
    show evalCode _ _ _ fun o => match o with
      | .normal st | .ret st => withP _ (_ ∧ PLe _ (.bool (showB (tstOf a1 a2 b1 b2 c1 c2 n fun i => stpL (s i)) k p)))
      | _ => False
    have hn : n ≤ 12 := hok.n
    have hL : isL stpL n fun i => stpL (s i) := .mk s (by omega) rfl
    have hb : 0 ≤ b1 ∧ b1 ≤ b2 ∧ b2 ≤ 10000 ∧ b2 - b1 ≤ 39 := hok.b
    have hc : 0 ≤ c1 ∧ c1 ≤ c2 ∧ c2 ≤ 1000 ∧ c2 - c1 ≤ 39 := hok.c
    have hnbD : ((tstOf a1 a2 b1 b2 c1 c2 n fun i => stpL (s i))).nb = (b2 - b1 + 1).toNat := rfl
    have hncD : ((tstOf a1 a2 b1 b2 c1 c2 n fun i => stpL (s i))).nc = (c2 - c1 + 1).toNat := rfl
    have hnb : ((tstOf a1 a2 b1 b2 c1 c2 n fun i => stpL (s i))).nb ≤ 40 := by rw [hnbD]; omega
    have hnc : ((tstOf a1 a2 b1 b2 c1 c2 n fun i => stpL (s i))).nc ≤ 40 := by rw [hncD]; omega
    have hall : ∀ i, i ≤ ((tstOf a1 a2 b1 b2 c1 c2 n fun i => stpL (s i))).nb → i * ((tstOf a1 a2 b1 b2 c1 c2 n fun i => stpL (s i))).nc ≤ 1600 := fun i hi => Nat.le_trans (Nat.mul_le_mul hi hnc) (Nat.le_trans (Nat.mul_le_mul_right _ hnb) (by omega))
    repeat' first | (exact PLe.refl _) | (exact BLe.refl _) | (exact PLeL.nil) | (exact BLeL.nil) | (refine ⟨?_, ?_⟩) | (refine PLeL.cons ?_ ?_) | (refine BLeL.cons ?_ ?_) | (refine ple_int ?_) | (refine ple_bool ?_) | (refine ple_tt ?_) | (refine ple_ff ?_) | (refine PLe.aggL ?_) | (refine PLe.tupL ?_) | (refine BLe.cellsL ?_) | (refine halt_rng (cntF 6 b1) ((tstOf a1 a2 b1 b2 c1 c2 n fun i => stpL (s i))).nb [1, 2, 5, 6] [2] (fun i => [.slice none k fun i => pairL (p i), .ptr 2 0, I (i * ((tstOf a1 a2 b1 b2 c1 c2 n fun i => stpL (s i))).nc : Nat), I (b1 + (i : Nat))]) (fun i => [.cells [I a1, I a2, I b1, I b2, I c1, I c2, .slice none n fun i => stpL (s i)]]) (fun i => ∀ x, x < i → okRow (tstOf a1 a2 b1 b2 c1 c2 n fun i => stpL (s i)) k p x = true) rfl (.mk ?_ ?_) (fun x hx => by omega) ?_) | (refine fun h => absurd h (by decide)) | (refine fun (h : @Eq Bool _ _) => ?_)
    all_goals first | trivial | rfl | omega | (show (0 : Int) = ((0 * ((tstOf a1 a2 b1 b2 c1 c2 n fun i => stpL (s i))).nc : Nat) : Int); rw [Nat.zero_mul]; rfl) | skip
    intro i hi hQ
    refine ⟨fun h1 => ?_, fun h1 => ?_⟩
    · have h1 : b1 + (i : Int) ≤ b2 := of_decide_eq_true h1
      have hib : i < ((tstOf a1 a2 b1 b2 c1 c2 n fun i => stpL (s i))).nb := by rw [hnbD]; omega
      have e1 : IntKind.i64.wrap (b1 + (i : Int) + 1) = b1 + ((i + 1 : Nat) : Int) := by rw [w64 (by omega) (by omega)]; omega
      repeat' first | (exact PLe.refl _) | (exact BLe.refl _) | (exact PLeL.nil) | (exact BLeL.nil) | (refine ⟨?_, ?_⟩) | (refine PLeL.cons ?_ ?_) | (refine BLeL.cons ?_ ?_) | (refine ple_int ?_) | (refine ple_bool ?_) | (refine ple_tt ?_) | (refine ple_ff ?_) | (refine PLe.aggL ?_) | (refine PLe.tupL ?_) | (refine BLe.cellsL ?_) | (refine halt_rng (cntF 7 c1) ((tstOf a1 a2 b1 b2 c1 c2 n fun i => stpL (s i))).nc [1, 2, 5, 6, 7] [2] (fun j => [.slice none k fun i => pairL (p i), .ptr 2 0, I (i * ((tstOf a1 a2 b1 b2 c1 c2 n fun i => stpL (s i))).nc + j : Nat), I (b1 + (i : Nat)), I (c1 + (j : Nat))]) (fun j => [.cells [I a1, I a2, I b1, I b2, I c1, I c2, .slice none n fun i => stpL (s i)]]) (fun j => ∀ x, x < j → okIJ (tstOf a1 a2 b1 b2 c1 c2 n fun i => stpL (s i)) k p i x = true) rfl (.mk ?_ ?_) (fun x hx => by omega) ?_) | (refine fun h => absurd h (by decide)) | (refine fun (h : @Eq Bool _ _) => ?_)
      all_goals first | trivial | rfl | omega | skip
      intro j hj hQ2
      refine ⟨fun h2 => ?_, fun h2 => ?_⟩
      · have h2 : c1 + (j : Int) ≤ c2 := of_decide_eq_true h2
        have hjc : j < ((tstOf a1 a2 b1 b2 c1 c2 n fun i => stpL (s i))).nc := by rw [hncD]; omega
        have e2 : IntKind.i64.wrap (c1 + (j : Int) + 1) = c1 + ((j + 1 : Nat) : Int) := by rw [w64 (by omega) (by omega)]; omega
        have hK := hall i (by omega)
        have e3 : IntKind.i64.wrap (((i * ((tstOf a1 a2 b1 b2 c1 c2 n fun i => stpL (s i))).nc + j) : Nat) + 1) = ((i * ((tstOf a1 a2 b1 b2 c1 c2 n fun i => stpL (s i))).nc + (j + 1) : Nat) : Int) := by rw [w64 (by omega) (by omega)]; omega
        refine (Bool.eq_false_or_eq_true (decide ((k : Int) ≤ (((i * ((tstOf a1 a2 b1 b2 c1 c2 n fun i => stpL (s i))).nc + j) : Nat) : Int)))).elim (fun q1 => ?_) fun q1 => ?_
        · have eC : okIJ (tstOf a1 a2 b1 b2 c1 c2 n fun i => stpL (s i)) k p i j = false := by unfold okIJ; rw [show decide ((k : Int) ≤ ((i * ((tstOf a1 a2 b1 b2 c1 c2 n fun i => stpL (s i))).nc + j : Nat) : Int)) = true from q1]; rfl
          have eS : showB (tstOf a1 a2 b1 b2 c1 c2 n fun i => stpL (s i)) k p = false := by unfold showB; rw [allN_f hib (show okRow (tstOf a1 a2 b1 b2 c1 c2 n fun i => stpL (s i)) k p i = false from allN_f hjc eC)]; rfl
          rw [eS]
          repeat' first | (exact PLe.refl _) | (exact BLe.refl _) | (exact PLeL.nil) | (exact BLeL.nil) | (refine ⟨?_, ?_⟩) | (refine PLeL.cons ?_ ?_) | (refine BLeL.cons ?_ ?_) | (refine ple_int ?_) | (refine ple_bool ?_) | (refine ple_tt ?_) | (refine ple_ff ?_) | (refine PLe.aggL ?_) | (refine PLe.tupL ?_) | (refine BLe.cellsL ?_) | (refine fun h => absurd h (by decide)) | (refine fun h => ?_; exfalso; simp only [q1, Int.toNat_natCast, Bool.cond_true_left, Bool.cond_false_right, Bool.cond_true_right, Bool.cond_false_left, cond_true, cond_false, Bool.not_true, Bool.not_false, Bool.not_not, Bool.and_true, Bool.true_and, Bool.and_false, Bool.false_and, Bool.or_true, Bool.true_or, Bool.or_false, Bool.false_or, beq_self_eq_true, bne_self_eq_false, Bool.true_eq_false, Bool.false_eq_true, reduceCtorEq, Bool.and_self, Bool.or_self, Int.reduceBEq, Int.reduceBNe, Int.reduceNeg, decide_true, decide_false, Int.reduceLT, Int.reduceLE, Int.reduceGT] at h; done) | (refine fun (h : @Eq Bool _ _) => ?_)
          all_goals first | trivial | rfl | omega | (exact hL) | (exact e2) | (exact e3) | (simp only [q1, Int.toNat_natCast, Bool.cond_true_left, Bool.cond_false_right, Bool.cond_true_right, Bool.cond_false_left, cond_true, cond_false, Bool.not_true, Bool.not_false, Bool.not_not, Bool.and_true, Bool.true_and, Bool.and_false, Bool.false_and, Bool.or_true, Bool.true_or, Bool.or_false, Bool.false_or, beq_self_eq_true, bne_self_eq_false, Bool.true_eq_false, Bool.false_eq_true, reduceCtorEq, Bool.and_self, Bool.or_self, Int.reduceBEq, Int.reduceBNe, Int.reduceNeg, decide_true, decide_false, Int.reduceLT, Int.reduceLE, Int.reduceGT]; done) | (show @Eq Bool _ _; simp only [q1, Int.toNat_natCast, Bool.cond_true_left, Bool.cond_false_right, Bool.cond_true_right, Bool.cond_false_left, cond_true, cond_false, Bool.not_true, Bool.not_false, Bool.not_not, Bool.and_true, Bool.true_and, Bool.and_false, Bool.false_and, Bool.or_true, Bool.true_or, Bool.or_false, Bool.false_or, beq_self_eq_true, bne_self_eq_false, Bool.true_eq_false, Bool.false_eq_true, reduceCtorEq, Bool.and_self, Bool.or_self, Int.reduceBEq, Int.reduceBNe, Int.reduceNeg, decide_true, decide_false, Int.reduceLT, Int.reduceLE, Int.reduceGT]; done) | skip
        · have hlt : (i * ((tstOf a1 a2 b1 b2 c1 c2 n fun i => stpL (s i))).nc + j) < k := by
            have := of_decide_eq_false q1
            omega
          refine (Bool.eq_false_or_eq_true (conB (tstOf a1 a2 b1 b2 c1 c2 n fun i => stpL (s i)) (b1 + (i : Int)) (c1 + (j : Int)) (p (i * ((tstOf a1 a2 b1 b2 c1 c2 n fun i => stpL (s i))).nc + j)).1 (p (i * ((tstOf a1 a2 b1 b2 c1 c2 n fun i => stpL (s i))).nc + j)).2)).elim (fun q2 => ?_) fun q2 => ?_
          · have eC : okIJ (tstOf a1 a2 b1 b2 c1 c2 n fun i => stpL (s i)) k p i j = true := by unfold okIJ; rw [show decide ((k : Int) ≤ ((i * ((tstOf a1 a2 b1 b2 c1 c2 n fun i => stpL (s i))).nc + j : Nat) : Int)) = false from q1]; exact q2
            have hQ2' : ∀ x, x < j + 1 → okIJ (tstOf a1 a2 b1 b2 c1 c2 n fun i => stpL (s i)) k p i x = true := fun x hx => by
              rcases Nat.lt_succ_iff_lt_or_eq.1 hx with h1 | rfl
              · exact hQ2 x h1
              · exact eC
            repeat' first | (exact PLe.refl _) | (exact BLe.refl _) | (exact PLeL.nil) | (exact BLeL.nil) | (refine ⟨?_, ?_⟩) | (refine PLeL.cons ?_ ?_) | (refine BLeL.cons ?_ ?_) | (refine ple_int ?_) | (refine ple_bool ?_) | (refine ple_tt ?_) | (refine ple_ff ?_) | (refine PLe.aggL ?_) | (refine PLe.tupL ?_) | (refine BLe.cellsL ?_) | (refine next_rng (cn := cntF 7 c1) rfl (fun m => by show (c1 + (m : Int) - c1).toNat = m; omega) hjc hQ2' (.mk ?_ ?_)) | (refine fun h => absurd h (by decide)) | (refine fun h => ?_; exfalso; simp only [q1, q2, Int.toNat_natCast, Bool.cond_true_left, Bool.cond_false_right, Bool.cond_true_right, Bool.cond_false_left, cond_true, cond_false, Bool.not_true, Bool.not_false, Bool.not_not, Bool.and_true, Bool.true_and, Bool.and_false, Bool.false_and, Bool.or_true, Bool.true_or, Bool.or_false, Bool.false_or, beq_self_eq_true, bne_self_eq_false, Bool.true_eq_false, Bool.false_eq_true, reduceCtorEq, Bool.and_self, Bool.or_self, Int.reduceBEq, Int.reduceBNe, Int.reduceNeg, decide_true, decide_false, Int.reduceLT, Int.reduceLE, Int.reduceGT] at h; done) | (refine fun (h : @Eq Bool _ _) => ?_)
            all_goals first | trivial | rfl | omega | (exact hL) | (exact e2) | (exact e3) | (simp only [q1, q2, Int.toNat_natCast, Bool.cond_true_left, Bool.cond_false_right, Bool.cond_true_right, Bool.cond_false_left, cond_true, cond_false, Bool.not_true, Bool.not_false, Bool.not_not, Bool.and_true, Bool.true_and, Bool.and_false, Bool.false_and, Bool.or_true, Bool.true_or, Bool.or_false, Bool.false_or, beq_self_eq_true, bne_self_eq_false, Bool.true_eq_false, Bool.false_eq_true, reduceCtorEq, Bool.and_self, Bool.or_self, Int.reduceBEq, Int.reduceBNe, Int.reduceNeg, decide_true, decide_false, Int.reduceLT, Int.reduceLE, Int.reduceGT]; done) | (show @Eq Bool _ _; simp only [q1, q2, Int.toNat_natCast, Bool.cond_true_left, Bool.cond_false_right, Bool.cond_true_right, Bool.cond_false_left, cond_true, cond_false, Bool.not_true, Bool.not_false, Bool.not_not, Bool.and_true, Bool.true_and, Bool.and_false, Bool.false_and, Bool.or_true, Bool.true_or, Bool.or_false, Bool.false_or, beq_self_eq_true, bne_self_eq_false, Bool.true_eq_false, Bool.false_eq_true, reduceCtorEq, Bool.and_self, Bool.or_self, Int.reduceBEq, Int.reduceBNe, Int.reduceNeg, decide_true, decide_false, Int.reduceLT, Int.reduceLE, Int.reduceGT]; done) | skip
          · have eC : okIJ (tstOf a1 a2 b1 b2 c1 c2 n fun i => stpL (s i)) k p i j = false := by unfold okIJ; rw [show decide ((k : Int) ≤ ((i * ((tstOf a1 a2 b1 b2 c1 c2 n fun i => stpL (s i))).nc + j : Nat) : Int)) = false from q1]; exact q2
            have eS : showB (tstOf a1 a2 b1 b2 c1 c2 n fun i => stpL (s i)) k p = false := by unfold showB; rw [allN_f hib (show okRow (tstOf a1 a2 b1 b2 c1 c2 n fun i => stpL (s i)) k p i = false from allN_f hjc eC)]; rfl
            rw [eS]
            repeat' first | (exact PLe.refl _) | (exact BLe.refl _) | (exact PLeL.nil) | (exact BLeL.nil) | (refine ⟨?_, ?_⟩) | (refine PLeL.cons ?_ ?_) | (refine BLeL.cons ?_ ?_) | (refine ple_int ?_) | (refine ple_bool ?_) | (refine ple_tt ?_) | (refine ple_ff ?_) | (refine PLe.aggL ?_) | (refine PLe.tupL ?_) | (refine BLe.cellsL ?_) | (refine fun h => absurd h (by decide)) | (refine fun h => ?_; exfalso; simp only [q1, q2, Int.toNat_natCast, Bool.cond_true_left, Bool.cond_false_right, Bool.cond_true_right, Bool.cond_false_left, cond_true, cond_false, Bool.not_true, Bool.not_false, Bool.not_not, Bool.and_true, Bool.true_and, Bool.and_false, Bool.false_and, Bool.or_true, Bool.true_or, Bool.or_false, Bool.false_or, beq_self_eq_true, bne_self_eq_false, Bool.true_eq_false, Bool.false_eq_true, reduceCtorEq, Bool.and_self, Bool.or_self, Int.reduceBEq, Int.reduceBNe, Int.reduceNeg, decide_true, decide_false, Int.reduceLT, Int.reduceLE, Int.reduceGT] at h; done) | (refine fun (h : @Eq Bool _ _) => ?_)
            all_goals first | trivial | rfl | omega | (exact hL) | (exact e2) | (exact e3) | (simp only [q1, q2, Int.toNat_natCast, Bool.cond_true_left, Bool.cond_false_right, Bool.cond_true_right, Bool.cond_false_left, cond_true, cond_false, Bool.not_true, Bool.not_false, Bool.not_not, Bool.and_true, Bool.true_and, Bool.and_false, Bool.false_and, Bool.or_true, Bool.true_or, Bool.or_false, Bool.false_or, beq_self_eq_true, bne_self_eq_false, Bool.true_eq_false, Bool.false_eq_true, reduceCtorEq, Bool.and_self, Bool.or_self, Int.reduceBEq, Int.reduceBNe, Int.reduceNeg, decide_true, decide_false, Int.reduceLT, Int.reduceLE, Int.reduceGT]; done) | (show @Eq Bool _ _; simp only [q1, q2, Int.toNat_natCast, Bool.cond_true_left, Bool.cond_false_right, Bool.cond_true_right, Bool.cond_false_left, cond_true, cond_false, Bool.not_true, Bool.not_false, Bool.not_not, Bool.and_true, Bool.true_and, Bool.and_false, Bool.false_and, Bool.or_true, Bool.true_or, Bool.or_false, Bool.false_or, beq_self_eq_true, bne_self_eq_false, Bool.true_eq_false, Bool.false_eq_true, reduceCtorEq, Bool.and_self, Bool.or_self, Int.reduceBEq, Int.reduceBNe, Int.reduceNeg, decide_true, decide_false, Int.reduceLT, Int.reduceLE, Int.reduceGT]; done) | skip
      · have hjn : j = ((tstOf a1 a2 b1 b2 c1 c2 n fun i => stpL (s i))).nc := by
          have h2 : ¬ c1 + (j : Int) ≤ c2 := of_decide_eq_false h2
          rw [hncD] at hj ⊢; omega
        subst hjn
        clear h2
        have hQ' : ∀ x, x < i + 1 → okRow (tstOf a1 a2 b1 b2 c1 c2 n fun i => stpL (s i)) k p x = true := fun x hx => by
          rcases Nat.lt_succ_iff_lt_or_eq.1 hx with h1 | rfl
          · exact hQ x h1
          · exact allN_t hQ2
        have e4 : i * ((tstOf a1 a2 b1 b2 c1 c2 n fun i => stpL (s i))).nc + ((tstOf a1 a2 b1 b2 c1 c2 n fun i => stpL (s i))).nc = (i + 1) * ((tstOf a1 a2 b1 b2 c1 c2 n fun i => stpL (s i))).nc := by rw [Nat.add_mul, Nat.one_mul]
        repeat' first | (exact PLe.refl _) | (exact BLe.refl _) | (exact PLeL.nil) | (exact BLeL.nil) | (refine ⟨?_, ?_⟩) | (refine PLeL.cons ?_ ?_) | (refine BLeL.cons ?_ ?_) | (refine ple_int ?_) | (refine ple_bool ?_) | (refine ple_tt ?_) | (refine ple_ff ?_) | (refine PLe.aggL ?_) | (refine PLe.tupL ?_) | (refine BLe.cellsL ?_) | (refine next_rng (cn := cntF 6 b1) rfl (fun m => by show (b1 + (m : Int) - b1).toNat = m; omega) hib hQ' (.mk ?_ ?_)) | (refine fun h => absurd h (by decide)) | (refine fun (h : @Eq Bool _ _) => ?_)
        all_goals first | trivial | rfl | omega | (exact e1) | (rw [e4]; done) | (exact congrArg _ e4) | (show ((i * ((tstOf a1 a2 b1 b2 c1 c2 n fun i => stpL (s i))).nc + ((tstOf a1 a2 b1 b2 c1 c2 n fun i => stpL (s i))).nc : Nat) : Int) = (((i + 1) * ((tstOf a1 a2 b1 b2 c1 c2 n fun i => stpL (s i))).nc : Nat) : Int); rw [e4]) | skip
    · have hin : i = ((tstOf a1 a2 b1 b2 c1 c2 n fun i => stpL (s i))).nb := by
        have h1 : ¬ b1 + (i : Int) ≤ b2 := of_decide_eq_false h1
        rw [hnbD] at hi ⊢; omega
      subst hin
      clear h1
      have eS : showB (tstOf a1 a2 b1 b2 c1 c2 n fun i => stpL (s i)) k p = (((((tstOf a1 a2 b1 b2 c1 c2 n fun i => stpL (s i))).nb * ((tstOf a1 a2 b1 b2 c1 c2 n fun i => stpL (s i))).nc : Nat) : Int) == (k : Int)) := by unfold showB; rw [allN_t hQ]; rfl
      rw [eS]
      repeat' first | (exact PLe.refl _) | (exact BLe.refl _) | (exact PLeL.nil) | (exact BLeL.nil) | (refine ⟨?_, ?_⟩) | (refine PLeL.cons ?_ ?_) | (refine BLeL.cons ?_ ?_) | (refine ple_int ?_) | (refine ple_bool ?_) | (refine ple_tt ?_) | (refine ple_ff ?_) | (refine PLe.aggL ?_) | (refine PLe.tupL ?_) | (refine BLe.cellsL ?_) | (refine fun h => absurd h (by decide)) | (refine fun (h : @Eq Bool _ _) => ?_)
      all_goals first | trivial | rfl | omega | skip
  · exact h.elim
end Go.Proofs.Ytnjhbmcambofgaa
