/- Layer 4: Widest and Blame by the document's words. -/
import Derived.Test.YtnjhbmcambofgaaS19
namespace Go.Proofs.Ytnjhbmcambofgaa
open Go.V
set_option linter.unusedSimpArgs false
set_option linter.unusedVariables false

def rwD (l : List Fam) (q : Int) : Int := w ((encL (dropF q) l).hi - (encL (dropF q) l).lo)
def rwN (d : Nat → Int) : Nat → Int × Int
  | 0 => (0, -1)
  | k + 1 => bif decide ((rwN d k).2 < d k) then ((k : Int), d k) else rwN d k
def refWidS : V.Spec
  | [.agg [.int .i64 a1, .int .i64 a2, .int .i64 b1, .int .i64 b2, .int .i64 c1, .int .i64 c2, .slice none n get], .slice none k getq] => (some (isT (tstOf a1 a2 b1 b2 c1 c2 n get) get ∧ isL intL k getq), I (rwN (fun i => rwD (famsM (tstOf a1 a2 b1 b2 c1 c2 n get)) (intOf (getq i))) k).1)
  | _ => bad
/-- The same as blM, told by how many curves there are. -/
def rbM (t : Tst) : Int := firstN (fun i => manyL (famsM (cutT t (i + 1))) == 0) t.n
def refBlS : V.Spec
  | [.agg [.int .i64 a1, .int .i64 a2, .int .i64 b1, .int .i64 b2, .int .i64 c1, .int .i64 c2, .slice none n get]] => (some (isT (tstOf a1 a2 b1 b2 c1 c2 n get) get), I (rbM (tstOf a1 a2 b1 b2 c1 c2 n get)))
  | _ => bad
set_option maxRecDepth 20000 in
set_option maxHeartbeats 1000000 in
theorem sf32 : SF Try.prog 32 refWidS := by
  refine sf_of types_ok mixed (l := [(31, refDrawS)]) ⟨sf31, trivial⟩ (es := []) trivial 2 Try.func32 rfl (by kernel_rfl) fun args h => ?_
  unfold refWidS at h
  split at h
  · rename_i a1 a2 b1 b2 c1 c2 n get k getq
    obtain ⟨hT, hQ⟩ : isT (tstOf a1 a2 b1 b2 c1 c2 n get) get ∧ isL intL k getq := h
    obtain ⟨hok, e⟩ := isT.get hT
    obtain ⟨s, rfl⟩ : ∃ s : Nat → Stp, get = fun i => stpL (s i) := ⟨_, e⟩
    obtain ⟨hk, qs, rfl⟩ := isL.get hQ
    clear e
    refine ⟨rfl, ?_⟩
    show evalCode _ _ _ fun o => match o with
      | .normal st | .ret st => withP _ (_ ∧ PLe _ (I (rwN (fun i => rwD (famsM (tstOf a1 a2 b1 b2 c1 c2 n fun i => stpL (s i))) (qs i)) k).1))
      | _ => False
    repeat' first | (exact PLe.refl _) | (exact BLe.refl _) | (exact PLeL.nil) | (exact BLeL.nil) | (refine ⟨?_, ?_⟩) | (refine PLeL.cons ?_ ?_) | (refine BLeL.cons ?_ ?_) | (refine ple_int ?_) | (refine ple_bool ?_) | (refine ple_tt ?_) | (refine ple_ff ?_) | (refine PLe.aggL ?_) | (refine PLe.tupL ?_) | (refine BLe.cellsL ?_) | (refine halt_rng (cnt 7) k [1, 2, 5, 6, 7] [2] (fun m => [.slice none k fun i => intL (qs i), .ptr 2 0, I (rwN (fun i => rwD (famsM (tstOf a1 a2 b1 b2 c1 c2 n fun i => stpL (s i))) (qs i)) m).1, I (rwN (fun i => rwD (famsM (tstOf a1 a2 b1 b2 c1 c2 n fun i => stpL (s i))) (qs i)) m).2, I (m : Nat)]) (fun m => [.cells [I a1, I a2, I b1, I b2, I c1, I c2, .slice none n fun i => stpL (s i)]]) (fun _ => True) rfl (.mk ?_ ?_) trivial ?_) | (refine fun h => absurd h (by decide)) | (refine fun (h : @Eq Bool _ _) => ?_)
    all_goals first | trivial | rfl | omega | skip
    intro m hm _
    refine ⟨fun h1 => ?_, fun h1 => ?_⟩
    · have hlt : m < k := by simpa using h1
      have e1 := succ_w hlt hk
      clear h1
      refine (Bool.eq_false_or_eq_true (decide ((rwN (fun i => rwD (famsM (tstOf a1 a2 b1 b2 c1 c2 n fun i => stpL (s i))) (qs i)) m).2 < (fun i => rwD (famsM (tstOf a1 a2 b1 b2 c1 c2 n fun i => stpL (s i))) (qs i)) m))).elim (fun q1 => ?_) fun q1 => ?_
      · have eN : rwN (fun i => rwD (famsM (tstOf a1 a2 b1 b2 c1 c2 n fun i => stpL (s i))) (qs i)) (m + 1) = ((m : Int), rwD (famsM (tstOf a1 a2 b1 b2 c1 c2 n fun i => stpL (s i))) (qs m)) := by
          show (bif decide (_ < _) then _ else _) = _
          rw [q1]; rfl
        repeat' first | (exact PLe.refl _) | (exact BLe.refl _) | (exact PLeL.nil) | (exact BLeL.nil) | (refine ⟨?_, ?_⟩) | (refine PLeL.cons ?_ ?_) | (refine BLeL.cons ?_ ?_) | (refine ple_int ?_) | (refine ple_bool ?_) | (refine ple_tt ?_) | (refine ple_ff ?_) | (refine PLe.aggL ?_) | (refine PLe.tupL ?_) | (refine BLe.cellsL ?_) | (refine fun h => absurd (h.symm.trans q1) (by decide)) | (refine next_rng (cn := cnt 7) rfl (fun _ => rfl) hlt trivial (.mk ?_ ?_)) | (refine fun h => absurd h (by decide)) | (refine fun h => ?_; exfalso; simp only [q1, Int.toNat_natCast, Bool.cond_true_left, Bool.cond_false_right, Bool.cond_true_right, Bool.cond_false_left, cond_true, cond_false, Bool.not_true, Bool.not_false, Bool.not_not, Bool.and_true, Bool.true_and, Bool.and_false, Bool.false_and, Bool.or_true, Bool.true_or, Bool.or_false, Bool.false_or, beq_self_eq_true, bne_self_eq_false, Bool.true_eq_false, Bool.false_eq_true, reduceCtorEq, Bool.and_self, Bool.or_self, Int.reduceBEq, Int.reduceBNe, Int.reduceNeg, decide_true, decide_false, Int.reduceLT, Int.reduceLE, Int.reduceGT] at h; done) | (refine fun (h : @Eq Bool _ _) => ?_)
        all_goals first | trivial | rfl | omega | (exact e1) | (exact hT) | (exact (congrArg Prod.fst eN).symm) | (exact (congrArg Prod.snd eN).symm) | (simp only [q1, Int.toNat_natCast, Bool.cond_true_left, Bool.cond_false_right, Bool.cond_true_right, Bool.cond_false_left, cond_true, cond_false, Bool.not_true, Bool.not_false, Bool.not_not, Bool.and_true, Bool.true_and, Bool.and_false, Bool.false_and, Bool.or_true, Bool.true_or, Bool.or_false, Bool.false_or, beq_self_eq_true, bne_self_eq_false, Bool.true_eq_false, Bool.false_eq_true, reduceCtorEq, Bool.and_self, Bool.or_self, Int.reduceBEq, Int.reduceBNe, Int.reduceNeg, decide_true, decide_false, Int.reduceLT, Int.reduceLE, Int.reduceGT]; done) | (show @Eq Bool _ _; simp only [q1, Int.toNat_natCast, Bool.cond_true_left, Bool.cond_false_right, Bool.cond_true_right, Bool.cond_false_left, cond_true, cond_false, Bool.not_true, Bool.not_false, Bool.not_not, Bool.and_true, Bool.true_and, Bool.and_false, Bool.false_and, Bool.or_true, Bool.true_or, Bool.or_false, Bool.false_or, beq_self_eq_true, bne_self_eq_false, Bool.true_eq_false, Bool.false_eq_true, reduceCtorEq, Bool.and_self, Bool.or_self, Int.reduceBEq, Int.reduceBNe, Int.reduceNeg, decide_true, decide_false, Int.reduceLT, Int.reduceLE, Int.reduceGT]; done) | skip
      · have eN : rwN (fun i => rwD (famsM (tstOf a1 a2 b1 b2 c1 c2 n fun i => stpL (s i))) (qs i)) (m + 1) = rwN (fun i => rwD (famsM (tstOf a1 a2 b1 b2 c1 c2 n fun i => stpL (s i))) (qs i)) m := by
          show (bif decide (_ < _) then _ else _) = _
          rw [q1]; rfl
        repeat' first | (exact PLe.refl _) | (exact BLe.refl _) | (exact PLeL.nil) | (exact BLeL.nil) | (refine ⟨?_, ?_⟩) | (refine PLeL.cons ?_ ?_) | (refine BLeL.cons ?_ ?_) | (refine ple_int ?_) | (refine ple_bool ?_) | (refine ple_tt ?_) | (refine ple_ff ?_) | (refine PLe.aggL ?_) | (refine PLe.tupL ?_) | (refine BLe.cellsL ?_) | (refine fun h => absurd (h.symm.trans q1) (by decide)) | (refine next_rng (cn := cnt 7) rfl (fun _ => rfl) hlt trivial (.mk ?_ ?_)) | (refine fun h => absurd h (by decide)) | (refine fun h => ?_; exfalso; simp only [q1, Int.toNat_natCast, Bool.cond_true_left, Bool.cond_false_right, Bool.cond_true_right, Bool.cond_false_left, cond_true, cond_false, Bool.not_true, Bool.not_false, Bool.not_not, Bool.and_true, Bool.true_and, Bool.and_false, Bool.false_and, Bool.or_true, Bool.true_or, Bool.or_false, Bool.false_or, beq_self_eq_true, bne_self_eq_false, Bool.true_eq_false, Bool.false_eq_true, reduceCtorEq, Bool.and_self, Bool.or_self, Int.reduceBEq, Int.reduceBNe, Int.reduceNeg, decide_true, decide_false, Int.reduceLT, Int.reduceLE, Int.reduceGT] at h; done) | (refine fun (h : @Eq Bool _ _) => ?_)
        all_goals first | trivial | rfl | omega | (exact e1) | (exact hT) | (exact (congrArg Prod.fst eN).symm) | (exact (congrArg Prod.snd eN).symm) | (simp only [q1, Int.toNat_natCast, Bool.cond_true_left, Bool.cond_false_right, Bool.cond_true_right, Bool.cond_false_left, cond_true, cond_false, Bool.not_true, Bool.not_false, Bool.not_not, Bool.and_true, Bool.true_and, Bool.and_false, Bool.false_and, Bool.or_true, Bool.true_or, Bool.or_false, Bool.false_or, beq_self_eq_true, bne_self_eq_false, Bool.true_eq_false, Bool.false_eq_true, reduceCtorEq, Bool.and_self, Bool.or_self, Int.reduceBEq, Int.reduceBNe, Int.reduceNeg, decide_true, decide_false, Int.reduceLT, Int.reduceLE, Int.reduceGT]; done) | (show @Eq Bool _ _; simp only [q1, Int.toNat_natCast, Bool.cond_true_left, Bool.cond_false_right, Bool.cond_true_right, Bool.cond_false_left, cond_true, cond_false, Bool.not_true, Bool.not_false, Bool.not_not, Bool.and_true, Bool.true_and, Bool.and_false, Bool.false_and, Bool.or_true, Bool.true_or, Bool.or_false, Bool.false_or, beq_self_eq_true, bne_self_eq_false, Bool.true_eq_false, Bool.false_eq_true, reduceCtorEq, Bool.and_self, Bool.or_self, Int.reduceBEq, Int.reduceBNe, Int.reduceNeg, decide_true, decide_false, Int.reduceLT, Int.reduceLE, Int.reduceGT]; done) | skip
    · have hmn : m = k := by
        have : ¬ ((m : Int) < k) := of_decide_eq_false h1
        omega
      subst hmn
      clear h1
      repeat' first | (exact PLe.refl _) | (exact BLe.refl _) | (exact PLeL.nil) | (exact BLeL.nil) | (refine ⟨?_, ?_⟩) | (refine PLeL.cons ?_ ?_) | (refine BLeL.cons ?_ ?_) | (refine ple_int ?_) | (refine ple_bool ?_) | (refine ple_tt ?_) | (refine ple_ff ?_) | (refine PLe.aggL ?_) | (refine PLe.tupL ?_) | (refine BLe.cellsL ?_) | (refine fun h => absurd h (by decide)) | (refine fun (h : @Eq Bool _ _) => ?_)
      all_goals first | trivial | rfl | omega | skip
  · exact h.elim
set_option maxRecDepth 20000 in
set_option maxHeartbeats 1000000 in
theorem sf38 : SF Try.prog 38 refBlS := by
  refine sf_of types_ok mixed (l := [(26, refCurvesS)]) ⟨sf26, trivial⟩ (es := []) trivial 1 Try.func38 rfl (by kernel_rfl) fun args h => ?_
  unfold refBlS at h
  split at h
  · rename_i a1 a2 b1 b2 c1 c2 n get
    obtain ⟨hok, e⟩ := isT.get h
    obtain ⟨s, rfl⟩ : ∃ s : Nat → Stp, get = fun i => stpL (s i) := ⟨_, e⟩
    clear e
    have hn12 : n ≤ 12 := hok.n
    refine ⟨rfl, ?_⟩
    show evalCode _ _ _ fun o => match o with
      | .normal st | .ret st => withP _ (_ ∧ PLe _ (I (rbM (tstOf a1 a2 b1 b2 c1 c2 n fun i => stpL (s i)))))
      | _ => False
    repeat' first | (exact PLe.refl _) | (exact BLe.refl _) | (exact PLeL.nil) | (exact BLeL.nil) | (refine ⟨?_, ?_⟩) | (refine PLeL.cons ?_ ?_) | (refine BLeL.cons ?_ ?_) | (refine ple_int ?_) | (refine ple_bool ?_) | (refine ple_tt ?_) | (refine ple_ff ?_) | (refine PLe.aggL ?_) | (refine PLe.tupL ?_) | (refine BLe.cellsL ?_) | (refine halt_rng (cntF 3 1) n [1, 3] [1] (fun m => [.ptr 1 0, I (1 + (m : Nat))]) (fun m => [.cells [I a1, I a2, I b1, I b2, I c1, I c2, .slice none n fun i => stpL (s i)]]) (fun m => ∀ i, i < m → (manyL (famsM (tstOf a1 a2 b1 b2 c1 c2 (i + 1) fun i => stpL (s i))) == 0) = false) rfl (.mk ?_ ?_) (fun i hi => by omega) ?_) | (refine fun h => absurd h (by decide)) | (refine fun (h : @Eq Bool _ _) => ?_)
    all_goals first | trivial | rfl | omega | skip
    intro m hm hQ
    refine ⟨fun h1 => ?_, fun h1 => ?_⟩
    · have hlt : m < n := by
        have : 1 + (m : Int) ≤ (n : Int) := of_decide_eq_true h1
        omega
      have e1 : IntKind.i64.wrap (1 + (m : Int) + 1) = 1 + ((m + 1 : Nat) : Int) := by rw [w64 (by omega) (by omega)]; omega
      have e2 : IntKind.i64.wrap (1 + (m : Int) - 1) = (m : Int) := by rw [w64 (by omega) (by omega)]; omega
      have e3 : (1 + (m : Int)).toNat = m + 1 := by omega
      clear h1
      have hT : isT (tstOf a1 a2 b1 b2 c1 c2 ((1 : Int) + (m : Int)).toNat fun i => stpL (s i)) (fun i => stpL (s i)) := by
        rw [e3]
        exact .mk (cutT_ok hok (m := m + 1) hlt) rfl
      refine (Bool.eq_false_or_eq_true (manyL (famsM (tstOf a1 a2 b1 b2 c1 c2 (m + 1) fun i => stpL (s i))) == 0)).elim (fun q1 => ?_) fun q1 => ?_
      · have q2 : (manyL (famsM (tstOf a1 a2 b1 b2 c1 c2 ((1 : Int) + (m : Int)).toNat fun i => stpL (s i))) == 0) = true := by rw [e3]; exact q1
        have e4 : rbM (tstOf a1 a2 b1 b2 c1 c2 n fun i => stpL (s i)) = (m : Int) := firstN_t hQ q1 hlt
        rw [e4]
        repeat' first | (exact PLe.refl _) | (exact BLe.refl _) | (exact PLeL.nil) | (exact BLeL.nil) | (refine ⟨?_, ?_⟩) | (refine PLeL.cons ?_ ?_) | (refine BLeL.cons ?_ ?_) | (refine ple_int ?_) | (refine ple_bool ?_) | (refine ple_tt ?_) | (refine ple_ff ?_) | (refine PLe.aggL ?_) | (refine PLe.tupL ?_) | (refine BLe.cellsL ?_) | (refine fun h => absurd h (by decide)) | (refine fun h => ?_; exfalso; simp only [q2, Int.toNat_natCast, Bool.cond_true_left, Bool.cond_false_right, Bool.cond_true_right, Bool.cond_false_left, cond_true, cond_false, Bool.not_true, Bool.not_false, Bool.not_not, Bool.and_true, Bool.true_and, Bool.and_false, Bool.false_and, Bool.or_true, Bool.true_or, Bool.or_false, Bool.false_or, beq_self_eq_true, bne_self_eq_false, Bool.true_eq_false, Bool.false_eq_true, reduceCtorEq, Bool.and_self, Bool.or_self, Int.reduceBEq, Int.reduceBNe, Int.reduceNeg, decide_true, decide_false, Int.reduceLT, Int.reduceLE, Int.reduceGT] at h; done) | (refine fun (h : @Eq Bool _ _) => ?_)
        all_goals first | trivial | rfl | omega | (exact hT) | (exact e2) | (show (0 : Int) ≤ 1 + (m : Int); omega) | (exact stp_len) | (simp only [q2, Int.toNat_natCast, Bool.cond_true_left, Bool.cond_false_right, Bool.cond_true_right, Bool.cond_false_left, cond_true, cond_false, Bool.not_true, Bool.not_false, Bool.not_not, Bool.and_true, Bool.true_and, Bool.and_false, Bool.false_and, Bool.or_true, Bool.true_or, Bool.or_false, Bool.false_or, beq_self_eq_true, bne_self_eq_false, Bool.true_eq_false, Bool.false_eq_true, reduceCtorEq, Bool.and_self, Bool.or_self, Int.reduceBEq, Int.reduceBNe, Int.reduceNeg, decide_true, decide_false, Int.reduceLT, Int.reduceLE, Int.reduceGT]; done) | (show @Eq Bool _ _; simp only [q2, Int.toNat_natCast, Bool.cond_true_left, Bool.cond_false_right, Bool.cond_true_right, Bool.cond_false_left, cond_true, cond_false, Bool.not_true, Bool.not_false, Bool.not_not, Bool.and_true, Bool.true_and, Bool.and_false, Bool.false_and, Bool.or_true, Bool.true_or, Bool.or_false, Bool.false_or, beq_self_eq_true, bne_self_eq_false, Bool.true_eq_false, Bool.false_eq_true, reduceCtorEq, Bool.and_self, Bool.or_self, Int.reduceBEq, Int.reduceBNe, Int.reduceNeg, decide_true, decide_false, Int.reduceLT, Int.reduceLE, Int.reduceGT]; done) | skip
      · have q2 : (manyL (famsM (tstOf a1 a2 b1 b2 c1 c2 ((1 : Int) + (m : Int)).toNat fun i => stpL (s i))) == 0) = false := by rw [e3]; exact q1
        have hQ' : ∀ i, i < m + 1 → (manyL (famsM (tstOf a1 a2 b1 b2 c1 c2 (i + 1) fun i => stpL (s i))) == 0) = false := fun i hi => by
          rcases Nat.lt_succ_iff_lt_or_eq.1 hi with h1 | rfl
          · exact hQ i h1
          · exact q1
        repeat' first | (exact PLe.refl _) | (exact BLe.refl _) | (exact PLeL.nil) | (exact BLeL.nil) | (refine ⟨?_, ?_⟩) | (refine PLeL.cons ?_ ?_) | (refine BLeL.cons ?_ ?_) | (refine ple_int ?_) | (refine ple_bool ?_) | (refine ple_tt ?_) | (refine ple_ff ?_) | (refine PLe.aggL ?_) | (refine PLe.tupL ?_) | (refine BLe.cellsL ?_) | (refine next_rng (cn := cntF 3 1) rfl (fun m => by show (1 + (m : Int) - 1).toNat = m; omega) hlt hQ' (.mk ?_ ?_)) | (refine fun h => absurd h (by decide)) | (refine fun h => ?_; exfalso; simp only [q2, Int.toNat_natCast, Bool.cond_true_left, Bool.cond_false_right, Bool.cond_true_right, Bool.cond_false_left, cond_true, cond_false, Bool.not_true, Bool.not_false, Bool.not_not, Bool.and_true, Bool.true_and, Bool.and_false, Bool.false_and, Bool.or_true, Bool.true_or, Bool.or_false, Bool.false_or, beq_self_eq_true, bne_self_eq_false, Bool.true_eq_false, Bool.false_eq_true, reduceCtorEq, Bool.and_self, Bool.or_self, Int.reduceBEq, Int.reduceBNe, Int.reduceNeg, decide_true, decide_false, Int.reduceLT, Int.reduceLE, Int.reduceGT] at h; done) | (refine fun (h : @Eq Bool _ _) => ?_)
        all_goals first | trivial | rfl | omega | (exact hT) | (exact e1) | (exact stp_len) | (simp only [q2, Int.toNat_natCast, Bool.cond_true_left, Bool.cond_false_right, Bool.cond_true_right, Bool.cond_false_left, cond_true, cond_false, Bool.not_true, Bool.not_false, Bool.not_not, Bool.and_true, Bool.true_and, Bool.and_false, Bool.false_and, Bool.or_true, Bool.true_or, Bool.or_false, Bool.false_or, beq_self_eq_true, bne_self_eq_false, Bool.true_eq_false, Bool.false_eq_true, reduceCtorEq, Bool.and_self, Bool.or_self, Int.reduceBEq, Int.reduceBNe, Int.reduceNeg, decide_true, decide_false, Int.reduceLT, Int.reduceLE, Int.reduceGT]; done) | (show @Eq Bool _ _; simp only [q2, Int.toNat_natCast, Bool.cond_true_left, Bool.cond_false_right, Bool.cond_true_right, Bool.cond_false_left, cond_true, cond_false, Bool.not_true, Bool.not_false, Bool.not_not, Bool.and_true, Bool.true_and, Bool.and_false, Bool.false_and, Bool.or_true, Bool.true_or, Bool.or_false, Bool.false_or, beq_self_eq_true, bne_self_eq_false, Bool.true_eq_false, Bool.false_eq_true, reduceCtorEq, Bool.and_self, Bool.or_self, Int.reduceBEq, Int.reduceBNe, Int.reduceNeg, decide_true, decide_false, Int.reduceLT, Int.reduceLE, Int.reduceGT]; done) | skip
    · have hmn : m = n := by
        have : ¬ (1 + (m : Int) ≤ (n : Int)) := of_decide_eq_false h1
        omega
      subst hmn
      have e4 : rbM (tstOf a1 a2 b1 b2 c1 c2 m fun i => stpL (s i)) = -1 := firstN_f hQ
      rw [e4]
      repeat' first | (exact PLe.refl _) | (exact BLe.refl _) | (exact PLeL.nil) | (exact BLeL.nil) | (refine ⟨?_, ?_⟩) | (refine PLeL.cons ?_ ?_) | (refine BLeL.cons ?_ ?_) | (refine ple_int ?_) | (refine ple_bool ?_) | (refine ple_tt ?_) | (refine ple_ff ?_) | (refine PLe.aggL ?_) | (refine PLe.tupL ?_) | (refine BLe.cellsL ?_) | (refine fun h => absurd h (by decide)) | (refine fun (h : @Eq Bool _ _) => ?_)
      all_goals first | trivial | rfl | omega | skip
  · exact h.elim
end Go.Proofs.Ytnjhbmcambofgaa
