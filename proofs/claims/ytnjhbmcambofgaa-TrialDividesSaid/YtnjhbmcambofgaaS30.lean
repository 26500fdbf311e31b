/- Layer 4: Plan. -/
import Derived.Test.YtnjhbmcambofgaaS29
namespace Go.Proofs.Ytnjhbmcambofgaa
open Go.V
set_option linter.unusedSimpArgs false
set_option linter.unusedVariables false

def planP (W : Int) (N : Nat) (rows : Nat → List PV) : Nat → Nat → PS → PS
  | 0, _, p => p
  | n + 1, i, p => bif (chooseP W N rows i 0 p).1 then (chooseP W N rows i 0 p).2 else planP W N rows n (i + 1) (chooseP W N rows i 0 p).2
def planR (v : Svy) : PS := bif relE2 v != 0 then ⟨0, fun _ => [], 0⟩ else planP v.wl v.wl.toNat (relsG v) v.wl.toNat 0 ⟨0, fun _ => [], 0⟩
def planS : V.Spec
  | [.agg [.int .i64 wl, .int .i64 lv, .slice none n get]] => (some (isL obsL n get), .tup [.slice none (planR (svyOf wl lv n get)).k (planR (svyOf wl lv n get)).g, I (relE2 (svyOf wl lv n get))])
  | _ => bad
set_option maxRecDepth 20000 in
set_option maxHeartbeats 2000000 in
theorem sf51 : SF Try.prog 51 planS := by
  refine sf_gen types_ok mixed (l := [(50, relationsS)]) ⟨sf50, trivial⟩ (es := [(106, 100, E106 11)]) ⟨se106 11, trivial⟩ (its := []) trivial (fr := []) trivial [(5, [.cell true 6 0 60 3 1])] [] false [] [] 1 Try.func51 rfl (by kernel_rfl) fun args h => ?_
  unfold planS at h
  split at h
  · rename_i wl lv n get
    have hL : isL obsL n get := h
    obtain ⟨hn, s, rfl⟩ := isL.get hL
    clear h
    refine ⟨rfl, ?_⟩
    show evalCode _ _ _ fun o => match o with
      | .normal st | .ret st => withP _ (_ ∧ PLe _ (.tup [.slice none (planR (svyOf wl lv n fun i => obsL (s i))).k (planR (svyOf wl lv n fun i => obsL (s i))).g, I (relE2 (svyOf wl lv n fun i => obsL (s i)))]))
      | _ => False
    refine (Bool.eq_false_or_eq_true (relE2 (svyOf wl lv n fun i => obsL (s i)) != 0)).elim (fun p1 => ?_) fun p1 => ?_
    · have e1 : planR (svyOf wl lv n fun i => obsL (s i)) = ⟨0, fun _ => [], 0⟩ := by unfold planR; rw [p1]; rfl
      rw [e1]
      repeat' first | (exact ple_slice rfl fun i hi => by cases hi) | (exact PLe.refl _) | (exact BLe.refl _) | (exact PLeL.nil) | (exact BLeL.nil) | (refine ⟨?_, ?_⟩) | (refine PLeL.cons ?_ ?_) | (refine BLeL.cons ?_ ?_) | (refine ple_int ?_) | (refine ple_bool ?_) | (refine ple_tt ?_) | (refine ple_ff ?_) | (refine PLe.aggL ?_) | (refine PLe.tupL ?_) | (refine BLe.cellsL ?_) | (refine fun h => absurd h (by decide)) | (refine fun h => ?_; exfalso; simp only [p1, Int.toNat_natCast, Bool.cond_true_left, Bool.cond_false_right, Bool.cond_true_right, Bool.cond_false_left, cond_true, cond_false, Bool.not_true, Bool.not_false, Bool.not_not, Bool.and_true, Bool.true_and, Bool.and_false, Bool.false_and, Bool.or_true, Bool.true_or, Bool.or_false, Bool.false_or, beq_self_eq_true, bne_self_eq_false, Bool.true_eq_false, Bool.false_eq_true, reduceCtorEq, Bool.and_self, Bool.or_self, Int.reduceBEq, Int.reduceBNe, Int.reduceNeg, decide_true, decide_false, Int.reduceLT, Int.reduceLE, Int.reduceGT] at h; done) | (refine fun (h : @Eq Bool _ _) => ?_)
      all_goals first | trivial | rfl | omega | (exact hL) | (simp only [p1, Int.toNat_natCast, Bool.cond_true_left, Bool.cond_false_right, Bool.cond_true_right, Bool.cond_false_left, cond_true, cond_false, Bool.not_true, Bool.not_false, Bool.not_not, Bool.and_true, Bool.true_and, Bool.and_false, Bool.false_and, Bool.or_true, Bool.true_or, Bool.or_false, Bool.false_or, beq_self_eq_true, bne_self_eq_false, Bool.true_eq_false, Bool.false_eq_true, reduceCtorEq, Bool.and_self, Bool.or_self, Int.reduceBEq, Int.reduceBNe, Int.reduceNeg, decide_true, decide_false, Int.reduceLT, Int.reduceLE, Int.reduceGT]; done) | (show @Eq Bool _ _; simp only [p1, Int.toNat_natCast, Bool.cond_true_left, Bool.cond_false_right, Bool.cond_true_right, Bool.cond_false_left, cond_true, cond_false, Bool.not_true, Bool.not_false, Bool.not_not, Bool.and_true, Bool.true_and, Bool.and_false, Bool.false_and, Bool.or_true, Bool.true_or, Bool.or_false, Bool.false_or, beq_self_eq_true, bne_self_eq_false, Bool.true_eq_false, Bool.false_eq_true, reduceCtorEq, Bool.and_self, Bool.or_self, Int.reduceBEq, Int.reduceBNe, Int.reduceNeg, decide_true, decide_false, Int.reduceLT, Int.reduceLE, Int.reduceGT]; done) | skip
    · have e1 : planR (svyOf wl lv n fun i => obsL (s i)) = planP wl wl.toNat (relsG (svyOf wl lv n fun i => obsL (s i))) wl.toNat 0 ⟨0, fun _ => [], 0⟩ := by unfold planR; rw [p1]; rfl
      have p1e : relE2 (svyOf wl lv n fun i => obsL (s i)) = 0 := by simpa using p1
      have p2 : svE (svyOf wl lv n fun i => obsL (s i)) = 0 := by
        unfold relE2 at p1e
        cases hb : (svE (svyOf wl lv n fun i => obsL (s i)) != 0) with
        | true => rw [hb] at p1e; exact p1e
        | false => simpa using hb
      have hok := svE_ok p2
      have hwl : 1 ≤ wl ∧ wl ≤ 10 := hok.wl
      have p3 : clashB (svyOf wl lv n fun i => obsL (s i)) = false := by
        unfold relE2 at p1e
        rw [show (svE (svyOf wl lv n fun i => obsL (s i)) != 0) = false by rw [p2]; rfl] at p1e
        have p1e : relE (svyOf wl lv n fun i => obsL (s i)) = 0 := p1e
        unfold relE at p1e
        cases hb : clashB (svyOf wl lv n fun i => obsL (s i)) with
        | true => rw [hb] at p1e; exact absurd p1e (by decide)
        | false => rfl
      have e2 : relN2 (svyOf wl lv n fun i => obsL (s i)) = wl.toNat := by unfold relN2 relN; rw [show (svE (svyOf wl lv n fun i => obsL (s i)) != 0) = false by rw [p2]; rfl, p3]; rfl
      have hR : isR wl.toNat (relsG (svyOf wl lv n fun i => obsL (s i))) := .mk (relV (svyOf wl lv n fun i => obsL (s i))) (by omega) rfl
      rw [e1, p1e]
      generalize hp : planP wl wl.toNat (relsG (svyOf wl lv n fun i => obsL (s i))) wl.toNat 0 ⟨0, fun _ => [], 0⟩ = r
      repeat' first | (exact PLe.refl _) | (exact BLe.refl _) | (exact PLeL.nil) | (exact BLeL.nil) | (refine ⟨?_, ?_⟩) | (refine PLeL.cons ?_ ?_) | (refine BLeL.cons ?_ ?_) | (refine ple_int ?_) | (refine ple_bool ?_) | (refine ple_tt ?_) | (refine ple_ff ?_) | (refine PLe.aggL ?_) | (refine PLe.tupL ?_) | (refine BLe.cellsL ?_) | (refine halt_mu (α := Nat × PS) (fun st => 100 - cnt 20 st) [1, 4, 6, 7, 19, 20] [1, 4, 6, 7, 60] (fun x => [.ptr 1 0, .ptr 4 0, .ptr 6 0, .ptr 7 0, I wl, I x.1]) (fun x => (BLP wl lv n (fun i => obsL (s i)) wl.toNat (relsG (svyOf wl lv n fun i => obsL (s i))) x.2).map Prod.snd) (fun x => x.1 ≤ wl.toNat ∧ okPS wl.toNat x.2 ∧ x.2.k = 0 ∧ planP wl wl.toNat (relsG (svyOf wl lv n fun i => obsL (s i))) (wl.toNat - x.1) x.1 x.2 = r) (0, ⟨0, fun _ => [], 0⟩) rfl (.mk ?_ ?_) ?_ ?_) | (refine fun h => absurd h (by decide)) | (refine fun h => ?_; exfalso; simp only [p1, Int.toNat_natCast, Bool.cond_true_left, Bool.cond_false_right, Bool.cond_true_right, Bool.cond_false_left, cond_true, cond_false, Bool.not_true, Bool.not_false, Bool.not_not, Bool.and_true, Bool.true_and, Bool.and_false, Bool.false_and, Bool.or_true, Bool.true_or, Bool.or_false, Bool.false_or, beq_self_eq_true, bne_self_eq_false, Bool.true_eq_false, Bool.false_eq_true, reduceCtorEq, Bool.and_self, Bool.or_self, Int.reduceBEq, Int.reduceBNe, Int.reduceNeg, decide_true, decide_false, Int.reduceLT, Int.reduceLE, Int.reduceGT] at h; done) | (refine fun (h : @Eq Bool _ _) => ?_)
      all_goals first | trivial | rfl | omega | (exact hL) | (exact e2) | (exact ⟨Nat.zero_le _, fun i hi => absurd hi (Nat.not_lt_zero i), rfl, hp⟩) | (simp only [p1, Int.toNat_natCast, Bool.cond_true_left, Bool.cond_false_right, Bool.cond_true_right, Bool.cond_false_left, cond_true, cond_false, Bool.not_true, Bool.not_false, Bool.not_not, Bool.and_true, Bool.true_and, Bool.and_false, Bool.false_and, Bool.or_true, Bool.true_or, Bool.or_false, Bool.false_or, beq_self_eq_true, bne_self_eq_false, Bool.true_eq_false, Bool.false_eq_true, reduceCtorEq, Bool.and_self, Bool.or_self, Int.reduceBEq, Int.reduceBNe, Int.reduceNeg, decide_true, decide_false, Int.reduceLT, Int.reduceLE, Int.reduceGT]; done) | (show @Eq Bool _ _; simp only [p1, Int.toNat_natCast, Bool.cond_true_left, Bool.cond_false_right, Bool.cond_true_right, Bool.cond_false_left, cond_true, cond_false, Bool.not_true, Bool.not_false, Bool.not_not, Bool.and_true, Bool.true_and, Bool.and_false, Bool.false_and, Bool.or_true, Bool.true_or, Bool.or_false, Bool.false_or, beq_self_eq_true, bne_self_eq_false, Bool.true_eq_false, Bool.false_eq_true, reduceCtorEq, Bool.and_self, Bool.or_self, Int.reduceBEq, Int.reduceBNe, Int.reduceNeg, decide_true, decide_false, Int.reduceLT, Int.reduceLE, Int.reduceGT]; done) | skip
      · exact ple_slice e2 fun _ _ => rfl
      · exact fun i hi => absurd hi (Nat.not_lt_zero i)
      · intro x hx
        obtain ⟨h1, h2, h3, h4⟩ := hx
        refine ⟨fun g => ?_, fun g => ?_⟩
        · have g : (x.1 : Int) < wl := of_decide_eq_true g
          have eN : wl.toNat - x.1 = (wl.toNat - (x.1 + 1)) + 1 := by omega
          rw [eN] at h4
          unfold planP at h4
          have e3 : w ((x.1 : Int) + 1) = ((x.1 + 1 : Nat) : Int) := (w64 (n := (x.1 : Int) + 1) (by omega) (by omega)).trans (by omega)
          have hc2 := chooseP_ok (W := wl) (N := wl.toNat) (rows := relsG (svyOf wl lv n fun i => obsL (s i))) (by omega) x.1 0 x.2 (by omega) h2
          generalize hcp : chooseP wl wl.toNat (relsG (svyOf wl lv n fun i => obsL (s i))) x.1 0 x.2 = r2 at h4 hc2
          obtain ⟨k1, k2, k3⟩ := hc2
          repeat' first | (refine eff106 wl lv n (fun i => obsL (s i)) wl.toNat (relsG (svyOf wl lv n fun i => obsL (s i))) hR (by omega) (by omega) (by omega) x.1 11 (by omega) _ _ 0 x.2 _ _ rfl rfl (by omega) (by omega) (by omega) h2 (by omega) (fun s => rfl) ?_) | (exact PLe.refl _) | (exact BLe.refl _) | (exact PLeL.nil) | (exact BLeL.nil) | (refine ⟨?_, ?_⟩) | (refine PLeL.cons ?_ ?_) | (refine BLeL.cons ?_ ?_) | (refine ple_int ?_) | (refine ple_bool ?_) | (refine ple_tt ?_) | (refine ple_ff ?_) | (refine PLe.aggL ?_) | (refine PLe.tupL ?_) | (refine BLe.cellsL ?_) | (refine fun h => absurd h (by decide)) | (refine fun (h : @Eq Bool _ _) => ?_)
          all_goals first | trivial | rfl | omega | skip
          · rw [hcp]
            intro v bl' hv hbl
            obtain rfl := funext hbl
            clear hbl
            refine (Bool.eq_false_or_eq_true r2.1).elim (fun hd => ?_) fun hd => ?_
            · rw [hd] at h4 hv
              have h4 : r2.2 = r := h4
              subst h4
              rcases hv with rfl | ⟨_, rfl⟩ | ⟨hv, _⟩
              · skip
                repeat' first | (exact PLe.refl _) | (exact BLe.refl _) | (exact PLeL.nil) | (exact BLeL.nil) | (refine ⟨?_, ?_⟩) | (refine PLeL.cons ?_ ?_) | (refine BLeL.cons ?_ ?_) | (refine ple_int ?_) | (refine ple_bool ?_) | (refine ple_tt ?_) | (refine ple_ff ?_) | (refine PLe.aggL ?_) | (refine PLe.tupL ?_) | (refine BLe.cellsL ?_) | (refine fun h => absurd h (by decide)) | (refine fun (h : @Eq Bool _ _) => ?_)
                all_goals first | trivial | rfl | omega | skip
              · skip
                repeat' first | (exact PLe.refl _) | (exact BLe.refl _) | (exact PLeL.nil) | (exact BLeL.nil) | (refine ⟨?_, ?_⟩) | (refine PLeL.cons ?_ ?_) | (refine BLeL.cons ?_ ?_) | (refine ple_int ?_) | (refine ple_bool ?_) | (refine ple_tt ?_) | (refine ple_ff ?_) | (refine PLe.aggL ?_) | (refine PLe.tupL ?_) | (refine BLe.cellsL ?_) | (refine fun h => absurd h (by decide)) | (refine fun (h : @Eq Bool _ _) => ?_)
                all_goals first | trivial | rfl | omega | skip
              · cases hv
            · rw [hd] at h4 hv
              have h4 : planP wl wl.toNat (relsG (svyOf wl lv n fun i => obsL (s i))) (wl.toNat - (x.1 + 1)) (x.1 + 1) r2.2 = r := h4
              have k3 : r2.2.k = 0 := (k3 hd).trans h3
              rcases hv with rfl | ⟨hv, _⟩ | ⟨_, rfl⟩
              · skip
                repeat' first | (exact PLe.refl _) | (exact BLe.refl _) | (exact PLeL.nil) | (exact BLeL.nil) | (refine ⟨?_, ?_⟩) | (refine PLeL.cons ?_ ?_) | (refine BLeL.cons ?_ ?_) | (refine ple_int ?_) | (refine ple_bool ?_) | (refine ple_tt ?_) | (refine ple_ff ?_) | (refine PLe.aggL ?_) | (refine PLe.tupL ?_) | (refine BLe.cellsL ?_) | (refine next_mu (x.1 + 1, r2.2) rfl ?_ ?_ (.mk ?_ ?_)) | (refine fun h => absurd h (by decide)) | (refine fun (h : @Eq Bool _ _) => ?_)
                all_goals first | trivial | rfl | omega | (exact e3) | (exact ⟨by omega, k1, k3, h4⟩) | (exact k1) | (exact k3) | (exact h4) | (show 100 - (x.1 + 1) < 100 - x.1; omega) | (show 100 - (((x.1 + 1 : Nat) : Int)).toNat < 100 - ((x.1 : Nat) : Int).toNat; omega) | skip
              · cases hv
              · skip
                repeat' first | (exact PLe.refl _) | (exact BLe.refl _) | (exact PLeL.nil) | (exact BLeL.nil) | (refine ⟨?_, ?_⟩) | (refine PLeL.cons ?_ ?_) | (refine BLeL.cons ?_ ?_) | (refine ple_int ?_) | (refine ple_bool ?_) | (refine ple_tt ?_) | (refine ple_ff ?_) | (refine PLe.aggL ?_) | (refine PLe.tupL ?_) | (refine BLe.cellsL ?_) | (refine next_mu (x.1 + 1, r2.2) rfl ?_ ?_ (.mk ?_ ?_)) | (refine fun h => absurd h (by decide)) | (refine fun (h : @Eq Bool _ _) => ?_)
                all_goals first | trivial | rfl | omega | (exact e3) | (exact ⟨by omega, k1, k3, h4⟩) | (exact k1) | (exact k3) | (exact h4) | (show 100 - (x.1 + 1) < 100 - x.1; omega) | (show 100 - (((x.1 + 1 : Nat) : Int)).toNat < 100 - ((x.1 : Nat) : Int).toNat; omega) | skip
        · have g : ¬ (x.1 : Int) < wl := of_decide_eq_false g
          have eN : wl.toNat - x.1 = 0 := by omega
          rw [eN] at h4
          have h4 : x.2 = r := h4
          subst h4
          repeat' first | (exact PLe.refl _) | (exact BLe.refl _) | (exact PLeL.nil) | (exact BLeL.nil) | (refine ⟨?_, ?_⟩) | (refine PLeL.cons ?_ ?_) | (refine BLeL.cons ?_ ?_) | (refine ple_int ?_) | (refine ple_bool ?_) | (refine ple_tt ?_) | (refine ple_ff ?_) | (refine PLe.aggL ?_) | (refine PLe.tupL ?_) | (refine BLe.cellsL ?_) | (refine fun h => absurd h (by decide)) | (refine fun (h : @Eq Bool _ _) => ?_)
          all_goals first | trivial | rfl | omega | skip
  · exact h.elim
end Go.Proofs.Ytnjhbmcambofgaa
