/- Layer 4: what a plan decides. -/
import Derived.Test.YtnjhbmcambofgaaS15
namespace Go.Proofs.Ytnjhbmcambofgaa
open Go.V
set_option linter.unusedSimpArgs false
set_option linter.unusedVariables false

inductive isR (N : Nat) (rows : Nat → List PV) : Prop
  | mk (R : Nat → Nat → Int) (hN : N ≤ 1000) (e : rows = fun i => [.slice none N fun j => [.int .u8 (R i j)]])
  | no (h : False)
theorem isR.get {N : Nat} {rows : Nat → List PV} (h : isR N rows) : N ≤ 1000 ∧ ∃ R : Nat → Nat → Int, rows = fun i => [.slice none N fun j => [.int .u8 (R i j)]] := by
  cases h with
  | mk R hN e => exact ⟨hN, R, e⟩
  | no h => exact h.elim
def Rof (rows : Nat → List PV) (i j : Nat) : Int := match rows i with
  | [.slice _ _ g] => match g j with
    | [.int _ k] => k
    | _ => 0
  | _ => 0
def pulB (rows : Nat → List PV) (k : Nat) (get : Nat → List PV) (q : Nat) : Int := firstN (fun i => Rof rows (intOf (get i)).toNat q == 2) k
abbrev okIx (N : Nat) (q : Int) : Prop := 0 ≤ q ∧ q < (N : Int)
def okPl (N k : Nat) (get : Nat → List PV) : Prop := ∀ i, i < k → okIx N (intOf (get i))
def pul0S : V.Spec
  | [.int .i64 p, .cptr [.slice none N rows], .cptr [.int .i64 q]] => (some (isR N rows ∧ okIx N p ∧ okIx N q), .bool (Rof rows p.toNat q.toNat == 2))
  | _ => bad
def pul1S : V.Spec
  | [.slice none k get, .fn (.func 130) [] [.cptr [.slice none N rows], .cptr [.int .i64 q]]] => (some ((isL intL k get ∧ okPl N k get) ∧ isR N rows ∧ okIx N q), I (pulB rows k get q.toNat))
  | _ => bad
def pul2S : V.Spec
  | [.slice none k get, .fn (.func 130) [] [.cptr [.slice none N rows], .cptr [.int .i64 q]]] => (some ((isL intL k get ∧ okPl N k get) ∧ isR N rows ∧ okIx N q), .bool (decide (0 ≤ pulB rows k get q.toNat)))
  | _ => bad
def pul3S : V.Spec
  | [.int .i64 q, .cptr [.slice none k get], .cptr [.slice none N rows]] => (some ((isL intL k get ∧ okPl N k get) ∧ isR N rows ∧ okIx N q), .bool (decide (0 ≤ pulB rows k get q.toNat)))
  | _ => bad
set_option maxRecDepth 20000 in
set_option maxHeartbeats 1000000 in
theorem sf130 : SF Try.prog 130 pul0S := by
  refine sf_of types_ok mixed (l := []) trivial (es := []) trivial 3 Try.func130 rfl (by kernel_rfl) fun args h => ?_
  unfold pul0S at h
  split at h
  · rename_i p N rows q
    obtain ⟨hR, hp, hq⟩ : isR N rows ∧ okIx N p ∧ okIx N q := h
    obtain ⟨hN, R, rfl⟩ := hR.get
    refine ⟨rfl, ?_⟩
    show evalCode _ _ _ fun o => match o with
      | .normal st | .ret st => withP _ (_ ∧ PLe _ (.bool (Rof (fun i => [.slice none N fun j => [.int .u8 (R i j)]]) p.toNat q.toNat == 2)))
      | _ => False
    repeat' first | (exact PLe.refl _) | (exact BLe.refl _) | (exact PLeL.nil) | (exact BLeL.nil) | (refine ⟨?_, ?_⟩) | (refine PLeL.cons ?_ ?_) | (refine BLeL.cons ?_ ?_) | (refine ple_int ?_) | (refine ple_bool ?_) | (refine ple_tt ?_) | (refine ple_ff ?_) | (refine PLe.aggL ?_) | (refine PLe.tupL ?_) | (refine BLe.cellsL ?_) | (refine fun h => absurd h (by decide)) | (refine fun (h : @Eq Bool _ _) => ?_)
    all_goals first | trivial | rfl | omega | (exact hp.1) | (exact hp.2) | (exact hq.1) | (exact hq.2) | skip
  · exact h.elim
set_option maxRecDepth 20000 in
set_option maxHeartbeats 1000000 in
theorem sf134 : SF Try.prog 134 pul1S := by
  refine sf_of types_ok mixed (l := [(130, pul0S)]) ⟨sf130, trivial⟩ (es := []) trivial 2 Try.func134 rfl (by kernel_rfl) fun args h => ?_
  unfold pul1S at h
  split at h
  · rename_i k get N rows q
    obtain ⟨⟨hL, hP⟩, hR, hq⟩ : (isL intL k get ∧ okPl N k get) ∧ isR N rows ∧ okIx N q := h
    obtain ⟨hn, s, rfl⟩ := isL.get hL
    obtain ⟨hN, R, rfl⟩ := hR.get
    have hP : ∀ i, i < k → okIx N (s i) := hP
    refine ⟨rfl, ?_⟩
    show evalCode _ _ _ fun o => match o with
      | .normal st | .ret st => withP _ (_ ∧ PLe _ (I (pulB (fun i => [.slice none N fun j => [.int .u8 (R i j)]]) k (fun i => intL (s i)) q.toNat)))
      | _ => False
    refine halt_rng (cnt 8) k [0, 1, 7, 8] [] (fun m => [.slice none k fun i => intL (s i), .fn (.func 130) [] [.cptr [.slice none N fun i => [.slice none N fun j => [.int .u8 (R i j)]]], .cptr [I q]], I (k : Nat), I (m : Nat)]) (fun m => []) (fun m => ∀ i, i < m → (Rof (fun i => [.slice none N fun j => [.int .u8 (R i j)]]) (s i).toNat q.toNat == 2) = false) rfl (.mk ?_ ?_) (fun i hi => by omega) ?_
    · repeat' first | (exact PLe.refl _) | (exact PLeL.nil) | (refine PLeL.cons ?_ ?_)
    · exact BLeL.nil
    · intro m hm hQ
      refine ⟨fun h1 => ?_, fun h1 => ?_⟩
      · have hlt : m < k := by simpa using h1
        have e1 := succ_w hlt hn
        clear h1
        refine (Bool.eq_false_or_eq_true (Rof (fun i => [.slice none N fun j => [.int .u8 (R i j)]]) (s m).toNat q.toNat == 2)).elim (fun hp' => ?_) fun hp' => ?_
        · have e2 : pulB (fun i => [.slice none N fun j => [.int .u8 (R i j)]]) k (fun i => intL (s i)) q.toNat = (m : Int) := firstN_t hQ hp' hlt
          rw [e2]
          repeat' first | (exact PLe.refl _) | (exact BLe.refl _) | (exact PLeL.nil) | (exact BLeL.nil) | (refine ⟨?_, ?_⟩) | (refine PLeL.cons ?_ ?_) | (refine BLeL.cons ?_ ?_) | (refine ple_int ?_) | (refine ple_bool ?_) | (refine ple_tt ?_) | (refine ple_ff ?_) | (refine PLe.aggL ?_) | (refine PLe.tupL ?_) | (refine BLe.cellsL ?_) | (refine fun h => absurd h (by decide)) | (refine fun h => ?_; exfalso; simp only [hp', Int.toNat_natCast, Bool.cond_true_left, Bool.cond_false_right, Bool.cond_true_right, Bool.cond_false_left, cond_true, cond_false, Bool.not_true, Bool.not_false, Bool.not_not, Bool.and_true, Bool.true_and, Bool.and_false, Bool.false_and, Bool.or_true, Bool.true_or, Bool.or_false, Bool.false_or, beq_self_eq_true, bne_self_eq_false, Bool.true_eq_false, Bool.false_eq_true, reduceCtorEq, Bool.and_self, Bool.or_self, Int.reduceBEq, Int.reduceBNe, Int.reduceNeg, decide_true, decide_false, Int.reduceLT, Int.reduceLE, Int.reduceGT] at h; done) | (refine fun (h : @Eq Bool _ _) => ?_)
          all_goals first | trivial | rfl | omega | (exact hR) | (exact hq) | (exact hP m hlt) | (exact ⟨hR, hP m hlt, hq⟩) | (exact (hP m hlt).1) | (exact (hP m hlt).2) | (exact hq.1) | (exact hq.2) | (simp only [hp', Int.toNat_natCast, Bool.cond_true_left, Bool.cond_false_right, Bool.cond_true_right, Bool.cond_false_left, cond_true, cond_false, Bool.not_true, Bool.not_false, Bool.not_not, Bool.and_true, Bool.true_and, Bool.and_false, Bool.false_and, Bool.or_true, Bool.true_or, Bool.or_false, Bool.false_or, beq_self_eq_true, bne_self_eq_false, Bool.true_eq_false, Bool.false_eq_true, reduceCtorEq, Bool.and_self, Bool.or_self, Int.reduceBEq, Int.reduceBNe, Int.reduceNeg, decide_true, decide_false, Int.reduceLT, Int.reduceLE, Int.reduceGT]; done) | (show @Eq Bool _ _; simp only [hp', Int.toNat_natCast, Bool.cond_true_left, Bool.cond_false_right, Bool.cond_true_right, Bool.cond_false_left, cond_true, cond_false, Bool.not_true, Bool.not_false, Bool.not_not, Bool.and_true, Bool.true_and, Bool.and_false, Bool.false_and, Bool.or_true, Bool.true_or, Bool.or_false, Bool.false_or, beq_self_eq_true, bne_self_eq_false, Bool.true_eq_false, Bool.false_eq_true, reduceCtorEq, Bool.and_self, Bool.or_self, Int.reduceBEq, Int.reduceBNe, Int.reduceNeg, decide_true, decide_false, Int.reduceLT, Int.reduceLE, Int.reduceGT]; done) | skip
        · have hQ' : ∀ i, i < m + 1 → (Rof (fun i => [.slice none N fun j => [.int .u8 (R i j)]]) (s i).toNat q.toNat == 2) = false := fun i hi => by
            rcases Nat.lt_succ_iff_lt_or_eq.1 hi with h1 | rfl
            · exact hQ i h1
            · exact hp'
          repeat' first | (exact PLe.refl _) | (exact BLe.refl _) | (exact PLeL.nil) | (exact BLeL.nil) | (refine ⟨?_, ?_⟩) | (refine PLeL.cons ?_ ?_) | (refine BLeL.cons ?_ ?_) | (refine ple_int ?_) | (refine ple_bool ?_) | (refine ple_tt ?_) | (refine ple_ff ?_) | (refine PLe.aggL ?_) | (refine PLe.tupL ?_) | (refine BLe.cellsL ?_) | (refine next_rng (cn := cnt 8) rfl (fun _ => rfl) hlt hQ' (.mk ?_ ?_)) | (refine fun h => absurd h (by decide)) | (refine fun h => ?_; exfalso; simp only [hp', Int.toNat_natCast, Bool.cond_true_left, Bool.cond_false_right, Bool.cond_true_right, Bool.cond_false_left, cond_true, cond_false, Bool.not_true, Bool.not_false, Bool.not_not, Bool.and_true, Bool.true_and, Bool.and_false, Bool.false_and, Bool.or_true, Bool.true_or, Bool.or_false, Bool.false_or, beq_self_eq_true, bne_self_eq_false, Bool.true_eq_false, Bool.false_eq_true, reduceCtorEq, Bool.and_self, Bool.or_self, Int.reduceBEq, Int.reduceBNe, Int.reduceNeg, decide_true, decide_false, Int.reduceLT, Int.reduceLE, Int.reduceGT] at h; done) | (refine fun (h : @Eq Bool _ _) => ?_)
          all_goals first | trivial | rfl | omega | (exact hR) | (exact hq) | (exact hP m hlt) | (exact ⟨hR, hP m hlt, hq⟩) | (exact (hP m hlt).1) | (exact (hP m hlt).2) | (exact hq.1) | (exact hq.2) | (exact e1) | (simp only [hp', Int.toNat_natCast, Bool.cond_true_left, Bool.cond_false_right, Bool.cond_true_right, Bool.cond_false_left, cond_true, cond_false, Bool.not_true, Bool.not_false, Bool.not_not, Bool.and_true, Bool.true_and, Bool.and_false, Bool.false_and, Bool.or_true, Bool.true_or, Bool.or_false, Bool.false_or, beq_self_eq_true, bne_self_eq_false, Bool.true_eq_false, Bool.false_eq_true, reduceCtorEq, Bool.and_self, Bool.or_self, Int.reduceBEq, Int.reduceBNe, Int.reduceNeg, decide_true, decide_false, Int.reduceLT, Int.reduceLE, Int.reduceGT]; done) | (show @Eq Bool _ _; simp only [hp', Int.toNat_natCast, Bool.cond_true_left, Bool.cond_false_right, Bool.cond_true_right, Bool.cond_false_left, cond_true, cond_false, Bool.not_true, Bool.not_false, Bool.not_not, Bool.and_true, Bool.true_and, Bool.and_false, Bool.false_and, Bool.or_true, Bool.true_or, Bool.or_false, Bool.false_or, beq_self_eq_true, bne_self_eq_false, Bool.true_eq_false, Bool.false_eq_true, reduceCtorEq, Bool.and_self, Bool.or_self, Int.reduceBEq, Int.reduceBNe, Int.reduceNeg, decide_true, decide_false, Int.reduceLT, Int.reduceLE, Int.reduceGT]; done) | skip
      · have hkn : m = k := by
          have : ¬ ((m : Int) < k) := of_decide_eq_false h1
          omega
        subst hkn
        have e2 : pulB (fun i => [.slice none N fun j => [.int .u8 (R i j)]]) m (fun i => intL (s i)) q.toNat = -1 := firstN_f hQ
        rw [e2]
        repeat' first | (exact PLe.refl _) | (exact BLe.refl _) | (exact PLeL.nil) | (exact BLeL.nil) | (refine ⟨?_, ?_⟩) | (refine PLeL.cons ?_ ?_) | (refine BLeL.cons ?_ ?_) | (refine ple_int ?_) | (refine ple_bool ?_) | (refine ple_tt ?_) | (refine ple_ff ?_) | (refine PLe.aggL ?_) | (refine PLe.tupL ?_) | (refine BLe.cellsL ?_) | (refine fun h => absurd h (by decide)) | (refine fun (h : @Eq Bool _ _) => ?_)
        all_goals first | trivial | rfl | omega | skip
  · exact h.elim
set_option maxRecDepth 20000 in
set_option maxHeartbeats 1000000 in
theorem sf129 : SF Try.prog 129 pul2S := by
  refine sf_of types_ok mixed (l := [(134, pul1S)]) ⟨sf134, trivial⟩ (es := []) trivial 2 Try.func129 rfl (by kernel_rfl) fun args h => ?_
  unfold pul2S at h
  split at h
  · rename_i k get N rows q
    have hc : (isL intL k get ∧ okPl N k get) ∧ isR N rows ∧ okIx N q := h
    clear h
    refine ⟨rfl, ?_⟩
    show evalCode _ _ _ fun o => match o with
      | .normal st | .ret st => withP _ (_ ∧ PLe _ (.bool (decide (0 ≤ pulB rows k get q.toNat))))
      | _ => False
    repeat' first | (exact PLe.refl _) | (exact BLe.refl _) | (exact PLeL.nil) | (exact BLeL.nil) | (refine ⟨?_, ?_⟩) | (refine PLeL.cons ?_ ?_) | (refine BLeL.cons ?_ ?_) | (refine ple_int ?_) | (refine ple_bool ?_) | (refine ple_tt ?_) | (refine ple_ff ?_) | (refine PLe.aggL ?_) | (refine PLe.tupL ?_) | (refine BLe.cellsL ?_) | (refine fun h => absurd h (by decide)) | (refine fun (h : @Eq Bool _ _) => ?_)
    all_goals first | trivial | rfl | omega | (exact hc) | (exact hc.1) | (exact hc.2) | (exact hc.1.1) | (exact hc.1.2) | (exact hc.2.1) | (exact hc.2.2) | (exact hc.2.2.1) | (exact hc.2.2.2) | skip
  · exact h.elim
set_option maxRecDepth 20000 in
set_option maxHeartbeats 1000000 in
theorem sf128 : SF Try.prog 128 pul3S := by
  refine sf_gen types_ok mixed (l := [(129, pul2S)]) ⟨sf129, trivial⟩ (es := []) trivial (its := []) trivial (fr := []) trivial [] [] false [] [] 3 Try.func128 rfl (by kernel_rfl) fun args h => ?_
  unfold pul3S at h
  split at h
  · rename_i q k get N rows
    have hc : (isL intL k get ∧ okPl N k get) ∧ isR N rows ∧ okIx N q := h
    clear h
    refine ⟨rfl, ?_⟩
    show evalCode _ _ _ fun o => match o with
      | .normal st | .ret st => withP _ (_ ∧ PLe _ (.bool (decide (0 ≤ pulB rows k get q.toNat))))
      | _ => False
    repeat' first | (exact PLe.refl _) | (exact BLe.refl _) | (exact PLeL.nil) | (exact BLeL.nil) | (refine ⟨?_, ?_⟩) | (refine PLeL.cons ?_ ?_) | (refine BLeL.cons ?_ ?_) | (refine ple_int ?_) | (refine ple_bool ?_) | (refine ple_tt ?_) | (refine ple_ff ?_) | (refine PLe.aggL ?_) | (refine PLe.tupL ?_) | (refine BLe.cellsL ?_) | (refine fun h => absurd h (by decide)) | (refine fun (h : @Eq Bool _ _) => ?_)
    all_goals first | trivial | rfl | omega | (exact hc) | (exact hc.1) | (exact hc.2) | (exact hc.1.1) | (exact hc.1.2) | (exact hc.2.1) | (exact hc.2.2) | (exact hc.2.2.1) | (exact hc.2.2.2) | skip
  · exact h.elim
def cellB (rows : Nat → List PV) (k : Nat) (get : Nat → List PV) (a b : Nat) : Bool := !((Rof rows a b == 1) && (!decide (0 ≤ pulB rows k get a) && !decide (0 ≤ pulB rows k get b)))
def rowB (N : Nat) (rows : Nat → List PV) (k : Nat) (get : Nat → List PV) (a : Nat) : Bool := allN (cellB rows k get a) N
def decB (N : Nat) (rows : Nat → List PV) (k : Nat) (get : Nat → List PV) : Bool := allN (rowB N rows k get) N
def decS : V.Spec
  | [.slice none N rows, .slice none k get] => (some ((isL intL k get ∧ okPl N k get) ∧ isR N rows), .bool (decB N rows k get))
  | _ => bad
set_option maxRecDepth 20000 in
set_option maxHeartbeats 1000000 in
theorem sf107 : SF Try.prog 107 decS := by
  refine sf_gen types_ok mixed (l := [(128, pul3S)]) ⟨sf128, trivial⟩ (es := []) trivial (its := []) trivial (fr := []) trivial [] [] false [] [] 2 Try.func107 rfl (by kernel_rfl) fun args h => ?_
  unfold decS at h
  split at h
  · rename_i N rows k get
    obtain ⟨⟨hL, hP⟩, hR⟩ : (isL intL k get ∧ okPl N k get) ∧ isR N rows := h
    obtain ⟨hn, s, rfl⟩ := isL.get hL
    obtain ⟨hN, R, rfl⟩ := hR.get
    refine ⟨rfl, ?_⟩
    show evalCode _ _ _ fun o => match o with
      | .normal st | .ret st => withP _ (_ ∧ PLe _ (.bool (decB N (fun i => [.slice none N fun j => [.int .u8 (R i j)]]) k (fun i => intL (s i)))))
      | _ => False
    repeat' first | (exact PLe.refl _) | (exact BLe.refl _) | (exact PLeL.nil) | (exact BLeL.nil) | (refine ⟨?_, ?_⟩) | (refine PLeL.cons ?_ ?_) | (refine BLeL.cons ?_ ?_) | (refine ple_int ?_) | (refine ple_bool ?_) | (refine ple_tt ?_) | (refine ple_ff ?_) | (refine PLe.aggL ?_) | (refine PLe.tupL ?_) | (refine BLe.cellsL ?_) | (refine halt_rng (cnt 13) N [5, 11, 12, 13] [2, 3] (fun a => [.fn (.func 128) [] [.ptr 3 0, .ptr 2 0], .slice none N fun i => [.slice none N fun j => [.int .u8 (R i j)]], I (N : Nat), I (a : Nat)]) (fun a => [.cells [.slice none N fun i => [.slice none N fun j => [.int .u8 (R i j)]]], .cells [.slice none k fun i => intL (s i)]]) (fun a => ∀ i, i < a → rowB N (fun i => [.slice none N fun j => [.int .u8 (R i j)]]) k (fun i => intL (s i)) i = true) rfl (.mk ?_ ?_) (fun i hi => by omega) ?_) | (refine fun h => absurd h (by decide)) | (refine fun (h : @Eq Bool _ _) => ?_)
    all_goals first | trivial | rfl | omega | skip
    intro a ha hQ
    refine ⟨fun h1 => ?_, fun h1 => ?_⟩
    · have hlt : a < N := by
        have : (a : Int) < (N : Int) := of_decide_eq_true h1
        omega
      have e1 := succ_w hlt (by omega)
      clear h1
      repeat' first | (exact PLe.refl _) | (exact BLe.refl _) | (exact PLeL.nil) | (exact BLeL.nil) | (refine ⟨?_, ?_⟩) | (refine PLeL.cons ?_ ?_) | (refine BLeL.cons ?_ ?_) | (refine ple_int ?_) | (refine ple_bool ?_) | (refine ple_tt ?_) | (refine ple_ff ?_) | (refine PLe.aggL ?_) | (refine PLe.tupL ?_) | (refine BLe.cellsL ?_) | (refine halt_rng (cnt 20) N [5, 6, 11, 12, 13, 18, 19, 20] [2, 3] (fun b => [.fn (.func 128) [] [.ptr 3 0, .ptr 2 0], I (a : Nat), .slice none N fun i => [.slice none N fun j => [.int .u8 (R i j)]], I (N : Nat), I (a : Nat), .slice none N fun j => [.int .u8 (R a j)], I (N : Nat), I (b : Nat)]) (fun b => [.cells [.slice none N fun i => [.slice none N fun j => [.int .u8 (R i j)]]], .cells [.slice none k fun i => intL (s i)]]) (fun b => ∀ i, i < b → cellB (fun i => [.slice none N fun j => [.int .u8 (R i j)]]) k (fun i => intL (s i)) a i = true) rfl (.mk ?_ ?_) ?_ ?_) | (refine fun h => absurd h (by decide)) | (refine fun (h : @Eq Bool _ _) => ?_)
      all_goals first | trivial | rfl | omega | (exact fun _ _ => rfl) | skip
      · intro b hb hQ2
        refine ⟨fun h2 => ?_, fun h2 => ?_⟩
        · have hlt2 : b < N := by
            have : (b : Int) < (N : Int) := of_decide_eq_true h2
            omega
          have e2 := succ_w hlt2 (by omega)
          clear h2
          refine (Bool.eq_false_or_eq_true (R a b == 1)).elim (fun q1 => ?_) fun q1 => ?_
          · skip
            refine (Bool.eq_false_or_eq_true (decide (0 ≤ pulB (fun i => [.slice none N fun j => [.int .u8 (R i j)]]) k (fun i => intL (s i)) a))).elim (fun q2 => ?_) fun q2 => ?_
            · skip
              have eC : cellB (fun i => [.slice none N fun j => [.int .u8 (R i j)]]) k (fun i => intL (s i)) a b = true := by unfold cellB; simp only [show Rof (fun i => [.slice none N fun j => [.int .u8 (R i j)]]) a b = R a b from rfl, q1, q2, Bool.true_and, Bool.false_and, Bool.and_false, Bool.and_true, Bool.not_true, Bool.not_false]
              have hQ2' : ∀ i, i < b + 1 → cellB (fun i => [.slice none N fun j => [.int .u8 (R i j)]]) k (fun i => intL (s i)) a i = true := fun i hi => by
                rcases Nat.lt_succ_iff_lt_or_eq.1 hi with h1 | rfl
                · exact hQ2 i h1
                · exact eC
              repeat' first | (exact PLe.refl _) | (exact BLe.refl _) | (exact PLeL.nil) | (exact BLeL.nil) | (refine ⟨?_, ?_⟩) | (refine PLeL.cons ?_ ?_) | (refine BLeL.cons ?_ ?_) | (refine ple_int ?_) | (refine ple_bool ?_) | (refine ple_tt ?_) | (refine ple_ff ?_) | (refine PLe.aggL ?_) | (refine PLe.tupL ?_) | (refine BLe.cellsL ?_) | (refine next_rng (cn := cnt 20) rfl (fun _ => rfl) hlt2 hQ2' (.mk ?_ ?_)) | (refine fun h => absurd h (by decide)) | (refine fun h => ?_; exfalso; simp only [q1, q2, Int.toNat_natCast, Bool.cond_true_left, Bool.cond_false_right, Bool.cond_true_right, Bool.cond_false_left, cond_true, cond_false, Bool.not_true, Bool.not_false, Bool.not_not, Bool.and_true, Bool.true_and, Bool.and_false, Bool.false_and, Bool.or_true, Bool.true_or, Bool.or_false, Bool.false_or, beq_self_eq_true, bne_self_eq_false, Bool.true_eq_false, Bool.false_eq_true, reduceCtorEq, Bool.and_self, Bool.or_self, Int.reduceBEq, Int.reduceBNe, Int.reduceNeg, decide_true, decide_false, Int.reduceLT, Int.reduceLE, Int.reduceGT] at h; done) | (refine fun (h : @Eq Bool _ _) => ?_)
              all_goals first | trivial | rfl | omega | (exact e2) | (exact hL) | (exact hP) | (exact hR) | (exact ⟨hL, hP⟩) | (exact ⟨hR, by omega, by omega⟩) | (exact ⟨⟨hL, hP⟩, hR, by omega, by omega⟩) | (simp only [q1, q2, Int.toNat_natCast, Bool.cond_true_left, Bool.cond_false_right, Bool.cond_true_right, Bool.cond_false_left, cond_true, cond_false, Bool.not_true, Bool.not_false, Bool.not_not, Bool.and_true, Bool.true_and, Bool.and_false, Bool.false_and, Bool.or_true, Bool.true_or, Bool.or_false, Bool.false_or, beq_self_eq_true, bne_self_eq_false, Bool.true_eq_false, Bool.false_eq_true, reduceCtorEq, Bool.and_self, Bool.or_self, Int.reduceBEq, Int.reduceBNe, Int.reduceNeg, decide_true, decide_false, Int.reduceLT, Int.reduceLE, Int.reduceGT]; done) | (show @Eq Bool _ _; simp only [q1, q2, Int.toNat_natCast, Bool.cond_true_left, Bool.cond_false_right, Bool.cond_true_right, Bool.cond_false_left, cond_true, cond_false, Bool.not_true, Bool.not_false, Bool.not_not, Bool.and_true, Bool.true_and, Bool.and_false, Bool.false_and, Bool.or_true, Bool.true_or, Bool.or_false, Bool.false_or, beq_self_eq_true, bne_self_eq_false, Bool.true_eq_false, Bool.false_eq_true, reduceCtorEq, Bool.and_self, Bool.or_self, Int.reduceBEq, Int.reduceBNe, Int.reduceNeg, decide_true, decide_false, Int.reduceLT, Int.reduceLE, Int.reduceGT]; done) | skip
            · skip
              refine (Bool.eq_false_or_eq_true (decide (0 ≤ pulB (fun i => [.slice none N fun j => [.int .u8 (R i j)]]) k (fun i => intL (s i)) b))).elim (fun q3 => ?_) fun q3 => ?_
              · skip
                have eC : cellB (fun i => [.slice none N fun j => [.int .u8 (R i j)]]) k (fun i => intL (s i)) a b = true := by unfold cellB; simp only [show Rof (fun i => [.slice none N fun j => [.int .u8 (R i j)]]) a b = R a b from rfl, q1, q2, q3, Bool.true_and, Bool.false_and, Bool.and_false, Bool.and_true, Bool.not_true, Bool.not_false]
                have hQ2' : ∀ i, i < b + 1 → cellB (fun i => [.slice none N fun j => [.int .u8 (R i j)]]) k (fun i => intL (s i)) a i = true := fun i hi => by
                  rcases Nat.lt_succ_iff_lt_or_eq.1 hi with h1 | rfl
                  · exact hQ2 i h1
                  · exact eC
                repeat' first | (exact PLe.refl _) | (exact BLe.refl _) | (exact PLeL.nil) | (exact BLeL.nil) | (refine ⟨?_, ?_⟩) | (refine PLeL.cons ?_ ?_) | (refine BLeL.cons ?_ ?_) | (refine ple_int ?_) | (refine ple_bool ?_) | (refine ple_tt ?_) | (refine ple_ff ?_) | (refine PLe.aggL ?_) | (refine PLe.tupL ?_) | (refine BLe.cellsL ?_) | (refine next_rng (cn := cnt 20) rfl (fun _ => rfl) hlt2 hQ2' (.mk ?_ ?_)) | (refine fun h => absurd h (by decide)) | (refine fun h => ?_; exfalso; simp only [q1, q2, q3, Int.toNat_natCast, Bool.cond_true_left, Bool.cond_false_right, Bool.cond_true_right, Bool.cond_false_left, cond_true, cond_false, Bool.not_true, Bool.not_false, Bool.not_not, Bool.and_true, Bool.true_and, Bool.and_false, Bool.false_and, Bool.or_true, Bool.true_or, Bool.or_false, Bool.false_or, beq_self_eq_true, bne_self_eq_false, Bool.true_eq_false, Bool.false_eq_true, reduceCtorEq, Bool.and_self, Bool.or_self, Int.reduceBEq, Int.reduceBNe, Int.reduceNeg, decide_true, decide_false, Int.reduceLT, Int.reduceLE, Int.reduceGT] at h; done) | (refine fun (h : @Eq Bool _ _) => ?_)
                all_goals first | trivial | rfl | omega | (exact e2) | (exact hL) | (exact hP) | (exact hR) | (exact ⟨hL, hP⟩) | (exact ⟨hR, by omega, by omega⟩) | (exact ⟨⟨hL, hP⟩, hR, by omega, by omega⟩) | (simp only [q1, q2, q3, Int.toNat_natCast, Bool.cond_true_left, Bool.cond_false_right, Bool.cond_true_right, Bool.cond_false_left, cond_true, cond_false, Bool.not_true, Bool.not_false, Bool.not_not, Bool.and_true, Bool.true_and, Bool.and_false, Bool.false_and, Bool.or_true, Bool.true_or, Bool.or_false, Bool.false_or, beq_self_eq_true, bne_self_eq_false, Bool.true_eq_false, Bool.false_eq_true, reduceCtorEq, Bool.and_self, Bool.or_self, Int.reduceBEq, Int.reduceBNe, Int.reduceNeg, decide_true, decide_false, Int.reduceLT, Int.reduceLE, Int.reduceGT]; done) | (show @Eq Bool _ _; simp only [q1, q2, q3, Int.toNat_natCast, Bool.cond_true_left, Bool.cond_false_right, Bool.cond_true_right, Bool.cond_false_left, cond_true, cond_false, Bool.not_true, Bool.not_false, Bool.not_not, Bool.and_true, Bool.true_and, Bool.and_false, Bool.false_and, Bool.or_true, Bool.true_or, Bool.or_false, Bool.false_or, beq_self_eq_true, bne_self_eq_false, Bool.true_eq_false, Bool.false_eq_true, reduceCtorEq, Bool.and_self, Bool.or_self, Int.reduceBEq, Int.reduceBNe, Int.reduceNeg, decide_true, decide_false, Int.reduceLT, Int.reduceLE, Int.reduceGT]; done) | skip
              · skip
                have eC : cellB (fun i => [.slice none N fun j => [.int .u8 (R i j)]]) k (fun i => intL (s i)) a b = false := by unfold cellB; simp only [show Rof (fun i => [.slice none N fun j => [.int .u8 (R i j)]]) a b = R a b from rfl, q1, q2, q3, Bool.true_and, Bool.false_and, Bool.and_false, Bool.and_true, Bool.not_true, Bool.not_false]
                have eD : decB N (fun i => [.slice none N fun j => [.int .u8 (R i j)]]) k (fun i => intL (s i)) = false := allN_f hlt (allN_f hlt2 eC)
                rw [eD]
                repeat' first | (exact PLe.refl _) | (exact BLe.refl _) | (exact PLeL.nil) | (exact BLeL.nil) | (refine ⟨?_, ?_⟩) | (refine PLeL.cons ?_ ?_) | (refine BLeL.cons ?_ ?_) | (refine ple_int ?_) | (refine ple_bool ?_) | (refine ple_tt ?_) | (refine ple_ff ?_) | (refine PLe.aggL ?_) | (refine PLe.tupL ?_) | (refine BLe.cellsL ?_) | (refine fun h => absurd h (by decide)) | (refine fun h => ?_; exfalso; simp only [q1, q2, q3, Int.toNat_natCast, Bool.cond_true_left, Bool.cond_false_right, Bool.cond_true_right, Bool.cond_false_left, cond_true, cond_false, Bool.not_true, Bool.not_false, Bool.not_not, Bool.and_true, Bool.true_and, Bool.and_false, Bool.false_and, Bool.or_true, Bool.true_or, Bool.or_false, Bool.false_or, beq_self_eq_true, bne_self_eq_false, Bool.true_eq_false, Bool.false_eq_true, reduceCtorEq, Bool.and_self, Bool.or_self, Int.reduceBEq, Int.reduceBNe, Int.reduceNeg, decide_true, decide_false, Int.reduceLT, Int.reduceLE, Int.reduceGT] at h; done) | (refine fun (h : @Eq Bool _ _) => ?_)
                all_goals first | trivial | rfl | omega | (exact e2) | (exact hL) | (exact hP) | (exact hR) | (exact ⟨hL, hP⟩) | (exact ⟨hR, by omega, by omega⟩) | (exact ⟨⟨hL, hP⟩, hR, by omega, by omega⟩) | (simp only [q1, q2, q3, Int.toNat_natCast, Bool.cond_true_left, Bool.cond_false_right, Bool.cond_true_right, Bool.cond_false_left, cond_true, cond_false, Bool.not_true, Bool.not_false, Bool.not_not, Bool.and_true, Bool.true_and, Bool.and_false, Bool.false_and, Bool.or_true, Bool.true_or, Bool.or_false, Bool.false_or, beq_self_eq_true, bne_self_eq_false, Bool.true_eq_false, Bool.false_eq_true, reduceCtorEq, Bool.and_self, Bool.or_self, Int.reduceBEq, Int.reduceBNe, Int.reduceNeg, decide_true, decide_false, Int.reduceLT, Int.reduceLE, Int.reduceGT]; done) | (show @Eq Bool _ _; simp only [q1, q2, q3, Int.toNat_natCast, Bool.cond_true_left, Bool.cond_false_right, Bool.cond_true_right, Bool.cond_false_left, cond_true, cond_false, Bool.not_true, Bool.not_false, Bool.not_not, Bool.and_true, Bool.true_and, Bool.and_false, Bool.false_and, Bool.or_true, Bool.true_or, Bool.or_false, Bool.false_or, beq_self_eq_true, bne_self_eq_false, Bool.true_eq_false, Bool.false_eq_true, reduceCtorEq, Bool.and_self, Bool.or_self, Int.reduceBEq, Int.reduceBNe, Int.reduceNeg, decide_true, decide_false, Int.reduceLT, Int.reduceLE, Int.reduceGT]; done) | skip
          · skip
            have eC : cellB (fun i => [.slice none N fun j => [.int .u8 (R i j)]]) k (fun i => intL (s i)) a b = true := by unfold cellB; simp only [show Rof (fun i => [.slice none N fun j => [.int .u8 (R i j)]]) a b = R a b from rfl, q1, Bool.true_and, Bool.false_and, Bool.and_false, Bool.and_true, Bool.not_true, Bool.not_false]
            have hQ2' : ∀ i, i < b + 1 → cellB (fun i => [.slice none N fun j => [.int .u8 (R i j)]]) k (fun i => intL (s i)) a i = true := fun i hi => by
              rcases Nat.lt_succ_iff_lt_or_eq.1 hi with h1 | rfl
              · exact hQ2 i h1
              · exact eC
            repeat' first | (exact PLe.refl _) | (exact BLe.refl _) | (exact PLeL.nil) | (exact BLeL.nil) | (refine ⟨?_, ?_⟩) | (refine PLeL.cons ?_ ?_) | (refine BLeL.cons ?_ ?_) | (refine ple_int ?_) | (refine ple_bool ?_) | (refine ple_tt ?_) | (refine ple_ff ?_) | (refine PLe.aggL ?_) | (refine PLe.tupL ?_) | (refine BLe.cellsL ?_) | (refine next_rng (cn := cnt 20) rfl (fun _ => rfl) hlt2 hQ2' (.mk ?_ ?_)) | (refine fun h => absurd h (by decide)) | (refine fun h => ?_; exfalso; simp only [q1, Int.toNat_natCast, Bool.cond_true_left, Bool.cond_false_right, Bool.cond_true_right, Bool.cond_false_left, cond_true, cond_false, Bool.not_true, Bool.not_false, Bool.not_not, Bool.and_true, Bool.true_and, Bool.and_false, Bool.false_and, Bool.or_true, Bool.true_or, Bool.or_false, Bool.false_or, beq_self_eq_true, bne_self_eq_false, Bool.true_eq_false, Bool.false_eq_true, reduceCtorEq, Bool.and_self, Bool.or_self, Int.reduceBEq, Int.reduceBNe, Int.reduceNeg, decide_true, decide_false, Int.reduceLT, Int.reduceLE, Int.reduceGT] at h; done) | (refine fun (h : @Eq Bool _ _) => ?_)
            all_goals first | trivial | rfl | omega | (exact e2) | (exact hL) | (exact hP) | (exact hR) | (exact ⟨hL, hP⟩) | (exact ⟨hR, by omega, by omega⟩) | (exact ⟨⟨hL, hP⟩, hR, by omega, by omega⟩) | (simp only [q1, Int.toNat_natCast, Bool.cond_true_left, Bool.cond_false_right, Bool.cond_true_right, Bool.cond_false_left, cond_true, cond_false, Bool.not_true, Bool.not_false, Bool.not_not, Bool.and_true, Bool.true_and, Bool.and_false, Bool.false_and, Bool.or_true, Bool.true_or, Bool.or_false, Bool.false_or, beq_self_eq_true, bne_self_eq_false, Bool.true_eq_false, Bool.false_eq_true, reduceCtorEq, Bool.and_self, Bool.or_self, Int.reduceBEq, Int.reduceBNe, Int.reduceNeg, decide_true, decide_false, Int.reduceLT, Int.reduceLE, Int.reduceGT]; done) | (show @Eq Bool _ _; simp only [q1, Int.toNat_natCast, Bool.cond_true_left, Bool.cond_false_right, Bool.cond_true_right, Bool.cond_false_left, cond_true, cond_false, Bool.not_true, Bool.not_false, Bool.not_not, Bool.and_true, Bool.true_and, Bool.and_false, Bool.false_and, Bool.or_true, Bool.true_or, Bool.or_false, Bool.false_or, beq_self_eq_true, bne_self_eq_false, Bool.true_eq_false, Bool.false_eq_true, reduceCtorEq, Bool.and_self, Bool.or_self, Int.reduceBEq, Int.reduceBNe, Int.reduceNeg, decide_true, decide_false, Int.reduceLT, Int.reduceLE, Int.reduceGT]; done) | skip
        · have hbn : b = N := by
            have : ¬ ((b : Int) < (N : Int)) := of_decide_eq_false h2
            omega
          subst hbn
          clear h2
          have hQ' : ∀ i, i < a + 1 → rowB b (fun i => [.slice none b fun j => [.int .u8 (R i j)]]) k (fun i => intL (s i)) i = true := fun i hi => by
            rcases Nat.lt_succ_iff_lt_or_eq.1 hi with h1 | rfl
            · exact hQ i h1
            · exact allN_t hQ2
          repeat' first | (exact PLe.refl _) | (exact BLe.refl _) | (exact PLeL.nil) | (exact BLeL.nil) | (refine ⟨?_, ?_⟩) | (refine PLeL.cons ?_ ?_) | (refine BLeL.cons ?_ ?_) | (refine ple_int ?_) | (refine ple_bool ?_) | (refine ple_tt ?_) | (refine ple_ff ?_) | (refine PLe.aggL ?_) | (refine PLe.tupL ?_) | (refine BLe.cellsL ?_) | (refine next_rng (cn := cnt 13) rfl (fun _ => rfl) hlt hQ' (.mk ?_ ?_)) | (refine fun h => absurd h (by decide)) | (refine fun (h : @Eq Bool _ _) => ?_)
          all_goals first | trivial | rfl | omega | (exact e1) | skip
    · have han : a = N := by
        have : ¬ ((a : Int) < (N : Int)) := of_decide_eq_false h1
        omega
      subst han
      clear h1
      have eD : decB a (fun i => [.slice none a fun j => [.int .u8 (R i j)]]) k (fun i => intL (s i)) = true := allN_t hQ
      rw [eD]
      repeat' first | (exact PLe.refl _) | (exact BLe.refl _) | (exact PLeL.nil) | (exact BLeL.nil) | (refine ⟨?_, ?_⟩) | (refine PLeL.cons ?_ ?_) | (refine BLeL.cons ?_ ?_) | (refine ple_int ?_) | (refine ple_bool ?_) | (refine ple_tt ?_) | (refine ple_ff ?_) | (refine PLe.aggL ?_) | (refine PLe.tupL ?_) | (refine BLe.cellsL ?_) | (refine fun h => absurd h (by decide)) | (refine fun (h : @Eq Bool _ _) => ?_)
      all_goals first | trivial | rfl | omega | skip
  · exact h.elim
end Go.Proofs.Ytnjhbmcambofgaa
