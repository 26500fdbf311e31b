/- Layer 4: the first clash and relations, by the document's words. -/
import Derived.Test.YtnjhbmcambofgaaS58
import Derived.Test.YtnjhbmcambofgaaS66
namespace Go.Proofs.Ytnjhbmcambofgaa
open Go.V
set_option linter.unusedSimpArgs false
set_option linter.unusedVariables false

def clC (v : Svy) (i : Nat) : Bool := decide ((v.s i).hi < v.lv) && (groupsM v (v.s i).a.toNat == groupsM v (v.s i).b.toNat)
def clM (v : Svy) : Int := firstN (clC v) v.n
theorem clash_iff {v : Svy} (h : okV v) : clashB v = decide (0 ≤ clM v) := by
  have hw := h.wl
  unfold clashB clM
  rw [firstN_congr (g := clC v) fun i hi => ?_]
  obtain ⟨ha, hb, _⟩ := h.s i hi
  unfold clB clC
  rw [gL_at v ha.1 (by omega), gL_at v hb.1 (by omega)]
set_option maxRecDepth 20000 in
set_option maxHeartbeats 2000000 in
theorem d48 (v : Svy) (hok : okV v) (k : Nat) (hk : (k : Int) = v.wl) : SF Try.prog 48 (V.atS [.agg (svyC v)] (I (clM v))) := by
  have hw := hok.wl
  have hn := hok.n
  have hL : isL obsL v.n fun i => obsL (v.s i) := .mk v.s (by omega) rfl
  refine sf_gen types_ok mixed (l := [(47, V.atS [.agg (svyC v)] (.slice none k fun i => intL (groupsM v i))), (101, isAgainstS)]) ⟨d47 v hok k hk, sf101, trivial⟩ (es := []) trivial (its := []) trivial (fr := []) trivial [] [] false [] [] 1 Try.func48 rfl (by kernel_rfl) fun args h => ?_
  have h : args = _ := h
  subst h
  refine ⟨rfl, ?_⟩
  show evalCode _ _ _ fun o => match o with
    | .normal st | .ret st => withP _ (_ ∧ PLe _ (I (clM v)))
    | _ => False
  repeat' first | (exact PLe.refl _) | (exact BLe.refl _) | (exact PLeL.nil) | (exact BLeL.nil) | (refine ⟨?_, ?_⟩) | (refine PLeL.cons ?_ ?_) | (refine BLeL.cons ?_ ?_) | (refine ple_int ?_) | (refine ple_bool ?_) | (refine ple_tt ?_) | (refine ple_ff ?_) | (refine PLe.aggL ?_) | (refine PLe.tupL ?_) | (refine BLe.cellsL ?_) | (refine halt_rng (cnt 4) v.n [1, 3, 4] [1] (fun i => [.ptr 1 0, .slice none k fun i => intL (groupsM v i), I (i : Nat)]) (fun i => [.cells (svyC v)]) (fun i => ∀ j, j < i → clC v j = false) rfl (.mk ?_ ?_) (fun j hj => absurd hj (Nat.not_lt_zero j)) ?_) | (refine fun h => absurd h (by decide)) | (refine fun (h : @Eq Bool _ _) => ?_)
  all_goals first | trivial | rfl | omega | skip
  intro i hi hq
  refine ⟨fun h1 => ?_, fun h1 => ?_⟩
  · have hlt_i : i < v.n := by
      have : (i : Int) < (v.n : Int) := of_decide_eq_true h1
      omega
    have e_i := succ_w hlt_i (by omega)
    clear h1
    obtain ⟨⟨ha0, ha1⟩, ⟨hb0, hb1⟩, hab, _⟩ := hok.s i hlt_i
    have hq' : clC v i = false → ∀ j, j < i + 1 → clC v j = false := fun hc j hj => by
      rcases Nat.lt_succ_iff_lt_or_eq.1 hj with h1 | rfl
      · exact hq j h1
      · exact hc
    refine (Bool.eq_false_or_eq_true (decide ((v.s i).hi < v.lv))).elim (fun q1 => ?_) fun q1 => ?_
    · refine (Bool.eq_false_or_eq_true (groupsM v (v.s i).a.toNat == groupsM v (v.s i).b.toNat)).elim (fun q2 => ?_) fun q2 => ?_
      · have hc : clC v i = true := by unfold clC; rw [q1, q2]; rfl
        have hv : clM v = (i : Int) := firstN_t hq hc hlt_i
        repeat' first | (refine fun h => absurd (h.symm.trans q1) (by decide)) | (refine fun h => absurd (h.symm.trans q2) (by decide)) | (exact PLe.refl _) | (exact BLe.refl _) | (exact PLeL.nil) | (exact BLeL.nil) | (refine ⟨?_, ?_⟩) | (refine PLeL.cons ?_ ?_) | (refine BLeL.cons ?_ ?_) | (refine ple_int ?_) | (refine ple_bool ?_) | (refine ple_tt ?_) | (refine ple_ff ?_) | (refine PLe.aggL ?_) | (refine PLe.tupL ?_) | (refine BLe.cellsL ?_) | (refine fun h => absurd h (by decide)) | (refine fun (h : @Eq Bool _ _) => ?_)
        all_goals first | trivial | rfl | omega | (exact e_i) | (exact ha0) | (exact hb0) | (exact ha1) | (exact hb1) | (show (v.s i).a < (k : Int); omega) | (show (v.s i).b < (k : Int); omega) | (exact hv.symm) | skip
      · have hc : clC v i = false := by unfold clC; rw [q1, q2]; rfl
        repeat' first | (refine fun h => absurd (h.symm.trans q1) (by decide)) | (refine fun h => absurd (h.symm.trans q2) (by decide)) | (exact PLe.refl _) | (exact BLe.refl _) | (exact PLeL.nil) | (exact BLeL.nil) | (refine ⟨?_, ?_⟩) | (refine PLeL.cons ?_ ?_) | (refine BLeL.cons ?_ ?_) | (refine ple_int ?_) | (refine ple_bool ?_) | (refine ple_tt ?_) | (refine ple_ff ?_) | (refine PLe.aggL ?_) | (refine PLe.tupL ?_) | (refine BLe.cellsL ?_) | (refine next_rng (cn := cnt 4) rfl (fun _ => rfl) hlt_i (hq' hc) (.mk ?_ ?_)) | (refine fun h => absurd h (by decide)) | (refine fun (h : @Eq Bool _ _) => ?_)
        all_goals first | trivial | rfl | omega | (exact e_i) | (exact ha0) | (exact hb0) | (exact ha1) | (exact hb1) | (show (v.s i).a < (k : Int); omega) | (show (v.s i).b < (k : Int); omega) | (exact hv.symm) | skip
    · have hc : clC v i = false := by unfold clC; rw [q1]; rfl
      repeat' first | (refine fun h => absurd (h.symm.trans q1) (by decide)) | (exact PLe.refl _) | (exact BLe.refl _) | (exact PLeL.nil) | (exact BLeL.nil) | (refine ⟨?_, ?_⟩) | (refine PLeL.cons ?_ ?_) | (refine BLeL.cons ?_ ?_) | (refine ple_int ?_) | (refine ple_bool ?_) | (refine ple_tt ?_) | (refine ple_ff ?_) | (refine PLe.aggL ?_) | (refine PLe.tupL ?_) | (refine BLe.cellsL ?_) | (refine next_rng (cn := cnt 4) rfl (fun _ => rfl) hlt_i (hq' hc) (.mk ?_ ?_)) | (refine fun h => absurd h (by decide)) | (refine fun (h : @Eq Bool _ _) => ?_)
      all_goals first | trivial | rfl | omega | (exact e_i) | (exact ha0) | (exact hb0) | (exact ha1) | (exact hb1) | (show (v.s i).a < (k : Int); omega) | (show (v.s i).b < (k : Int); omega) | (exact hv.symm) | skip
  · have h_i : i = v.n := by
      have : ¬ ((i : Int) < (v.n : Int)) := of_decide_eq_false h1
      omega
    clear h1
    have hv : clM v = -1 := firstN_f fun j hj => hq j (by omega)
    repeat' first | (exact PLe.refl _) | (exact BLe.refl _) | (exact PLeL.nil) | (exact BLeL.nil) | (refine ⟨?_, ?_⟩) | (refine PLeL.cons ?_ ?_) | (refine BLeL.cons ?_ ?_) | (refine ple_int ?_) | (refine ple_bool ?_) | (refine ple_tt ?_) | (refine ple_ff ?_) | (refine PLe.aggL ?_) | (refine PLe.tupL ?_) | (refine BLe.cellsL ?_) | (refine fun h => absurd h (by decide)) | (refine fun (h : @Eq Bool _ _) => ?_)
    all_goals first | trivial | rfl | omega | (exact hv.symm) | skip
set_option maxRecDepth 20000 in
set_option maxHeartbeats 2000000 in
theorem rrel_y (v : Svy) (hok : okV v) (k : Nat) (hk : (k : Int) = v.wl) (p q : Nat) (hp : p < k) (hq : q < k) (p1 : (groupsM v p == groupsM v q) = true) : SF Try.prog 53 (V.atS [.agg (svyC v), I (p : Nat), I (q : Nat)] (.int .u8 2)) := by
  have hw := hok.wl
  have hn := hok.n
  have hL : isL obsL v.n fun i => obsL (v.s i) := .mk v.s (by omega) rfl
  refine sf_gen types_ok mixed (l := [(47, V.atS [.agg (svyC v)] (.slice none k fun i => intL (groupsM v i))), (101, isAgainstS)]) ⟨d47 v hok k hk, sf101, trivial⟩ (es := []) trivial (its := []) trivial (fr := []) trivial [] [] false [] [] 3 Try.func53 rfl (by kernel_rfl) fun args h => ?_
  have h : args = _ := h
  subst h
  refine ⟨rfl, ?_⟩
  show evalCode _ _ _ fun o => match o with
    | .normal st | .ret st => withP _ (_ ∧ PLe _ (.int .u8 2))
    | _ => False
  repeat' first | (refine fun h => absurd (h.symm.trans p1) (by decide)) | (exact PLe.refl _) | (exact BLe.refl _) | (exact PLeL.nil) | (exact BLeL.nil) | (refine ⟨?_, ?_⟩) | (refine PLeL.cons ?_ ?_) | (refine BLeL.cons ?_ ?_) | (refine ple_int ?_) | (refine ple_bool ?_) | (refine ple_tt ?_) | (refine ple_ff ?_) | (refine PLe.aggL ?_) | (refine PLe.tupL ?_) | (refine BLe.cellsL ?_) | (refine fun h => absurd h (by decide)) | (refine fun (h : @Eq Bool _ _) => ?_)
  all_goals first | trivial | rfl | omega | skip
def apC (v : Svy) (p q i : Nat) : Bool := decide ((v.s i).hi < v.lv) && (((groupsM v (v.s i).a.toNat == groupsM v p) && (groupsM v (v.s i).b.toNat == groupsM v q)) || ((groupsM v (v.s i).a.toNat == groupsM v q) && (groupsM v (v.s i).b.toNat == groupsM v p)))
theorem apC_iff (v : Svy) (p q : Nat) : (∃ i, i < v.n ∧ apC v p q i = true) ↔ apartB v p q := by
  unfold apartB apC
  refine exists_congr fun i => and_congr_right fun _ => ?_
  simp only [Bool.and_eq_true, Bool.or_eq_true, decide_eq_true_eq, beq_iff_eq]
set_option maxRecDepth 20000 in
set_option maxHeartbeats 2000000 in
theorem rrel_n (v : Svy) (hok : okV v) (k : Nat) (hk : (k : Int) = v.wl) (p q : Nat) (hp : p < k) (hq : q < k) (p1 : (groupsM v p == groupsM v q) = false) : SF Try.prog 53 (V.atS [.agg (svyC v), I (p : Nat), I (q : Nat)] (.int .u8 (relV v p q))) := by
  have hw := hok.wl
  have hn := hok.n
  have hL : isL obsL v.n fun i => obsL (v.s i) := .mk v.s (by omega) rfl
  refine sf_gen types_ok mixed (l := [(47, V.atS [.agg (svyC v)] (.slice none k fun i => intL (groupsM v i))), (101, isAgainstS)]) ⟨d47 v hok k hk, sf101, trivial⟩ (es := []) trivial (its := []) trivial (fr := []) trivial [] [] false [] [] 3 Try.func53 rfl (by kernel_rfl) fun args h => ?_
  have h : args = _ := h
  subst h
  refine ⟨rfl, ?_⟩
  show evalCode _ _ _ fun o => match o with
    | .normal st | .ret st => withP _ (_ ∧ PLe _ (.int .u8 (relV v p q)))
    | _ => False
  repeat' first | (refine fun h => absurd (h.symm.trans p1) (by decide)) | (exact PLe.refl _) | (exact BLe.refl _) | (exact PLeL.nil) | (exact BLeL.nil) | (refine ⟨?_, ?_⟩) | (refine PLeL.cons ?_ ?_) | (refine BLeL.cons ?_ ?_) | (refine ple_int ?_) | (refine ple_bool ?_) | (refine ple_tt ?_) | (refine ple_ff ?_) | (refine PLe.aggL ?_) | (refine PLe.tupL ?_) | (refine BLe.cellsL ?_) | (refine halt_rng (cnt 8) v.n [1, 2, 3, 7, 8] [3] (fun i => [I (p : Nat), I (q : Nat), .ptr 3 0, .slice none k fun i => intL (groupsM v i), I (i : Nat)]) (fun i => [.cells (svyC v)]) (fun i => ∀ j, j < i → apC v p q j = false) rfl (.mk ?_ ?_) (fun j hj => absurd hj (Nat.not_lt_zero j)) ?_) | (refine fun h => absurd h (by decide)) | (refine fun (h : @Eq Bool _ _) => ?_)
  all_goals first | trivial | rfl | omega | skip
  intro i hi hr
  refine ⟨fun h1 => ?_, fun h1 => ?_⟩
  · have hlt_i : i < v.n := by
      have : (i : Int) < (v.n : Int) := of_decide_eq_true h1
      omega
    have e_i := succ_w hlt_i (by omega)
    clear h1
    obtain ⟨⟨ha0, ha1⟩, ⟨hb0, hb1⟩, hab, _⟩ := hok.s i hlt_i
    have hr' : apC v p q i = false → ∀ j, j < i + 1 → apC v p q j = false := fun hc j hj => by
      rcases Nat.lt_succ_iff_lt_or_eq.1 hj with h1 | rfl
      · exact hr j h1
      · exact hc
    have hy : apC v p q i = true → relV v p q = 0 := fun hc => rel_no hok (by omega) (by omega) (by simpa using p1) ((apC_iff v p q).1 ⟨i, hlt_i, hc⟩)
    refine (Bool.eq_false_or_eq_true (decide ((v.s i).hi < v.lv))).elim (fun q1 => ?_) fun q1 => ?_
    · skip
      refine (Bool.eq_false_or_eq_true (groupsM v (v.s i).a.toNat == groupsM v p)).elim (fun q2 => ?_) fun q2 => ?_
      · skip
        refine (Bool.eq_false_or_eq_true (groupsM v (v.s i).b.toNat == groupsM v q)).elim (fun q3 => ?_) fun q3 => ?_
        · skip
          have hc : apC v p q i = true := by unfold apC; simp only [q1, q2, q3, Bool.and_true, Bool.true_and, Bool.and_false, Bool.false_and, Bool.or_true, Bool.true_or, Bool.or_false, Bool.false_or, Bool.and_self, Bool.or_self]
          have hv := hy hc
          repeat' first | (refine fun h => absurd (h.symm.trans q1) (by decide)) | (refine fun h => absurd (h.symm.trans q2) (by decide)) | (refine fun h => absurd (h.symm.trans q3) (by decide)) | (exact PLe.refl _) | (exact BLe.refl _) | (exact PLeL.nil) | (exact BLeL.nil) | (refine ⟨?_, ?_⟩) | (refine PLeL.cons ?_ ?_) | (refine BLeL.cons ?_ ?_) | (refine ple_int ?_) | (refine ple_bool ?_) | (refine ple_tt ?_) | (refine ple_ff ?_) | (refine PLe.aggL ?_) | (refine PLe.tupL ?_) | (refine BLe.cellsL ?_) | (refine fun h => absurd h (by decide)) | (refine fun (h : @Eq Bool _ _) => ?_)
          all_goals first | trivial | rfl | omega | (exact e_i) | (exact ha0) | (exact hb0) | (exact ha1) | (exact hb1) | (show (v.s i).a < (k : Int); omega) | (show (v.s i).b < (k : Int); omega) | (show (p : Int) < (k : Int); omega) | (show (q : Int) < (k : Int); omega) | (exact hv) | (exact hv.symm) | skip
        · skip
          refine (Bool.eq_false_or_eq_true (groupsM v (v.s i).a.toNat == groupsM v q)).elim (fun q4 => ?_) fun q4 => ?_
          · skip
            refine (Bool.eq_false_or_eq_true (groupsM v (v.s i).b.toNat == groupsM v p)).elim (fun q5 => ?_) fun q5 => ?_
            · skip
              have hc : apC v p q i = true := by unfold apC; simp only [q1, q2, q3, q4, q5, Bool.and_true, Bool.true_and, Bool.and_false, Bool.false_and, Bool.or_true, Bool.true_or, Bool.or_false, Bool.false_or, Bool.and_self, Bool.or_self]
              have hv := hy hc
              repeat' first | (refine fun h => absurd (h.symm.trans q1) (by decide)) | (refine fun h => absurd (h.symm.trans q2) (by decide)) | (refine fun h => absurd (h.symm.trans q3) (by decide)) | (refine fun h => absurd (h.symm.trans q4) (by decide)) | (refine fun h => absurd (h.symm.trans q5) (by decide)) | (exact PLe.refl _) | (exact BLe.refl _) | (exact PLeL.nil) | (exact BLeL.nil) | (refine ⟨?_, ?_⟩) | (refine PLeL.cons ?_ ?_) | (refine BLeL.cons ?_ ?_) | (refine ple_int ?_) | (refine ple_bool ?_) | (refine ple_tt ?_) | (refine ple_ff ?_) | (refine PLe.aggL ?_) | (refine PLe.tupL ?_) | (refine BLe.cellsL ?_) | (refine fun h => absurd h (by decide)) | (refine fun (h : @Eq Bool _ _) => ?_)
              all_goals first | trivial | rfl | omega | (exact e_i) | (exact ha0) | (exact hb0) | (exact ha1) | (exact hb1) | (show (v.s i).a < (k : Int); omega) | (show (v.s i).b < (k : Int); omega) | (show (p : Int) < (k : Int); omega) | (show (q : Int) < (k : Int); omega) | (exact hv) | (exact hv.symm) | skip
            · skip
              have hc : apC v p q i = false := by unfold apC; simp only [q1, q2, q3, q4, q5, Bool.and_true, Bool.true_and, Bool.and_false, Bool.false_and, Bool.or_true, Bool.true_or, Bool.or_false, Bool.false_or, Bool.and_self, Bool.or_self]
              repeat' first | (refine fun h => absurd (h.symm.trans q1) (by decide)) | (refine fun h => absurd (h.symm.trans q2) (by decide)) | (refine fun h => absurd (h.symm.trans q3) (by decide)) | (refine fun h => absurd (h.symm.trans q4) (by decide)) | (refine fun h => absurd (h.symm.trans q5) (by decide)) | (exact PLe.refl _) | (exact BLe.refl _) | (exact PLeL.nil) | (exact BLeL.nil) | (refine ⟨?_, ?_⟩) | (refine PLeL.cons ?_ ?_) | (refine BLeL.cons ?_ ?_) | (refine ple_int ?_) | (refine ple_bool ?_) | (refine ple_tt ?_) | (refine ple_ff ?_) | (refine PLe.aggL ?_) | (refine PLe.tupL ?_) | (refine BLe.cellsL ?_) | (refine next_rng (cn := cnt 8) rfl (fun _ => rfl) hlt_i (hr' hc) (.mk ?_ ?_)) | (refine fun h => absurd h (by decide)) | (refine fun (h : @Eq Bool _ _) => ?_)
              all_goals first | trivial | rfl | omega | (exact e_i) | (exact ha0) | (exact hb0) | (exact ha1) | (exact hb1) | (show (v.s i).a < (k : Int); omega) | (show (v.s i).b < (k : Int); omega) | (show (p : Int) < (k : Int); omega) | (show (q : Int) < (k : Int); omega) | skip
          · skip
            have hc : apC v p q i = false := by unfold apC; simp only [q1, q2, q3, q4, Bool.and_true, Bool.true_and, Bool.and_false, Bool.false_and, Bool.or_true, Bool.true_or, Bool.or_false, Bool.false_or, Bool.and_self, Bool.or_self]
            repeat' first | (refine fun h => absurd (h.symm.trans q1) (by decide)) | (refine fun h => absurd (h.symm.trans q2) (by decide)) | (refine fun h => absurd (h.symm.trans q3) (by decide)) | (refine fun h => absurd (h.symm.trans q4) (by decide)) | (exact PLe.refl _) | (exact BLe.refl _) | (exact PLeL.nil) | (exact BLeL.nil) | (refine ⟨?_, ?_⟩) | (refine PLeL.cons ?_ ?_) | (refine BLeL.cons ?_ ?_) | (refine ple_int ?_) | (refine ple_bool ?_) | (refine ple_tt ?_) | (refine ple_ff ?_) | (refine PLe.aggL ?_) | (refine PLe.tupL ?_) | (refine BLe.cellsL ?_) | (refine next_rng (cn := cnt 8) rfl (fun _ => rfl) hlt_i (hr' hc) (.mk ?_ ?_)) | (refine fun h => absurd h (by decide)) | (refine fun (h : @Eq Bool _ _) => ?_)
            all_goals first | trivial | rfl | omega | (exact e_i) | (exact ha0) | (exact hb0) | (exact ha1) | (exact hb1) | (show (v.s i).a < (k : Int); omega) | (show (v.s i).b < (k : Int); omega) | (show (p : Int) < (k : Int); omega) | (show (q : Int) < (k : Int); omega) | skip
      · skip
        refine (Bool.eq_false_or_eq_true (groupsM v (v.s i).a.toNat == groupsM v q)).elim (fun q4 => ?_) fun q4 => ?_
        · skip
          refine (Bool.eq_false_or_eq_true (groupsM v (v.s i).b.toNat == groupsM v p)).elim (fun q5 => ?_) fun q5 => ?_
          · skip
            have hc : apC v p q i = true := by unfold apC; simp only [q1, q2, q4, q5, Bool.and_true, Bool.true_and, Bool.and_false, Bool.false_and, Bool.or_true, Bool.true_or, Bool.or_false, Bool.false_or, Bool.and_self, Bool.or_self]
            have hv := hy hc
            repeat' first | (refine fun h => absurd (h.symm.trans q1) (by decide)) | (refine fun h => absurd (h.symm.trans q2) (by decide)) | (refine fun h => absurd (h.symm.trans q4) (by decide)) | (refine fun h => absurd (h.symm.trans q5) (by decide)) | (exact PLe.refl _) | (exact BLe.refl _) | (exact PLeL.nil) | (exact BLeL.nil) | (refine ⟨?_, ?_⟩) | (refine PLeL.cons ?_ ?_) | (refine BLeL.cons ?_ ?_) | (refine ple_int ?_) | (refine ple_bool ?_) | (refine ple_tt ?_) | (refine ple_ff ?_) | (refine PLe.aggL ?_) | (refine PLe.tupL ?_) | (refine BLe.cellsL ?_) | (refine fun h => absurd h (by decide)) | (refine fun (h : @Eq Bool _ _) => ?_)
            all_goals first | trivial | rfl | omega | (exact e_i) | (exact ha0) | (exact hb0) | (exact ha1) | (exact hb1) | (show (v.s i).a < (k : Int); omega) | (show (v.s i).b < (k : Int); omega) | (show (p : Int) < (k : Int); omega) | (show (q : Int) < (k : Int); omega) | (exact hv) | (exact hv.symm) | skip
          · skip
            have hc : apC v p q i = false := by unfold apC; simp only [q1, q2, q4, q5, Bool.and_true, Bool.true_and, Bool.and_false, Bool.false_and, Bool.or_true, Bool.true_or, Bool.or_false, Bool.false_or, Bool.and_self, Bool.or_self]
            repeat' first | (refine fun h => absurd (h.symm.trans q1) (by decide)) | (refine fun h => absurd (h.symm.trans q2) (by decide)) | (refine fun h => absurd (h.symm.trans q4) (by decide)) | (refine fun h => absurd (h.symm.trans q5) (by decide)) | (exact PLe.refl _) | (exact BLe.refl _) | (exact PLeL.nil) | (exact BLeL.nil) | (refine ⟨?_, ?_⟩) | (refine PLeL.cons ?_ ?_) | (refine BLeL.cons ?_ ?_) | (refine ple_int ?_) | (refine ple_bool ?_) | (refine ple_tt ?_) | (refine ple_ff ?_) | (refine PLe.aggL ?_) | (refine PLe.tupL ?_) | (refine BLe.cellsL ?_) | (refine next_rng (cn := cnt 8) rfl (fun _ => rfl) hlt_i (hr' hc) (.mk ?_ ?_)) | (refine fun h => absurd h (by decide)) | (refine fun (h : @Eq Bool _ _) => ?_)
            all_goals first | trivial | rfl | omega | (exact e_i) | (exact ha0) | (exact hb0) | (exact ha1) | (exact hb1) | (show (v.s i).a < (k : Int); omega) | (show (v.s i).b < (k : Int); omega) | (show (p : Int) < (k : Int); omega) | (show (q : Int) < (k : Int); omega) | skip
        · skip
          have hc : apC v p q i = false := by unfold apC; simp only [q1, q2, q4, Bool.and_true, Bool.true_and, Bool.and_false, Bool.false_and, Bool.or_true, Bool.true_or, Bool.or_false, Bool.false_or, Bool.and_self, Bool.or_self]
          repeat' first | (refine fun h => absurd (h.symm.trans q1) (by decide)) | (refine fun h => absurd (h.symm.trans q2) (by decide)) | (refine fun h => absurd (h.symm.trans q4) (by decide)) | (exact PLe.refl _) | (exact BLe.refl _) | (exact PLeL.nil) | (exact BLeL.nil) | (refine ⟨?_, ?_⟩) | (refine PLeL.cons ?_ ?_) | (refine BLeL.cons ?_ ?_) | (refine ple_int ?_) | (refine ple_bool ?_) | (refine ple_tt ?_) | (refine ple_ff ?_) | (refine PLe.aggL ?_) | (refine PLe.tupL ?_) | (refine BLe.cellsL ?_) | (refine next_rng (cn := cnt 8) rfl (fun _ => rfl) hlt_i (hr' hc) (.mk ?_ ?_)) | (refine fun h => absurd h (by decide)) | (refine fun (h : @Eq Bool _ _) => ?_)
          all_goals first | trivial | rfl | omega | (exact e_i) | (exact ha0) | (exact hb0) | (exact ha1) | (exact hb1) | (show (v.s i).a < (k : Int); omega) | (show (v.s i).b < (k : Int); omega) | (show (p : Int) < (k : Int); omega) | (show (q : Int) < (k : Int); omega) | skip
    · skip
      have hc : apC v p q i = false := by unfold apC; simp only [q1, Bool.and_true, Bool.true_and, Bool.and_false, Bool.false_and, Bool.or_true, Bool.true_or, Bool.or_false, Bool.false_or, Bool.and_self, Bool.or_self]
      repeat' first | (refine fun h => absurd (h.symm.trans q1) (by decide)) | (exact PLe.refl _) | (exact BLe.refl _) | (exact PLeL.nil) | (exact BLeL.nil) | (refine ⟨?_, ?_⟩) | (refine PLeL.cons ?_ ?_) | (refine BLeL.cons ?_ ?_) | (refine ple_int ?_) | (refine ple_bool ?_) | (refine ple_tt ?_) | (refine ple_ff ?_) | (refine PLe.aggL ?_) | (refine PLe.tupL ?_) | (refine BLe.cellsL ?_) | (refine next_rng (cn := cnt 8) rfl (fun _ => rfl) hlt_i (hr' hc) (.mk ?_ ?_)) | (refine fun h => absurd h (by decide)) | (refine fun (h : @Eq Bool _ _) => ?_)
      all_goals first | trivial | rfl | omega | (exact e_i) | (exact ha0) | (exact hb0) | (exact ha1) | (exact hb1) | (show (v.s i).a < (k : Int); omega) | (show (v.s i).b < (k : Int); omega) | (show (p : Int) < (k : Int); omega) | (show (q : Int) < (k : Int); omega) | skip
  · have h_i : i = v.n := by
      have : ¬ ((i : Int) < (v.n : Int)) := of_decide_eq_false h1
      omega
    clear h1
    have hv : relV v p q = 1 := (rel1_iff hok (by omega) (by omega)).2 ⟨by simpa using p1, fun ha => by
      obtain ⟨j, hj, e⟩ := (apC_iff v p q).2 ha
      rw [hr j (by omega)] at e; cases e⟩
    repeat' first | (exact PLe.refl _) | (exact BLe.refl _) | (exact PLeL.nil) | (exact BLeL.nil) | (refine ⟨?_, ?_⟩) | (refine PLeL.cons ?_ ?_) | (refine BLeL.cons ?_ ?_) | (refine ple_int ?_) | (refine ple_bool ?_) | (refine ple_tt ?_) | (refine ple_ff ?_) | (refine PLe.aggL ?_) | (refine PLe.tupL ?_) | (refine BLe.cellsL ?_) | (refine fun h => absurd h (by decide)) | (refine fun (h : @Eq Bool _ _) => ?_)
    all_goals first | trivial | rfl | omega | (exact hv) | (exact hv.symm) | skip
theorem d53 (v : Svy) (hok : okV v) (k : Nat) (hk : (k : Int) = v.wl) (p q : Nat) (hp : p < k) (hq : q < k) : SF Try.prog 53 (V.atS [.agg (svyC v), I (p : Nat), I (q : Nat)] (.int .u8 (relV v p q))) := by
  have hw := hok.wl
  cases p1 : (groupsM v p == groupsM v q) with
  | true =>
    rw [rel_yes (by omega) (by omega) (by simpa using p1)]
    exact rrel_y v hok k hk p q hp hq p1
  | false => exact rrel_n v hok k hk p q hp hq p1
end Go.Proofs.Ytnjhbmcambofgaa
