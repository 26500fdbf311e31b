/- Layer 4: the law on divisions: one that fits. -/
import Derived.Test.YtnjhbmcambofgaaA15c
namespace Go.Proofs.Ytnjhbmcambofgaa
open Go.V
set_option linter.unusedSimpArgs false
set_option linter.unusedVariables false

set_option maxRecDepth 20000 in
set_option maxHeartbeats 2000000 in
theorem dividesT (k n : Nat) (lv : Int) (s : Nat → Obs) (x : Int) (hok : okV (sv4 k n lv s)) (hn : n ≤ 70) (hc : clM (sv4 k n lv s) = -1) (hd : fitsM (sv4 k n lv s) (digit x) = true) : SF Try.prog 15 (V.atS [.agg (svyC (sv4 k n lv s)), .int .u64 x] (.bool true)) := by
  have p0 : decide ((70 : Int) < (n : Int)) = false := decide_eq_false (by omega)
  have hw := hok.wl
  have hw : 1 ≤ (k : Int) ∧ (k : Int) ≤ 10 := hw
  have p1 : svE (sv4 k n lv s) = 0 := svE_okV hok
  have hk : (k : Int) = ((sv4 k n lv s)).wl := rfl
  have hk0 : ((k : Int) == ((sv4 k n lv s)).wl) = true := beq_self_eq_true _
  have xk : ((k : Int) != (k : Int)) = false := bne_self_eq_false _
  have hLv : isL obsL n fun i => obsL (s i) := .mk s (by omega) rfl
  have hcb : clashB (sv4 k n lv s) = false := (clash_iff hok).trans (by rw [hc]; rfl)
  have hgf := groups_fit hok hcb
  have xf1 : ∀ (m : Nat) (g : Nat → List PV), m = k → (∀ i, i < k → g i = intL (digit x i)) → fitB (sv4 k n lv s) m (fun i => intOf (g i)) = true := fun m g e h => by
    subst e
    rw [fitB_of hok h]
    unfold fitB
    rw [p1, hk0, hd]; rfl
  have xf2 : ∀ (m : Nat) (g : Nat → List PV), m = k → (∀ i, i < k → g i = intL (groupsM (sv4 k n lv s) i)) → (!fitB (sv4 k n lv s) m (fun i => intOf (g i))) = false := fun m g e h => by
    subst e
    rw [fitB_of hok h]
    unfold fitB
    rw [p1, hk0, hgf]; rfl
  refine sf_gen types_ok mixed (l := [(18, V.atS [] (.bool true)), (41, V.atS [.agg (svyC (sv4 k n lv s))] (I 0)), (43, V.atS [.agg (svyC (sv4 k n lv s))] (.agg (svyC (sv4 k n lv s)))), (42, V.atS [.agg (svyC (sv4 k n lv s))] (.tup [.slice none k fun i => intL (groupsM (sv4 k n lv s) i), I 0])), (64, V.atS [I (k : Nat), .int .u64 x] (.slice none k fun i => intL (digit x i))), (54, fitsGW), (44, V.atS [.agg (svyC (sv4 k n lv s))] (.tup [I 0, .slice none 0 nilF0, I 7])), (50, V.atS [.agg (svyC (sv4 k n lv s))] (.tup [.slice none k (relsG (sv4 k n lv s)), I 0]))]) ⟨sf18, (by have := d41 (sv4 k n lv s); rw [p1] at this; exact this), d43 (sv4 k n lv s) (by show n ≤ 1000; omega), (by have := d42c (sv4 k n lv s) (by show n ≤ 1000; omega); unfold groupsN at this; rw [p1] at this; exact this), d64 k (by omega) x, sf_fitsGW, d44n (sv4 k n lv s) hok hc, (by have := d50c (sv4 k n lv s) (by show n ≤ 1000; omega); unfold relN2 relE2 relN relE at this; rw [p1, hcb] at this; exact this), trivial⟩ (es := []) trivial (its := []) trivial (fr := []) trivial [(27, [.own 17 [2, 5, 6, 11, 13, 14, 15, 16] [2, 5]]), (32, [.frz 17 [2, 5, 6, 11, 13, 14, 15, 16] [2, 5]])] [177] false [] [] 2 Try.func15 rfl (by kernel_rfl) fun args h => ?_
  have h : args = _ := h
  subst h
  refine ⟨rfl, ?_⟩
  show evalCode _ _ _ fun o => match o with
    | .normal st | .ret st => withP _ (_ ∧ PLe _ (.bool true))
    | _ => False
  repeat' first | (refine fun h => absurd (h.symm.trans p0) (by decide)) | (refine fun h => absurd (h.symm.trans xk) (by decide)) | (refine fun h => absurd (h.symm.trans (xf2 _ _ ?_ ?_)) (by decide)) | (exact PLe.refl _) | (exact BLe.refl _) | (exact PLeL.nil) | (exact BLeL.nil) | (refine ⟨?_, ?_⟩) | (refine PLeL.cons ?_ ?_) | (refine BLeL.cons ?_ ?_) | (refine ple_int ?_) | (refine ple_bool ?_) | (refine ple_tt ?_) | (refine ple_ff ?_) | (refine PLe.aggL ?_) | (refine PLe.tupL ?_) | (refine BLe.cellsL ?_) | (refine halt_rng (cnt 15) k [2, 5, 6, 11, 13, 14, 15] [2, 5] (fun a => [.ptr 2 0, .ptr 5 0, .slice none k fun i => intL (groupsM (sv4 k n lv s) i), .slice none k (relsG (sv4 k n lv s)), .slice none k fun i => intL (digit x i), .bool true, I (a : Nat)]) (fun a => [.cells (svyC (sv4 k n lv s)), .cells (svyC (sv4 k n lv s))]) (fun _ => True) rfl (.mk ?_ ?_) trivial ?_) | (refine fun h => absurd h (by decide)) | (refine fun (h : @Eq Bool _ _) => ?_)
  all_goals first | trivial | rfl | omega | (show (0 + k) * 8 ≤ 140737488355328; omega) | (exact Nat.zero_add k) | (intro i hi; exact absurd hi (by omega)) | (intro i hi; exact ⟨rfl, rfl⟩) | (intro i hi; rfl) | (exact hLv) | (show n ≤ 1000; omega) | (show 0 + k ≤ 1000; omega) | (show k ≤ 1000; omega) | (show 0 + k < 2147483648; omega) | (exact xf1 _ _ (Nat.zero_add k) fun i hi => rfl) | skip
  intro a ha9 _
  refine ⟨fun h1 => ?_, fun h1 => ?_⟩
  · have hlt_a : a < k := by
      have : (a : Int) < (k : Int) := of_decide_eq_true h1
      omega
    have e_a := succ_w hlt_a (by omega)
    clear h1
    repeat' first | (refine fun h => absurd (h.symm.trans xk) (by decide)) | (exact PLe.refl _) | (exact BLe.refl _) | (exact PLeL.nil) | (exact BLeL.nil) | (refine ⟨?_, ?_⟩) | (refine PLeL.cons ?_ ?_) | (refine BLeL.cons ?_ ?_) | (refine ple_int ?_) | (refine ple_bool ?_) | (refine ple_tt ?_) | (refine ple_ff ?_) | (refine PLe.aggL ?_) | (refine PLe.tupL ?_) | (refine BLe.cellsL ?_) | (refine halt_rng (cnt 16) k [2, 5, 6, 11, 13, 14, 15, 16] [2, 5] (fun b => [.ptr 2 0, .ptr 5 0, .slice none k fun i => intL (groupsM (sv4 k n lv s) i), .slice none k (relsG (sv4 k n lv s)), .slice none k fun i => intL (digit x i), .bool true, I (a : Nat), I (b : Nat)]) (fun b => [.cells (svyC (sv4 k n lv s)), .cells (svyC (sv4 k n lv s))]) (fun _ => True) rfl (.mk ?_ ?_) trivial ?_) | (refine fun h => absurd h (by decide)) | (refine fun (h : @Eq Bool _ _) => ?_)
    all_goals first | trivial | rfl | omega | (show (a : Int) < (k : Int); omega) | skip
    intro b hb9 _
    refine ⟨fun h2 => ?_, fun h2 => ?_⟩
    · have hlt_b : b < k := by
        have : (b : Int) < (k : Int) := of_decide_eq_true h2
        omega
      have e_b := succ_w hlt_b (by omega)
      clear h2
      have ha10 : a < 10 := by omega
      have hb10 : b < 10 := by omega
      rcases rel_any (v := (sv4 k n lv s)) ha10 hb10 with r | r | r
      · skip
        have f2 : (relV (sv4 k n lv s) a b == 2) = false := by rw [r]; rfl
        have f0 : (relV (sv4 k n lv s) a b == 0) = true := by rw [r]; rfl
        have f1 : (relV (sv4 k n lv s) a b != 1) = true := by rw [r]; rfl
        have fx : (digit x a == digit x b) = false := beq_eq_false_iff_ne.2 (fits_no hok hd ha10 hb10 (rel_0 hok ha10 hb10 r))
        repeat' first | (refine fun h => absurd (h.symm.trans f2) (by decide)) | (refine fun h => absurd (h.symm.trans f0) (by decide)) | (refine fun h => absurd (h.symm.trans f1) (by decide)) | (refine fun h => absurd (h.symm.trans fx) (by decide)) | (exact PLe.refl _) | (exact BLe.refl _) | (exact PLeL.nil) | (exact BLeL.nil) | (refine ⟨?_, ?_⟩) | (refine PLeL.cons ?_ ?_) | (refine BLeL.cons ?_ ?_) | (refine ple_int ?_) | (refine ple_bool ?_) | (refine ple_tt ?_) | (refine ple_ff ?_) | (refine PLe.aggL ?_) | (refine PLe.tupL ?_) | (refine BLe.cellsL ?_) | (refine next_rng (cn := cnt 16) rfl (fun _ => rfl) hlt_b trivial (.mk ?_ ?_)) | (refine fun h => absurd h (by decide)) | (refine fun (h : @Eq Bool _ _) => ?_)
        all_goals first | trivial | rfl | omega | (exact e_b) | (show (a : Int) < (k : Int); omega) | (show (b : Int) < (k : Int); omega) | (show (b : Int) < ((k : Int).toNat : Int); omega) | skip
      · skip
        have f2 : (relV (sv4 k n lv s) a b == 2) = false := by rw [r]; rfl
        have f0 : (relV (sv4 k n lv s) a b == 0) = false := by rw [r]; rfl
        have f1 : (relV (sv4 k n lv s) a b != 1) = false := by rw [r]; rfl
        obtain ⟨hne, hna⟩ := rel_1 hok ha10 hb10 r
        have fge : (groupsM (sv4 k n lv s) a == groupsM (sv4 k n lv s) b) = false := beq_eq_false_iff_ne.2 hne
        have hof := one_fits hok hcb ha10 hb10 r
        have xf3 : ∀ (m : Nat) (g : Nat → List PV), m = k → (∀ i, i < k → g i = intL (oneP (sv4 k n lv s) a b i)) → (!fitB (sv4 k n lv s) m (fun i => intOf (g i))) = false := fun m g e h => by
          subst e
          rw [fitB_of hok h]
          unfold fitB
          rw [p1, hk0, hof]; rfl
        repeat' first | (refine fun h => absurd (h.symm.trans f2) (by decide)) | (refine fun h => absurd (h.symm.trans f0) (by decide)) | (refine fun h => absurd (h.symm.trans f1) (by decide)) | (exact PLe.refl _) | (exact BLe.refl _) | (exact PLeL.nil) | (exact BLeL.nil) | (refine ⟨?_, ?_⟩) | (refine PLeL.cons ?_ ?_) | (refine BLeL.cons ?_ ?_) | (refine ple_int ?_) | (refine ple_bool ?_) | (refine ple_tt ?_) | (refine ple_ff ?_) | (refine PLe.aggL ?_) | (refine PLe.tupL ?_) | (refine BLe.cellsL ?_) | (refine halt_rng (cnt 18) k [2, 5, 6, 11, 13, 14, 15, 16, 17, 18] [2, 5, 177] (fun w => [.ptr 2 0, .ptr 5 0, .slice none k fun i => intL (groupsM (sv4 k n lv s) i), .slice none k (relsG (sv4 k n lv s)), .slice none k fun i => intL (digit x i), .bool true, I (a : Nat), I (b : Nat), .own 177 k, I (w : Nat)]) (fun w => [.cells (svyC (sv4 k n lv s)), .cells (svyC (sv4 k n lv s)), .arr k 1 (fun i => intL (oneF (sv4 k n lv s) a b w i))]) (fun _ => True) rfl (.mk ?_ ?_) trivial ?_) | (refine fun h => absurd h (by decide)) | (refine fun (h : @Eq Bool _ _) => ?_)
        all_goals first | trivial | rfl | omega | (exact e_b) | (show (a : Int) < (k : Int); omega) | (show (b : Int) < (k : Int); omega) | (show (b : Int) < ((k : Int).toNat : Int); omega) | (show (0 + k) * 8 ≤ 140737488355328; omega) | (exact Nat.zero_add k) | (intro i hi; exact absurd hi (by omega)) | (intro i hi; exact ⟨rfl, rfl⟩) | (intro i hi; rfl) | (exact hLv) | (show n ≤ 1000; omega) | (show 0 + k ≤ 1000; omega) | (show k ≤ 1000; omega) | (show 0 + k < 2147483648; omega) | (show 0 < 0 + k; omega) | (show PLe (.own 177 (0 + k)) (.own 177 k); rw [Nat.zero_add]; exact PLe.refl _) | (exact ble_arr (Nat.zero_add k) fun i hi => rfl) | skip
        intro w hw9 _
        refine ⟨fun h3 => ?_, fun h3 => ?_⟩
        · have hlt_w : w < k := by
            have : (w : Int) < (k : Int) := of_decide_eq_true h3
            omega
          have e_w := succ_w hlt_w (by omega)
          clear h3
          refine (Bool.eq_false_or_eq_true (groupsM (sv4 k n lv s) w == groupsM (sv4 k n lv s) b)).elim (fun q => ?_) fun q => ?_
          · have q' : (oneF (sv4 k n lv s) a b w w == groupsM (sv4 k n lv s) b) = true := by rw [oneF_at]; exact q
            repeat' first | (refine fun h => absurd (h.symm.trans q') (by decide)) | (exact PLe.refl _) | (exact BLe.refl _) | (exact PLeL.nil) | (exact BLeL.nil) | (refine ⟨?_, ?_⟩) | (refine PLeL.cons ?_ ?_) | (refine BLeL.cons ?_ ?_) | (refine ple_int ?_) | (refine ple_bool ?_) | (refine ple_tt ?_) | (refine ple_ff ?_) | (refine PLe.aggL ?_) | (refine PLe.tupL ?_) | (refine BLe.cellsL ?_) | (refine next_rng (cn := cnt 18) rfl (fun _ => rfl) hlt_w trivial (.mk ?_ ?_)) | (refine fun h => absurd h (by decide)) | (refine fun (h : @Eq Bool _ _) => ?_)
            all_goals first | trivial | rfl | omega | (exact e_w) | (show (w : Int) < (k : Int); omega) | (show (a : Int) < (k : Int); omega) | (show (b : Int) < (k : Int); omega) | (show w < k; omega) | (exact Nat.le_refl _) | (exact Int.natCast_nonneg _) | (exact Nat.le_refl 1) | (exact ble_arr rfl (oneF_t q)) | skip
          · have q' : (oneF (sv4 k n lv s) a b w w == groupsM (sv4 k n lv s) b) = false := by rw [oneF_at]; exact q
            repeat' first | (refine fun h => absurd (h.symm.trans q') (by decide)) | (exact PLe.refl _) | (exact BLe.refl _) | (exact PLeL.nil) | (exact BLeL.nil) | (refine ⟨?_, ?_⟩) | (refine PLeL.cons ?_ ?_) | (refine BLeL.cons ?_ ?_) | (refine ple_int ?_) | (refine ple_bool ?_) | (refine ple_tt ?_) | (refine ple_ff ?_) | (refine PLe.aggL ?_) | (refine PLe.tupL ?_) | (refine BLe.cellsL ?_) | (refine next_rng (cn := cnt 18) rfl (fun _ => rfl) hlt_w trivial (.mk ?_ ?_)) | (refine fun h => absurd h (by decide)) | (refine fun (h : @Eq Bool _ _) => ?_)
            all_goals first | trivial | rfl | omega | (exact e_w) | (show (w : Int) < (k : Int); omega) | (show (a : Int) < (k : Int); omega) | (show (b : Int) < (k : Int); omega) | (show w < k; omega) | (exact Nat.le_refl _) | (exact Int.natCast_nonneg _) | (exact Nat.le_refl 1) | (exact ble_arr rfl (oneF_f q)) | skip
        · have hwk : w = k := by
            have : ¬ ((w : Int) < (k : Int)) := of_decide_eq_false h3
            omega
          clear h3
          repeat' first | (refine fun h => absurd (h.symm.trans fge) (by decide)) | (refine fun h => absurd (h.symm.trans (xf3 _ _ ?_ ?_)) (by decide)) | (exact PLe.refl _) | (exact BLe.refl _) | (exact PLeL.nil) | (exact BLeL.nil) | (refine ⟨?_, ?_⟩) | (refine PLeL.cons ?_ ?_) | (refine BLeL.cons ?_ ?_) | (refine ple_int ?_) | (refine ple_bool ?_) | (refine ple_tt ?_) | (refine ple_ff ?_) | (refine PLe.aggL ?_) | (refine PLe.tupL ?_) | (refine BLe.cellsL ?_) | (refine next_rng (cn := cnt 16) rfl (fun _ => rfl) hlt_b trivial (.mk ?_ ?_)) | (refine fun h => absurd h (by decide)) | (refine fun (h : @Eq Bool _ _) => ?_)
          all_goals first | trivial | rfl | omega | (exact e_b) | (show (a : Int) < (k : Int); omega) | (show (b : Int) < (k : Int); omega) | (show (b : Int) < ((k : Int).toNat : Int); omega) | (show (0 + k) * 8 ≤ 140737488355328; omega) | (exact Nat.zero_add k) | (intro i hi; exact absurd hi (by omega)) | (intro i hi; exact ⟨rfl, rfl⟩) | (intro i hi; rfl) | (exact hLv) | (show n ≤ 1000; omega) | (show 0 + k ≤ 1000; omega) | (show k ≤ 1000; omega) | (show 0 + k < 2147483648; omega) | rfl | (exact fun i hi => hwk ▸ oneF_end hi) | (intro i hi; rw [hwk]; exact oneF_end hi) | skip
      · skip
        have f2 : (relV (sv4 k n lv s) a b == 2) = true := by rw [r]; rfl
        have f0 : (relV (sv4 k n lv s) a b == 0) = false := by rw [r]; rfl
        have f1 : (relV (sv4 k n lv s) a b != 1) = true := by rw [r]; rfl
        have fx : (digit x a != digit x b) = false := by rw [fits_groups hok hd ha10 hb10 (rel_2 hok ha10 hb10 r)]; exact bne_self_eq_false _
        repeat' first | (refine fun h => absurd (h.symm.trans f2) (by decide)) | (refine fun h => absurd (h.symm.trans f0) (by decide)) | (refine fun h => absurd (h.symm.trans f1) (by decide)) | (refine fun h => absurd (h.symm.trans fx) (by decide)) | (exact PLe.refl _) | (exact BLe.refl _) | (exact PLeL.nil) | (exact BLeL.nil) | (refine ⟨?_, ?_⟩) | (refine PLeL.cons ?_ ?_) | (refine BLeL.cons ?_ ?_) | (refine ple_int ?_) | (refine ple_bool ?_) | (refine ple_tt ?_) | (refine ple_ff ?_) | (refine PLe.aggL ?_) | (refine PLe.tupL ?_) | (refine BLe.cellsL ?_) | (refine next_rng (cn := cnt 16) rfl (fun _ => rfl) hlt_b trivial (.mk ?_ ?_)) | (refine fun h => absurd h (by decide)) | (refine fun (h : @Eq Bool _ _) => ?_)
        all_goals first | trivial | rfl | omega | (exact e_b) | (show (a : Int) < (k : Int); omega) | (show (b : Int) < (k : Int); omega) | (show (b : Int) < ((k : Int).toNat : Int); omega) | skip
    · have hbk : b = k := by
        have : ¬ ((b : Int) < (k : Int)) := of_decide_eq_false h2
        omega
      clear h2
      repeat' first | (exact PLe.refl _) | (exact BLe.refl _) | (exact PLeL.nil) | (exact BLeL.nil) | (refine ⟨?_, ?_⟩) | (refine PLeL.cons ?_ ?_) | (refine BLeL.cons ?_ ?_) | (refine ple_int ?_) | (refine ple_bool ?_) | (refine ple_tt ?_) | (refine ple_ff ?_) | (refine PLe.aggL ?_) | (refine PLe.tupL ?_) | (refine BLe.cellsL ?_) | (refine next_rng (cn := cnt 15) rfl (fun _ => rfl) hlt_a trivial (.mk ?_ ?_)) | (refine fun h => absurd h (by decide)) | (refine fun (h : @Eq Bool _ _) => ?_)
      all_goals first | trivial | rfl | omega | (exact e_a) | skip
  · have hak : a = k := by
      have : ¬ ((a : Int) < (k : Int)) := of_decide_eq_false h1
      omega
    clear h1
    repeat' first | (exact PLe.refl _) | (exact BLe.refl _) | (exact PLeL.nil) | (exact BLeL.nil) | (refine ⟨?_, ?_⟩) | (refine PLeL.cons ?_ ?_) | (refine BLeL.cons ?_ ?_) | (refine ple_int ?_) | (refine ple_bool ?_) | (refine ple_tt ?_) | (refine ple_ff ?_) | (refine PLe.aggL ?_) | (refine PLe.tupL ?_) | (refine BLe.cellsL ?_) | (refine fun h => absurd h (by decide)) | (refine fun (h : @Eq Bool _ _) => ?_)
    all_goals first | trivial | rfl | omega | skip
end Go.Proofs.Ytnjhbmcambofgaa
