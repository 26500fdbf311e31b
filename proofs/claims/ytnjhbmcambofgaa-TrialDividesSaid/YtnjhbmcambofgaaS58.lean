/- Layer 4: groups by the document's words. -/
import Derived.Test.YtnjhbmcambofgaaS57
import Derived.Test.YtnjhbmcambofgaaS28
import Derived.Test.YtnjhbmcambofgaaS17
import Derived.Test.YtnjhbmcambofgaaS32
namespace Go.Proofs.Ytnjhbmcambofgaa
open Go.V
set_option linter.unusedSimpArgs false
set_option linter.unusedVariables false

theorem up_next (i : Nat) : ∀ j, j < i + 1 → (bif Nat.blt j i then intL (j : Int) else (fun m => List.take 1 (List.drop (m * 1) (List.map toView [I (i : Nat)]))) (j - i)) = intL (j : Int) := fun j hj => by
  by_cases hl : j < i
  · rw [blt_t hl]; rfl
  · obtain rfl : j = i := by omega
    rw [blt_f hl, Nat.sub_self]; rfl
theorem pass_t {v : Svy} {g : Nat → Int} {m : Nat} {K : Nat} (q : decide (v.lv ≤ (v.s m).lo) = true) (ha : 0 ≤ (v.s m).a) (hb : 0 ≤ (v.s m).b) (hne : Nat.beq (v.s m).b.toNat (v.s m).a.toNat = false) : ∀ j, j < K → (bif Nat.beq j (v.s m).b.toNat then fillL (bif Nat.beq (v.s m).b.toNat (v.s m).a.toNat then fillL (intL (passG v.lv v.s g m (v.s m).a.toNat)) 0 [I (gmin (passG v.lv v.s g m (v.s m).a.toNat) (passG v.lv v.s g m (v.s m).b.toNat))] else intL (passG v.lv v.s g m (v.s m).b.toNat)) 0 [I (gmin (passG v.lv v.s g m (v.s m).a.toNat) (passG v.lv v.s g m (v.s m).b.toNat))] else bif Nat.beq j (v.s m).a.toNat then fillL (intL (passG v.lv v.s g m (v.s m).a.toNat)) 0 [I (gmin (passG v.lv v.s g m (v.s m).a.toNat) (passG v.lv v.s g m (v.s m).b.toNat))] else intL (passG v.lv v.s g m j)) = intL (passG v.lv v.s g (m + 1) j) := fun j _ => by
  show _ = intL (stepG v.lv (v.s m) (passG v.lv v.s g m) j)
  unfold stepG
  rw [q, hne]
  simp only [cond_true, cond_false, ix_nat ha, ix_nat hb]
  cases Nat.beq j (v.s m).b.toNat <;> cases Nat.beq j (v.s m).a.toNat <;> rfl
theorem pass_f {v : Svy} {g : Nat → Int} {m : Nat} {K : Nat} (q : decide (v.lv ≤ (v.s m).lo) = false) : ∀ j, j < K → intL (passG v.lv v.s g m j) = intL (passG v.lv v.s g (m + 1) j) := fun j _ => by
  show _ = intL (stepG v.lv (v.s m) (passG v.lv v.s g m) j)
  unfold stepG
  rw [q]; rfl
set_option maxRecDepth 20000 in
set_option maxHeartbeats 2000000 in
theorem rgroups_at (v : Svy) (hok : okV v) (k : Nat) (hk : (k : Int) = v.wl) : SF Try.prog 47 (V.atS [.agg (svyC v)] (.slice none k fun i => intL (gN v k i))) := by
  have hw := hok.wl
  have hn := hok.n
  have hL : isL obsL v.n fun i => obsL (v.s i) := .mk v.s (by omega) rfl
  refine sf_gen types_ok mixed (l := [(100, isSureS)]) ⟨sf100, trivial⟩ (es := []) trivial (its := []) trivial (fr := []) trivial [(6, [.own 3 [1] [1]])] [3] false [] [] 1 Try.func47 rfl (by kernel_rfl) fun args h => ?_
  have h : args = _ := h
  subst h
  refine ⟨rfl, ?_⟩
  show evalCode _ _ _ fun o => match o with
    | .normal st | .ret st => withP _ (_ ∧ PLe _ (.slice none k fun i => intL (gN v k i)))
    | _ => False
  repeat' first | (exact PLe.refl _) | (exact BLe.refl _) | (exact PLeL.nil) | (exact BLeL.nil) | (refine ⟨?_, ?_⟩) | (refine PLeL.cons ?_ ?_) | (refine BLeL.cons ?_ ?_) | (refine ple_int ?_) | (refine ple_bool ?_) | (refine ple_tt ?_) | (refine ple_ff ?_) | (refine PLe.aggL ?_) | (refine PLe.tupL ?_) | (refine BLe.cellsL ?_) | (refine halt_rng (cnt 4) k [1, 3, 4] [1, 3] (fun i => [.ptr 1 0, .stk 3 i i, I (i : Nat)]) (fun i => [.cells (svyC v), .stk i i 3 1 (fun j => intL (j : Int))]) (fun _ => True) rfl (.mk ?_ ?_) trivial ?_) | (refine fun h => absurd h (by decide)) | (refine fun (h : @Eq Bool _ _) => ?_)
  all_goals first | trivial | rfl | omega | (exact BLe.stk _ _ _ _ _ _ (fun i hi => absurd hi (Nat.not_lt_zero i))) | skip
  intro i hi _
  refine ⟨fun h1 => ?_, fun h1 => ?_⟩
  · have hlt_i : i < k := by
      have : (i : Int) < v.wl := of_decide_eq_true h1
      omega
    have e_i := succ_w hlt_i (by omega)
    clear h1
    repeat' first | (exact PLe.refl _) | (exact BLe.refl _) | (exact PLeL.nil) | (exact BLeL.nil) | (refine ⟨?_, ?_⟩) | (refine PLeL.cons ?_ ?_) | (refine BLeL.cons ?_ ?_) | (refine ple_int ?_) | (refine ple_bool ?_) | (refine ple_tt ?_) | (refine ple_ff ?_) | (refine PLe.aggL ?_) | (refine PLe.tupL ?_) | (refine BLe.cellsL ?_) | (refine next_rng (cn := cnt 4) rfl (fun _ => rfl) hlt_i trivial (.mk ?_ ?_)) | (refine fun h => absurd h (by decide)) | (refine fun (h : @Eq Bool _ _) => ?_)
    all_goals first | trivial | rfl | omega | (exact e_i) | (show i + 1 < 2147483648; omega) | (show (i + 1) * 8 ≤ 140737488355328; omega) | (intro y hy; obtain rfl : y = 0 := (by omega); exact ⟨rfl, rfl⟩) | (exact BLe.stk _ _ _ _ _ _ (up_next i)) | skip
  · have h_i : i = k := by
      have : ¬ ((i : Int) < v.wl) := of_decide_eq_false h1
      omega
    clear h1
    subst h_i
    repeat' first | (exact PLe.refl _) | (exact BLe.refl _) | (exact PLeL.nil) | (exact BLeL.nil) | (refine ⟨?_, ?_⟩) | (refine PLeL.cons ?_ ?_) | (refine BLeL.cons ?_ ?_) | (refine ple_int ?_) | (refine ple_bool ?_) | (refine ple_tt ?_) | (refine ple_ff ?_) | (refine PLe.aggL ?_) | (refine PLe.tupL ?_) | (refine BLe.cellsL ?_) | (refine halt_rng (cnt 5) i [1, 3, 5] [1, 3] (fun n => [.ptr 1 0, .own 3 i, I (n : Nat)]) (fun n => [.cells (svyC v), .arr i 1 (fun j => intL (gN v n j))]) (fun _ => True) rfl (.mk ?_ ?_) trivial ?_) | (refine fun h => absurd h (by decide)) | (refine fun (h : @Eq Bool _ _) => ?_)
    all_goals first | trivial | rfl | omega | (show 0 < i; omega) | (exact ble_arr rfl fun j hj => rfl) | skip
    intro n hn9 _
    refine ⟨fun h1 => ?_, fun h1 => ?_⟩
    · have hlt_n : n < i := by
        have : (n : Int) < v.wl := of_decide_eq_true h1
        omega
      have e_n := succ_w hlt_n (by omega)
      clear h1
      repeat' first | (exact PLe.refl _) | (exact BLe.refl _) | (exact PLeL.nil) | (exact BLeL.nil) | (refine ⟨?_, ?_⟩) | (refine PLeL.cons ?_ ?_) | (refine BLeL.cons ?_ ?_) | (refine ple_int ?_) | (refine ple_bool ?_) | (refine ple_tt ?_) | (refine ple_ff ?_) | (refine PLe.aggL ?_) | (refine PLe.tupL ?_) | (refine BLe.cellsL ?_) | (refine halt_rng (cnt 6) v.n [1, 3, 5, 6] [1, 3] (fun m => [.ptr 1 0, .own 3 i, I (n : Nat), I (m : Nat)]) (fun m => [.cells (svyC v), .arr i 1 (fun j => intL (passG v.lv v.s (gN v n) m j))]) (fun _ => True) rfl (.mk ?_ ?_) trivial ?_) | (refine fun h => absurd h (by decide)) | (refine fun (h : @Eq Bool _ _) => ?_)
      all_goals first | trivial | rfl | omega | (exact ble_arr rfl fun j hj => rfl) | skip
      intro m hm9 _
      refine ⟨fun h1 => ?_, fun h1 => ?_⟩
      · have hlt_m : m < v.n := by
          have : (m : Int) < (v.n : Int) := of_decide_eq_true h1
          omega
        have e_m := succ_w hlt_m (by omega)
        clear h1
        obtain ⟨⟨ha0, ha1⟩, ⟨hb0, hb1⟩, hab, _⟩ := hok.s m hlt_m
        have hne : Nat.beq (v.s m).b.toNat (v.s m).a.toNat = false := by
          cases e : Nat.beq (v.s m).b.toNat (v.s m).a.toNat with
          | false => rfl
          | true => have := Nat.eq_of_beq_eq_true e; omega
        refine (Bool.eq_false_or_eq_true (decide (v.lv ≤ (v.s m).lo))).elim (fun q1 => ?_) fun q1 => ?_
        · skip
          repeat' first | (refine fun h => absurd (h.symm.trans q1) (by decide)) | (exact PLe.refl _) | (exact BLe.refl _) | (exact PLeL.nil) | (exact BLeL.nil) | (refine ⟨?_, ?_⟩) | (refine PLeL.cons ?_ ?_) | (refine BLeL.cons ?_ ?_) | (refine ple_int ?_) | (refine ple_bool ?_) | (refine ple_tt ?_) | (refine ple_ff ?_) | (refine PLe.aggL ?_) | (refine PLe.tupL ?_) | (refine BLe.cellsL ?_) | (refine next_rng (cn := cnt 6) rfl (fun _ => rfl) hlt_m trivial (.mk ?_ ?_)) | (refine fun h => absurd h (by decide)) | (refine fun (h : @Eq Bool _ _) => ?_)
          all_goals first | trivial | rfl | omega | (show (v.s m).a.toNat < i; omega) | (show (v.s m).b.toNat < i; omega) | (exact Nat.le_refl 1) | (exact e_m) | (exact ha0) | (exact hb0) | (exact ha1) | (exact hb1) | (show (v.s m).a < (i : Int); omega) | (show (v.s m).b < (i : Int); omega) | (exact ble_arr rfl (pass_t q1 ha0 hb0 hne)) | (show 0 + 1 ≤ List.length (bif Nat.beq (v.s m).b.toNat (v.s m).a.toNat then _ else _); rw [hne]; exact Nat.le_refl 1) | skip
        · skip
          repeat' first | (refine fun h => absurd (h.symm.trans q1) (by decide)) | (exact PLe.refl _) | (exact BLe.refl _) | (exact PLeL.nil) | (exact BLeL.nil) | (refine ⟨?_, ?_⟩) | (refine PLeL.cons ?_ ?_) | (refine BLeL.cons ?_ ?_) | (refine ple_int ?_) | (refine ple_bool ?_) | (refine ple_tt ?_) | (refine ple_ff ?_) | (refine PLe.aggL ?_) | (refine PLe.tupL ?_) | (refine BLe.cellsL ?_) | (refine next_rng (cn := cnt 6) rfl (fun _ => rfl) hlt_m trivial (.mk ?_ ?_)) | (refine fun h => absurd h (by decide)) | (refine fun (h : @Eq Bool _ _) => ?_)
          all_goals first | trivial | rfl | omega | (show (v.s m).a.toNat < i; omega) | (show (v.s m).b.toNat < i; omega) | (exact Nat.le_refl 1) | (exact e_m) | (exact ha0) | (exact hb0) | (exact ha1) | (exact hb1) | (show (v.s m).a < (i : Int); omega) | (show (v.s m).b < (i : Int); omega) | (exact ble_arr rfl (pass_f q1)) | skip
      · have h_m : v.n = m := by
          have : ¬ ((m : Int) < (v.n : Int)) := of_decide_eq_false h1
          omega
        clear h1
        subst_eqs
        repeat' first | (exact PLe.refl _) | (exact BLe.refl _) | (exact PLeL.nil) | (exact BLeL.nil) | (refine ⟨?_, ?_⟩) | (refine PLeL.cons ?_ ?_) | (refine BLeL.cons ?_ ?_) | (refine ple_int ?_) | (refine ple_bool ?_) | (refine ple_tt ?_) | (refine ple_ff ?_) | (refine PLe.aggL ?_) | (refine PLe.tupL ?_) | (refine BLe.cellsL ?_) | (refine next_rng (cn := cnt 5) rfl (fun _ => rfl) hlt_n trivial (.mk ?_ ?_)) | (refine fun h => absurd h (by decide)) | (refine fun (h : @Eq Bool _ _) => ?_)
        all_goals first | trivial | rfl | omega | (exact e_n) | (exact ble_arr rfl fun j hj => by rw [← h_m]; rfl) | skip
    · have h_n : n = i := by
        have : ¬ ((n : Int) < v.wl) := of_decide_eq_false h1
        omega
      clear h1
      subst h_n
      repeat' first | (exact PLe.refl _) | (exact BLe.refl _) | (exact PLeL.nil) | (exact BLeL.nil) | (refine ⟨?_, ?_⟩) | (refine PLeL.cons ?_ ?_) | (refine BLeL.cons ?_ ?_) | (refine ple_int ?_) | (refine ple_bool ?_) | (refine ple_tt ?_) | (refine ple_ff ?_) | (refine PLe.aggL ?_) | (refine PLe.tupL ?_) | (refine BLe.cellsL ?_) | (refine fun h => absurd h (by decide)) | (refine fun (h : @Eq Bool _ _) => ?_)
      all_goals first | trivial | rfl | omega | skip
theorem d47 (v : Svy) (hok : okV v) (k : Nat) (hk : (k : Int) = v.wl) : SF Try.prog 47 (V.atS [.agg (svyC v)] (.slice none k fun i => intL (groupsM v i))) :=
  sf_le (rgroups_at v hok k hk) fun args h => ⟨h, ple_slice rfl fun i hi => congrArg intL (gN_groups hok hk hi)⟩
end Go.Proofs.Ytnjhbmcambofgaa
