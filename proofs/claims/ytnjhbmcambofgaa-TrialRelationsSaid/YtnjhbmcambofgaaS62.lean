/- Layer 4: whether a set of wells is a plan, by the document's words. -/
import Derived.Test.YtnjhbmcambofgaaS59
import Derived.Test.YtnjhbmcambofgaaS60
namespace Go.Proofs.Ytnjhbmcambofgaa
open Go.V
set_option linter.unusedSimpArgs false
set_option linter.unusedVariables false

/-- Is a pair's relation known, or a well of one of their groups in the set? -/
def metB (v : Svy) (x : Int) (a b : Nat) : Nat → Bool
  | 0 => false
  | w + 1 => metB v x a b w || (btN x w && ((groupsM v w == groupsM v a) || (groupsM v w == groupsM v b)))
def prB (v : Svy) (k : Nat) (x : Int) (a b : Nat) : Bool := (relV v a b != 1) || metB v x a b k
def plB (v : Svy) (k : Nat) (x : Int) : Bool := allN (fun a => allN (prB v k x a) a) k
def relAt (v : Svy) (k : Nat) : V.Spec
  | [.agg y, .int .i64 p, .int .i64 q] => (some (svyC v = y ∧ 0 ≤ p ∧ p < k ∧ 0 ≤ q ∧ q < k), .int .u8 (relV v p.toNat q.toNat))
  | _ => bad
theorem sf53 {v : Svy} (hok : okV v) {k : Nat} (hk : (k : Int) = v.wl) : SF Try.prog 53 (relAt v k) := by
  refine sf_each ⟨_, _, Try.func53, by kernel_rfl, rfl⟩ fun args h => ?_
  unfold relAt at h ⊢
  split at h
  · rename_i y p q
    obtain ⟨rfl, h1, h2, h3, h4⟩ : svyC v = y ∧ 0 ≤ p ∧ p < k ∧ 0 ≤ q ∧ q < k := h
    have := d53 v hok k hk p.toNat q.toNat (by omega) (by omega)
    rw [Int.toNat_of_nonneg h1, Int.toNat_of_nonneg h3] at this
    exact this
  · exact h.elim
set_option maxRecDepth 20000 in
set_option maxHeartbeats 2000000 in
theorem d110 (v : Svy) (hok : okV v) (k : Nat) (hk : (k : Int) = v.wl) (x : Int) : SF Try.prog 110 (V.atS [.agg (svyC v), I x] (.bool (plB v k x))) := by
  have hw := hok.wl
  have hn := hok.n
  have hL : isL obsL v.n fun i => obsL (v.s i) := .mk v.s (by omega) rfl
  refine sf_gen types_ok mixed (l := [(47, V.atS [.agg (svyC v)] (.slice none k fun i => intL (groupsM v i))), (53, relAt v k)]) ⟨d47 v hok k hk, sf53 hok hk, trivial⟩ (es := []) trivial (its := []) trivial (fr := []) trivial [] [] false [] [] 2 Try.func110 rfl (by kernel_rfl) fun args h => ?_
  have h : args = _ := h
  subst h
  refine ⟨rfl, ?_⟩
  show evalCode _ _ _ fun o => match o with
    | .normal st | .ret st => withP _ (_ ∧ PLe _ (.bool (plB v k x)))
    | _ => False
  repeat' first | (exact PLe.refl _) | (exact BLe.refl _) | (exact PLeL.nil) | (exact BLeL.nil) | (refine ⟨?_, ?_⟩) | (refine PLeL.cons ?_ ?_) | (refine BLeL.cons ?_ ?_) | (refine ple_int ?_) | (refine ple_bool ?_) | (refine ple_tt ?_) | (refine ple_ff ?_) | (refine PLe.aggL ?_) | (refine PLe.tupL ?_) | (refine BLe.cellsL ?_) | (refine halt_rng (cnt 6) k [1, 2, 5, 6] [2] (fun a => [I x, .ptr 2 0, .slice none k fun i => intL (groupsM v i), I (a : Nat)]) (fun a => [.cells (svyC v)]) (fun a => ∀ j, j < a → allN (prB v k x j) j = true) rfl (.mk ?_ ?_) (fun j hj => absurd hj (Nat.not_lt_zero j)) ?_) | (refine fun h => absurd h (by decide)) | (refine fun (h : @Eq Bool _ _) => ?_)
  all_goals first | trivial | rfl | omega | skip
  intro a ha hqa
  refine ⟨fun h1 => ?_, fun h1 => ?_⟩
  · have hlt_a : a < k := by
      have : (a : Int) < v.wl := of_decide_eq_true h1
      omega
    have e_a := succ_w hlt_a (by omega)
    clear h1
    repeat' first | (exact PLe.refl _) | (exact BLe.refl _) | (exact PLeL.nil) | (exact BLeL.nil) | (refine ⟨?_, ?_⟩) | (refine PLeL.cons ?_ ?_) | (refine BLeL.cons ?_ ?_) | (refine ple_int ?_) | (refine ple_bool ?_) | (refine ple_tt ?_) | (refine ple_ff ?_) | (refine PLe.aggL ?_) | (refine PLe.tupL ?_) | (refine BLe.cellsL ?_) | (refine halt_rng (cnt 7) a [1, 2, 5, 6, 7] [2] (fun b => [I x, .ptr 2 0, .slice none k fun i => intL (groupsM v i), I (a : Nat), I (b : Nat)]) (fun b => [.cells (svyC v)]) (fun b => ∀ j, j < b → prB v k x a j = true) rfl (.mk ?_ ?_) (fun j hj => absurd hj (Nat.not_lt_zero j)) ?_) | (refine fun h => absurd h (by decide)) | (refine fun (h : @Eq Bool _ _) => ?_)
    all_goals first | trivial | rfl | omega | skip
    intro b hb hqb
    refine ⟨fun h1 => ?_, fun h1 => ?_⟩
    · have hlt_b : b < a := by
        have : (b : Int) < (a : Int) := of_decide_eq_true h1
        omega
      have e_b := succ_w hlt_b (by omega)
      clear h1
      have hqb' : prB v k x a b = true → ∀ j, j < b + 1 → prB v k x a j = true := fun hc j hj => by
        rcases Nat.lt_succ_iff_lt_or_eq.1 hj with h1 | rfl
        · exact hqb j h1
        · exact hc
      refine (Bool.eq_false_or_eq_true (relV v a b != 1)).elim (fun q1 => ?_) fun q1 => ?_
      · have hc : prB v k x a b = true := by unfold prB; rw [q1]; rfl
        repeat' first | (refine fun h => absurd (h.symm.trans q1) (by decide)) | (exact PLe.refl _) | (exact BLe.refl _) | (exact PLeL.nil) | (exact BLeL.nil) | (refine ⟨?_, ?_⟩) | (refine PLeL.cons ?_ ?_) | (refine BLeL.cons ?_ ?_) | (refine ple_int ?_) | (refine ple_bool ?_) | (refine ple_tt ?_) | (refine ple_ff ?_) | (refine PLe.aggL ?_) | (refine PLe.tupL ?_) | (refine BLe.cellsL ?_) | (refine next_rng (cn := cnt 7) rfl (fun _ => rfl) hlt_b (hqb' hc) (.mk ?_ ?_)) | (refine fun h => absurd h (by decide)) | (refine fun (h : @Eq Bool _ _) => ?_)
        all_goals first | trivial | rfl | omega | (exact e_b) | (exact ⟨rfl, rfl⟩) | (show 0 ≤ (a : Int) ∧ (a : Int) < (k : Int); omega) | (show 0 ≤ (b : Int) ∧ (b : Int) < (k : Int); omega) | (exact ⟨rfl, by omega, by omega⟩) | skip
      · skip
        repeat' first | (refine fun h => absurd (h.symm.trans q1) (by decide)) | (exact PLe.refl _) | (exact BLe.refl _) | (exact PLeL.nil) | (exact BLeL.nil) | (refine ⟨?_, ?_⟩) | (refine PLeL.cons ?_ ?_) | (refine BLeL.cons ?_ ?_) | (refine ple_int ?_) | (refine ple_bool ?_) | (refine ple_tt ?_) | (refine ple_ff ?_) | (refine PLe.aggL ?_) | (refine PLe.tupL ?_) | (refine BLe.cellsL ?_) | (refine halt_rng (cnt 9) k [1, 2, 5, 6, 7, 8, 9] [2] (fun w => [I x, .ptr 2 0, .slice none k fun i => intL (groupsM v i), I (a : Nat), I (b : Nat), .bool (metB v x a b w), I (w : Nat)]) (fun w => [.cells (svyC v)]) (fun _ => True) rfl (.mk ?_ ?_) trivial ?_) | (refine fun h => absurd h (by decide)) | (refine fun (h : @Eq Bool _ _) => ?_)
        all_goals first | trivial | rfl | omega | (exact e_b) | (exact ⟨rfl, rfl⟩) | (show 0 ≤ (a : Int) ∧ (a : Int) < (k : Int); omega) | (show 0 ≤ (b : Int) ∧ (b : Int) < (k : Int); omega) | (exact ⟨rfl, by omega, by omega⟩) | skip
        intro c hc9 _
        refine ⟨fun h1 => ?_, fun h1 => ?_⟩
        · have hlt_c : c < k := by
            have : (c : Int) < v.wl := of_decide_eq_true h1
            omega
          have e_c := succ_w hlt_c (by omega)
          clear h1
          refine (Bool.eq_false_or_eq_true (metB v x a b c)).elim (fun m1 => ?_) fun m1 => ?_
          · skip
            have hm : metB v x a b (c + 1) = true := by show (metB v x a b c || (btN x c && ((groupsM v c == groupsM v a) || (groupsM v c == groupsM v b)))) = _; simp only [m1, Bool.and_true, Bool.true_and, Bool.and_false, Bool.false_and, Bool.or_true, Bool.true_or, Bool.or_false, Bool.false_or, Bool.and_self, Bool.or_self]
            repeat' first | (refine fun h => absurd (h.symm.trans m1) (by decide)) | (exact PLe.refl _) | (exact BLe.refl _) | (exact PLeL.nil) | (exact BLeL.nil) | (refine ⟨?_, ?_⟩) | (refine PLeL.cons ?_ ?_) | (refine BLeL.cons ?_ ?_) | (refine ple_int ?_) | (refine ple_bool ?_) | (refine ple_tt ?_) | (refine ple_ff ?_) | (refine PLe.aggL ?_) | (refine PLe.tupL ?_) | (refine BLe.cellsL ?_) | (refine next_rng (cn := cnt 9) rfl (fun _ => rfl) hlt_c trivial (.mk ?_ ?_)) | (refine fun h => absurd h (by decide)) | (refine fun (h : @Eq Bool _ _) => ?_)
            all_goals first | trivial | rfl | omega | (exact e_c) | (exact u64_nn _) | (show (a : Int) < (k : Int); omega) | (show (b : Int) < (k : Int); omega) | (show (c : Int) < (k : Int); omega) | (exact hm.symm) | (exact hm) | skip
          · skip
            refine (Bool.eq_false_or_eq_true (btN x c)).elim (fun m2 => ?_) fun m2 => ?_
            · skip
              refine (Bool.eq_false_or_eq_true (groupsM v c == groupsM v a)).elim (fun m3 => ?_) fun m3 => ?_
              · skip
                have hm : metB v x a b (c + 1) = true := by show (metB v x a b c || (btN x c && ((groupsM v c == groupsM v a) || (groupsM v c == groupsM v b)))) = _; simp only [m1, m2, m3, Bool.and_true, Bool.true_and, Bool.and_false, Bool.false_and, Bool.or_true, Bool.true_or, Bool.or_false, Bool.false_or, Bool.and_self, Bool.or_self]
                repeat' first | (refine fun h => absurd (h.symm.trans m1) (by decide)) | (refine fun h => absurd (h.symm.trans m2) (by decide)) | (refine fun h => absurd (h.symm.trans m3) (by decide)) | (exact PLe.refl _) | (exact BLe.refl _) | (exact PLeL.nil) | (exact BLeL.nil) | (refine ⟨?_, ?_⟩) | (refine PLeL.cons ?_ ?_) | (refine BLeL.cons ?_ ?_) | (refine ple_int ?_) | (refine ple_bool ?_) | (refine ple_tt ?_) | (refine ple_ff ?_) | (refine PLe.aggL ?_) | (refine PLe.tupL ?_) | (refine BLe.cellsL ?_) | (refine next_rng (cn := cnt 9) rfl (fun _ => rfl) hlt_c trivial (.mk ?_ ?_)) | (refine fun h => absurd h (by decide)) | (refine fun (h : @Eq Bool _ _) => ?_)
                all_goals first | trivial | rfl | omega | (exact e_c) | (exact u64_nn _) | (show (a : Int) < (k : Int); omega) | (show (b : Int) < (k : Int); omega) | (show (c : Int) < (k : Int); omega) | (exact hm.symm) | (exact hm) | skip
              · skip
                refine (Bool.eq_false_or_eq_true (groupsM v c == groupsM v b)).elim (fun m4 => ?_) fun m4 => ?_
                · skip
                  have hm : metB v x a b (c + 1) = true := by show (metB v x a b c || (btN x c && ((groupsM v c == groupsM v a) || (groupsM v c == groupsM v b)))) = _; simp only [m1, m2, m3, m4, Bool.and_true, Bool.true_and, Bool.and_false, Bool.false_and, Bool.or_true, Bool.true_or, Bool.or_false, Bool.false_or, Bool.and_self, Bool.or_self]
                  repeat' first | (refine fun h => absurd (h.symm.trans m1) (by decide)) | (refine fun h => absurd (h.symm.trans m2) (by decide)) | (refine fun h => absurd (h.symm.trans m3) (by decide)) | (refine fun h => absurd (h.symm.trans m4) (by decide)) | (exact PLe.refl _) | (exact BLe.refl _) | (exact PLeL.nil) | (exact BLeL.nil) | (refine ⟨?_, ?_⟩) | (refine PLeL.cons ?_ ?_) | (refine BLeL.cons ?_ ?_) | (refine ple_int ?_) | (refine ple_bool ?_) | (refine ple_tt ?_) | (refine ple_ff ?_) | (refine PLe.aggL ?_) | (refine PLe.tupL ?_) | (refine BLe.cellsL ?_) | (refine next_rng (cn := cnt 9) rfl (fun _ => rfl) hlt_c trivial (.mk ?_ ?_)) | (refine fun h => absurd h (by decide)) | (refine fun (h : @Eq Bool _ _) => ?_)
                  all_goals first | trivial | rfl | omega | (exact e_c) | (exact u64_nn _) | (show (a : Int) < (k : Int); omega) | (show (b : Int) < (k : Int); omega) | (show (c : Int) < (k : Int); omega) | (exact hm.symm) | (exact hm) | (show (groupsM v c == groupsM v b) = _; exact m4.trans hm.symm) | skip
                · skip
                  have hm : metB v x a b (c + 1) = false := by show (metB v x a b c || (btN x c && ((groupsM v c == groupsM v a) || (groupsM v c == groupsM v b)))) = _; simp only [m1, m2, m3, m4, Bool.and_true, Bool.true_and, Bool.and_false, Bool.false_and, Bool.or_true, Bool.true_or, Bool.or_false, Bool.false_or, Bool.and_self, Bool.or_self]
                  repeat' first | (refine fun h => absurd (h.symm.trans m1) (by decide)) | (refine fun h => absurd (h.symm.trans m2) (by decide)) | (refine fun h => absurd (h.symm.trans m3) (by decide)) | (refine fun h => absurd (h.symm.trans m4) (by decide)) | (exact PLe.refl _) | (exact BLe.refl _) | (exact PLeL.nil) | (exact BLeL.nil) | (refine ⟨?_, ?_⟩) | (refine PLeL.cons ?_ ?_) | (refine BLeL.cons ?_ ?_) | (refine ple_int ?_) | (refine ple_bool ?_) | (refine ple_tt ?_) | (refine ple_ff ?_) | (refine PLe.aggL ?_) | (refine PLe.tupL ?_) | (refine BLe.cellsL ?_) | (refine next_rng (cn := cnt 9) rfl (fun _ => rfl) hlt_c trivial (.mk ?_ ?_)) | (refine fun h => absurd h (by decide)) | (refine fun (h : @Eq Bool _ _) => ?_)
                  all_goals first | trivial | rfl | omega | (exact e_c) | (exact u64_nn _) | (show (a : Int) < (k : Int); omega) | (show (b : Int) < (k : Int); omega) | (show (c : Int) < (k : Int); omega) | (exact hm.symm) | (exact hm) | (show (groupsM v c == groupsM v b) = _; exact m4.trans hm.symm) | skip
            · skip
              have hm : metB v x a b (c + 1) = false := by show (metB v x a b c || (btN x c && ((groupsM v c == groupsM v a) || (groupsM v c == groupsM v b)))) = _; simp only [m1, m2, Bool.and_true, Bool.true_and, Bool.and_false, Bool.false_and, Bool.or_true, Bool.true_or, Bool.or_false, Bool.false_or, Bool.and_self, Bool.or_self]
              repeat' first | (refine fun h => absurd (h.symm.trans m1) (by decide)) | (refine fun h => absurd (h.symm.trans m2) (by decide)) | (exact PLe.refl _) | (exact BLe.refl _) | (exact PLeL.nil) | (exact BLeL.nil) | (refine ⟨?_, ?_⟩) | (refine PLeL.cons ?_ ?_) | (refine BLeL.cons ?_ ?_) | (refine ple_int ?_) | (refine ple_bool ?_) | (refine ple_tt ?_) | (refine ple_ff ?_) | (refine PLe.aggL ?_) | (refine PLe.tupL ?_) | (refine BLe.cellsL ?_) | (refine next_rng (cn := cnt 9) rfl (fun _ => rfl) hlt_c trivial (.mk ?_ ?_)) | (refine fun h => absurd h (by decide)) | (refine fun (h : @Eq Bool _ _) => ?_)
              all_goals first | trivial | rfl | omega | (exact e_c) | (exact u64_nn _) | (show (a : Int) < (k : Int); omega) | (show (b : Int) < (k : Int); omega) | (show (c : Int) < (k : Int); omega) | (exact hm.symm) | (exact hm) | skip
        · have h_c : c = k := by
            have : ¬ ((c : Int) < v.wl) := of_decide_eq_false h1
            omega
          clear h1
          subst h_c
          refine (Bool.eq_false_or_eq_true (metB v x a b c)).elim (fun m1 => ?_) fun m1 => ?_
          · have hc : prB v c x a b = true := by unfold prB; rw [m1, Bool.or_true]
            have m2 : (!metB v x a b c) = false := by rw [m1]; rfl
            repeat' first | (refine fun h => absurd (h.symm.trans m2) (by decide)) | (exact PLe.refl _) | (exact BLe.refl _) | (exact PLeL.nil) | (exact BLeL.nil) | (refine ⟨?_, ?_⟩) | (refine PLeL.cons ?_ ?_) | (refine BLeL.cons ?_ ?_) | (refine ple_int ?_) | (refine ple_bool ?_) | (refine ple_tt ?_) | (refine ple_ff ?_) | (refine PLe.aggL ?_) | (refine PLe.tupL ?_) | (refine BLe.cellsL ?_) | (refine next_rng (cn := cnt 7) rfl (fun _ => rfl) hlt_b (hqb' hc) (.mk ?_ ?_)) | (refine fun h => absurd h (by decide)) | (refine fun (h : @Eq Bool _ _) => ?_)
            all_goals first | trivial | rfl | omega | (exact e_b) | (exact ⟨rfl, rfl⟩) | (show 0 ≤ (a : Int) ∧ (a : Int) < (k : Int); omega) | (show 0 ≤ (b : Int) ∧ (b : Int) < (k : Int); omega) | (exact ⟨rfl, by omega, by omega⟩) | skip
          · have m2 : (!metB v x a b c) = true := by rw [m1]; rfl
            have hf : plB v c x = false := allN_f hlt_a (allN_f hlt_b (by unfold prB; rw [q1, m1]; rfl))
            repeat' first | (refine fun h => absurd (h.symm.trans m2) (by decide)) | (exact PLe.refl _) | (exact BLe.refl _) | (exact PLeL.nil) | (exact BLeL.nil) | (refine ⟨?_, ?_⟩) | (refine PLeL.cons ?_ ?_) | (refine BLeL.cons ?_ ?_) | (refine ple_int ?_) | (refine ple_bool ?_) | (refine ple_tt ?_) | (refine ple_ff ?_) | (refine PLe.aggL ?_) | (refine PLe.tupL ?_) | (refine BLe.cellsL ?_) | (refine fun h => absurd h (by decide)) | (refine fun (h : @Eq Bool _ _) => ?_)
            all_goals first | trivial | rfl | omega | (exact hf.symm) | (exact hf) | skip
    · have h_b : b = a := by
        have : ¬ ((b : Int) < (a : Int)) := of_decide_eq_false h1
        omega
      clear h1
      have hqa' : ∀ j, j < a + 1 → allN (prB v k x j) j = true := fun j hj => by
        rcases Nat.lt_succ_iff_lt_or_eq.1 hj with h1 | rfl
        · exact hqa j h1
        · exact allN_t fun i hi => hqb i (by omega)
      repeat' first | (exact PLe.refl _) | (exact BLe.refl _) | (exact PLeL.nil) | (exact BLeL.nil) | (refine ⟨?_, ?_⟩) | (refine PLeL.cons ?_ ?_) | (refine BLeL.cons ?_ ?_) | (refine ple_int ?_) | (refine ple_bool ?_) | (refine ple_tt ?_) | (refine ple_ff ?_) | (refine PLe.aggL ?_) | (refine PLe.tupL ?_) | (refine BLe.cellsL ?_) | (refine next_rng (cn := cnt 6) rfl (fun _ => rfl) hlt_a hqa' (.mk ?_ ?_)) | (refine fun h => absurd h (by decide)) | (refine fun (h : @Eq Bool _ _) => ?_)
      all_goals first | trivial | rfl | omega | (exact e_a) | skip
  · have h_a : a = k := by
      have : ¬ ((a : Int) < v.wl) := of_decide_eq_false h1
      omega
    clear h1
    have hf : plB v k x = true := allN_t fun j hj => hqa j (by omega)
    repeat' first | (exact PLe.refl _) | (exact BLe.refl _) | (exact PLeL.nil) | (exact BLeL.nil) | (refine ⟨?_, ?_⟩) | (refine PLeL.cons ?_ ?_) | (refine BLeL.cons ?_ ?_) | (refine ple_int ?_) | (refine ple_bool ?_) | (refine ple_tt ?_) | (refine ple_ff ?_) | (refine PLe.aggL ?_) | (refine PLe.tupL ?_) | (refine BLe.cellsL ?_) | (refine fun h => absurd h (by decide)) | (refine fun (h : @Eq Bool _ _) => ?_)
    all_goals first | trivial | rfl | omega | (exact hf.symm) | (exact hf) | skip
end Go.Proofs.Ytnjhbmcambofgaa
