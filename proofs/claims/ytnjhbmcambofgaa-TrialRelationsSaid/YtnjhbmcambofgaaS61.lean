/- Layer 4: which of two lists comes first. -/
import Derived.Test.YtnjhbmcambofgaaS66
namespace Go.Proofs.Ytnjhbmcambofgaa
open Go.V
set_option linter.unusedSimpArgs false
set_option linter.unusedVariables false

def lexB : List Int → List Int → Bool
  | x :: s, y :: t => bif x != y then decide (x < y) else lexB s t
  | _, _ => false
def befB (a b : List Int) : Bool := bif (a.length : Int) != (b.length : Int) then decide ((a.length : Int) < (b.length : Int)) else lexB a b
theorem lexB_at : ∀ (a b : List Int) (i : Nat), a.length = b.length → i < a.length → (∀ j, j < i → a.getD j 0 = b.getD j 0) → (a.getD i 0 != b.getD i 0) = true → lexB a b = decide (a.getD i 0 < b.getD i 0)
  | [], _, i, _, hi, _, _ => absurd hi (Nat.not_lt_zero i)
  | x :: s, [], i, hl, _, _, _ => by cases hl
  | x :: s, y :: t, 0, _, _, _, hd => by
    have hd : (x != y) = true := hd
    show (bif x != y then decide (x < y) else lexB s t) = decide (x < y)
    rw [hd]; rfl
  | x :: s, y :: t, i + 1, hl, hi, he, hd => by
    have h0 : x = y := he 0 (by omega)
    subst h0
    show (bif x != x then decide (x < x) else lexB s t) = _
    rw [bne_self_eq_false]
    exact lexB_at s t i (by simpa using hl) (by simpa using hi) (fun j hj => he (j + 1) (by omega)) hd
theorem lexB_eq : ∀ (a b : List Int), a.length = b.length → (∀ j, j < a.length → a.getD j 0 = b.getD j 0) → lexB a b = false
  | [], _, _, _ => rfl
  | x :: s, [], hl, _ => by cases hl
  | x :: s, y :: t, hl, he => by
    have h0 : x = y := he 0 (by show 0 < s.length + 1; omega)
    subst h0
    show (bif x != x then decide (x < x) else lexB s t) = _
    rw [bne_self_eq_false]
    exact lexB_eq s t (by simpa using hl) fun j hj => he (j + 1) (by show j + 1 < s.length + 1; omega)
set_option maxRecDepth 20000 in
set_option maxHeartbeats 2000000 in
theorem d109 (a b : List Int) (ha : a.length ≤ 1000) (hb : b.length ≤ 1000) : SF Try.prog 109 (V.atS [.slice none (a).length fun j => intL ((a).getD j 0), .slice none (b).length fun j => intL ((b).getD j 0)] (.bool (befB a b))) := by
  refine sf_gen types_ok mixed (l := []) trivial (es := []) trivial (its := []) trivial (fr := []) trivial [] [] false [] [] 2 Try.func109 rfl (by kernel_rfl) fun args h => ?_
  have h : args = _ := h
  subst h
  refine ⟨rfl, ?_⟩
  show evalCode _ _ _ fun o => match o with
    | .normal st | .ret st => withP _ (_ ∧ PLe _ (.bool (befB a b)))
    | _ => False
  refine (Bool.eq_false_or_eq_true ((a.length : Int) != (b.length : Int))).elim (fun p1 => ?_) fun p1 => ?_
  · have hv : befB a b = decide ((a.length : Int) < (b.length : Int)) := by unfold befB; rw [p1]; rfl
    repeat' first | (refine fun h => absurd (h.symm.trans p1) (by decide)) | (exact PLe.refl _) | (exact BLe.refl _) | (exact PLeL.nil) | (exact BLeL.nil) | (refine ⟨?_, ?_⟩) | (refine PLeL.cons ?_ ?_) | (refine BLeL.cons ?_ ?_) | (refine ple_int ?_) | (refine ple_bool ?_) | (refine ple_tt ?_) | (refine ple_ff ?_) | (refine PLe.aggL ?_) | (refine PLe.tupL ?_) | (refine BLe.cellsL ?_) | (refine fun h => absurd h (by decide)) | (refine fun (h : @Eq Bool _ _) => ?_)
    all_goals first | trivial | rfl | omega | (exact hv.symm) | (exact hv) | skip
  · have hl : a.length = b.length := by
      have : (a.length : Int) = (b.length : Int) := by simpa using p1
      omega
    have hv : befB a b = lexB a b := by unfold befB; rw [p1]; rfl
    repeat' first | (refine fun h => absurd (h.symm.trans p1) (by decide)) | (exact PLe.refl _) | (exact BLe.refl _) | (exact PLeL.nil) | (exact BLeL.nil) | (refine ⟨?_, ?_⟩) | (refine PLeL.cons ?_ ?_) | (refine BLeL.cons ?_ ?_) | (refine ple_int ?_) | (refine ple_bool ?_) | (refine ple_tt ?_) | (refine ple_ff ?_) | (refine PLe.aggL ?_) | (refine PLe.tupL ?_) | (refine BLe.cellsL ?_) | (refine halt_rng (cnt 5) a.length [0, 1, 5] [] (fun i => [.slice none (a).length fun j => intL ((a).getD j 0), .slice none (b).length fun j => intL ((b).getD j 0), I (i : Nat)]) (fun i => []) (fun i => ∀ j, j < i → a.getD j 0 = b.getD j 0) rfl (.mk ?_ ?_) (fun j hj => absurd hj (Nat.not_lt_zero j)) ?_) | (refine fun h => absurd h (by decide)) | (refine fun (h : @Eq Bool _ _) => ?_)
    all_goals first | trivial | rfl | omega | skip
    intro i hi hq
    refine ⟨fun h1 => ?_, fun h1 => ?_⟩
    · have hlt_i : i < a.length := by
        have : (i : Int) < (a.length : Int) := of_decide_eq_true h1
        omega
      have e_i := succ_w hlt_i (by omega)
      clear h1
      refine (Bool.eq_false_or_eq_true (a.getD i 0 != b.getD i 0)).elim (fun q1 => ?_) fun q1 => ?_
      · have hw : befB a b = decide (a.getD i 0 < b.getD i 0) := hv.trans (lexB_at a b i hl hlt_i hq q1)
        repeat' first | (refine fun h => absurd (h.symm.trans q1) (by decide)) | (exact PLe.refl _) | (exact BLe.refl _) | (exact PLeL.nil) | (exact BLeL.nil) | (refine ⟨?_, ?_⟩) | (refine PLeL.cons ?_ ?_) | (refine BLeL.cons ?_ ?_) | (refine ple_int ?_) | (refine ple_bool ?_) | (refine ple_tt ?_) | (refine ple_ff ?_) | (refine PLe.aggL ?_) | (refine PLe.tupL ?_) | (refine BLe.cellsL ?_) | (refine fun h => absurd h (by decide)) | (refine fun (h : @Eq Bool _ _) => ?_)
        all_goals first | trivial | rfl | omega | (exact e_i) | (show (i : Int) < (a.length : Int); omega) | (show (i : Int) < (b.length : Int); omega) | (exact hw.symm) | (exact hw) | skip
      · have hq' : ∀ j, j < i + 1 → a.getD j 0 = b.getD j 0 := fun j hj => by
          rcases Nat.lt_succ_iff_lt_or_eq.1 hj with h1 | rfl
          · exact hq j h1
          · simpa using q1
        repeat' first | (refine fun h => absurd (h.symm.trans q1) (by decide)) | (exact PLe.refl _) | (exact BLe.refl _) | (exact PLeL.nil) | (exact BLeL.nil) | (refine ⟨?_, ?_⟩) | (refine PLeL.cons ?_ ?_) | (refine BLeL.cons ?_ ?_) | (refine ple_int ?_) | (refine ple_bool ?_) | (refine ple_tt ?_) | (refine ple_ff ?_) | (refine PLe.aggL ?_) | (refine PLe.tupL ?_) | (refine BLe.cellsL ?_) | (refine next_rng (cn := cnt 5) rfl (fun _ => rfl) hlt_i hq' (.mk ?_ ?_)) | (refine fun h => absurd h (by decide)) | (refine fun (h : @Eq Bool _ _) => ?_)
        all_goals first | trivial | rfl | omega | (exact e_i) | (show (i : Int) < (a.length : Int); omega) | (show (i : Int) < (b.length : Int); omega) | skip
    · have h_i : i = a.length := by
        have : ¬ ((i : Int) < (a.length : Int)) := of_decide_eq_false h1
        omega
      clear h1
      have hw : befB a b = false := hv.trans (lexB_eq a b hl fun j hj => hq j (by omega))
      repeat' first | (exact PLe.refl _) | (exact BLe.refl _) | (exact PLeL.nil) | (exact BLeL.nil) | (refine ⟨?_, ?_⟩) | (refine PLeL.cons ?_ ?_) | (refine BLeL.cons ?_ ?_) | (refine ple_int ?_) | (refine ple_bool ?_) | (refine ple_tt ?_) | (refine ple_ff ?_) | (refine PLe.aggL ?_) | (refine PLe.tupL ?_) | (refine BLe.cellsL ?_) | (refine fun h => absurd h (by decide)) | (refine fun (h : @Eq Bool _ _) => ?_)
      all_goals first | trivial | rfl | omega | (exact hw.symm) | (exact hw) | skip
end Go.Proofs.Ytnjhbmcambofgaa
