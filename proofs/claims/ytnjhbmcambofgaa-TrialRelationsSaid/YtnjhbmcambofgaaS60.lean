/- Layer 4: the wells of a set, by the document's words. -/
import Derived.Test.YtnjhbmcambofgaaS66
namespace Go.Proofs.Ytnjhbmcambofgaa
open Go.V
set_option linter.unusedSimpArgs false
set_option linter.unusedVariables false

def btN (x : Int) (i : Nat) : Bool := (IntKind.i64.wrap ((BitVec.ofInt IntKind.i64.bits (x.fdiv (2 ^ min (IntKind.u64.wrap (i : Int)).toNat IntKind.i64.bits)) &&& BitVec.ofInt IntKind.i64.bits 1).toNat : Int) == 1)
theorem u64_nn (n : Int) : 0 ≤ IntKind.u64.wrap n := by
  show 0 ≤ n % (2 ^ 64 : Int)
  omega
theorem olist_t {b : Nat → Bool} {i : Nat} (h : b i = true) : olist b (i + 1) = olist b i ++ [(i : Int)] := by
  show (bif b i then _ else _) = _
  rw [h]; rfl
theorem olist_f {b : Nat → Bool} {i : Nat} (h : b i = false) : olist b (i + 1) = olist b i := by
  show (bif b i then _ else _) = _
  rw [h]; rfl
theorem olist_len {b : Nat → Bool} {i : Nat} (h : b i = true) : (olist b (i + 1)).length = (olist b i).length + 1 := by
  rw [olist_t h, List.length_append]; rfl
theorem olist_grow {b : Nat → Bool} {i : Nat} (h : b i = true) {t : Option Nat} {f : Nat → List PV} (h1 : ∀ j, j < (olist b i).length → f j = intL ((olist b i).getD j 0)) (h2 : f (olist b i).length = intL (i : Int)) :
    PLe (.slice t ((olist b i).length + 1) f) (.slice t (olist b (i + 1)).length fun j => intL ((olist b (i + 1)).getD j 0)) := by
  rw [olist_t h]
  refine ple_slice (by rw [List.length_append]; rfl) fun j hj => ?_
  by_cases hl : j < (olist b i).length
  · rw [h1 j hl, List.getD, List.getD, List.getElem?_append_left hl]
  · obtain rfl : j = (olist b i).length := by omega
    rw [h2, List.getD, List.getElem?_append_right (Nat.le_refl _), Nat.sub_self]; rfl
theorem int_len8 {s : Nat → Int} {n : Nat} : ∀ i, i < n → ((fun i => intL (s i)) i).length = 1 := fun _ _ => rfl
set_option maxRecDepth 20000 in
set_option maxHeartbeats 2000000 in
theorem d108 (x : Int) : SF Try.prog 108 (V.atS [I x] (.slice none (olist (btN x) 10).length fun j => intL ((olist (btN x) 10).getD j 0))) := by
  refine sf_gen types_ok mixed (l := []) trivial (es := []) trivial (its := []) trivial (fr := []) trivial [] [] false [] [] 1 Try.func108 rfl (by kernel_rfl) fun args h => ?_
  have h : args = _ := h
  subst h
  refine ⟨rfl, ?_⟩
  show evalCode _ _ _ fun o => match o with
    | .normal st | .ret st => withP _ (_ ∧ PLe _ (.slice none (olist (btN x) 10).length fun j => intL ((olist (btN x) 10).getD j 0)))
    | _ => False
  repeat' first | (exact PLe.refl _) | (exact BLe.refl _) | (exact PLeL.nil) | (exact BLeL.nil) | (refine ⟨?_, ?_⟩) | (refine PLeL.cons ?_ ?_) | (refine BLeL.cons ?_ ?_) | (refine ple_int ?_) | (refine ple_bool ?_) | (refine ple_tt ?_) | (refine ple_ff ?_) | (refine PLe.aggL ?_) | (refine PLe.tupL ?_) | (refine BLe.cellsL ?_) | (refine halt_rng (cnt 4) 10 [0, 3, 4] [3] (fun i => [I x, .slice (some 3) (olist (btN x) i).length (fun j => intL ((olist (btN x) i).getD j 0)), I (i : Nat)]) (fun i => [.grow (olist (btN x) i).length 3 1]) (fun _ => True) rfl (.mk ?_ ?_) trivial ?_) | (refine fun h => absurd h (by decide)) | (refine fun (h : @Eq Bool _ _) => ?_)
  all_goals first | trivial | rfl | omega | (exact ple_slice rfl fun i hi => absurd hi (Nat.not_lt_zero i)) | skip
  intro i hi _
  refine ⟨fun h1 => ?_, fun h1 => ?_⟩
  · have hlt_i : i < 10 := by
      have : (i : Int) < 10 := of_decide_eq_true h1
      omega
    have e_i := succ_w hlt_i (by omega)
    clear h1
    have hln := (olist_rise (btN x) i).2
    refine (Bool.eq_false_or_eq_true (btN x i)).elim (fun hb => ?_) fun hb => ?_
    · have eg := olist_len hb
      repeat' first | (refine fun h => absurd (h.symm.trans hb) (by decide)) | (exact PLe.refl _) | (exact BLe.refl _) | (exact PLeL.nil) | (exact BLeL.nil) | (refine ⟨?_, ?_⟩) | (refine PLeL.cons ?_ ?_) | (refine BLeL.cons ?_ ?_) | (refine ple_int ?_) | (refine ple_bool ?_) | (refine ple_tt ?_) | (refine ple_ff ?_) | (refine PLe.aggL ?_) | (refine PLe.tupL ?_) | (refine BLe.cellsL ?_) | (refine next_rng (cn := cnt 4) rfl (fun _ => rfl) hlt_i trivial (.mk ?_ ?_)) | (refine fun h => absurd h (by decide)) | (refine fun (h : @Eq Bool _ _) => ?_)
      all_goals first | trivial | rfl | omega | (exact e_i) | (exact u64_nn _) | (show (olist (btN x) i).length + 1 < 2147483648; omega) | (show ((olist (btN x) i).length + 1) * 8 ≤ 140737488355328; omega) | (exact int_len8) | (intro y hy; obtain rfl : y = 0 := (by omega); exact ⟨rfl, rfl⟩) | (show PLe (.slice (some 3) ((olist (btN x) i).length + 1) _) _; refine olist_grow hb (fun j hj => ?_) ?_ <;> first | (rw [blt_t hj]; rfl) | (rw [blt_f (Nat.lt_irrefl _), Nat.sub_self]; rfl)) | (exact ble_grow (by rw [eg])) | skip
    · have es := olist_f hb
      repeat' first | (refine fun h => absurd (h.symm.trans hb) (by decide)) | (exact PLe.refl _) | (exact BLe.refl _) | (exact PLeL.nil) | (exact BLeL.nil) | (refine ⟨?_, ?_⟩) | (refine PLeL.cons ?_ ?_) | (refine BLeL.cons ?_ ?_) | (refine ple_int ?_) | (refine ple_bool ?_) | (refine ple_tt ?_) | (refine ple_ff ?_) | (refine PLe.aggL ?_) | (refine PLe.tupL ?_) | (refine BLe.cellsL ?_) | (refine next_rng (cn := cnt 4) rfl (fun _ => rfl) hlt_i trivial (.mk ?_ ?_)) | (refine fun h => absurd h (by decide)) | (refine fun (h : @Eq Bool _ _) => ?_)
      all_goals first | trivial | rfl | omega | (exact e_i) | (exact u64_nn _) | (show (olist (btN x) i).length + 1 < 2147483648; omega) | (show ((olist (btN x) i).length + 1) * 8 ≤ 140737488355328; omega) | (exact int_len8) | (intro y hy; obtain rfl : y = 0 := (by omega); exact ⟨rfl, rfl⟩) | (exact ple_slice (by rw [es]) fun j hj => by rw [es]) | (exact ble_grow (by rw [es])) | skip
  · have h_i : i = 10 := by
      have : ¬ ((i : Int) < 10) := of_decide_eq_false h1
      omega
    clear h1
    subst h_i
    repeat' first | (exact PLe.refl _) | (exact BLe.refl _) | (exact PLeL.nil) | (exact BLeL.nil) | (refine ⟨?_, ?_⟩) | (refine PLeL.cons ?_ ?_) | (refine BLeL.cons ?_ ?_) | (refine ple_int ?_) | (refine ple_bool ?_) | (refine ple_tt ?_) | (refine ple_ff ?_) | (refine PLe.aggL ?_) | (refine PLe.tupL ?_) | (refine BLe.cellsL ?_) | (refine fun h => absurd h (by decide)) | (refine fun (h : @Eq Bool _ _) => ?_)
    all_goals first | trivial | rfl | omega | skip
end Go.Proofs.Ytnjhbmcambofgaa
