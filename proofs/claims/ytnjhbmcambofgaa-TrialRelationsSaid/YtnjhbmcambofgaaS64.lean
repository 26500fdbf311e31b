/- Layer 4: the least plan, by the document's words. -/
import Derived.Test.YtnjhbmcambofgaaS63
namespace Go.Proofs.Ytnjhbmcambofgaa
open Go.V
set_option linter.unusedSimpArgs false
set_option linter.unusedVariables false

def memS : V.Spec
  | [.int .i64 x] => (none, .slice none (memL x).length fun j => intL ((memL x).getD j 0))
  | _ => bad
theorem sf108 : SF Try.prog 108 memS := by
  refine sf_each ⟨_, _, Try.func108, by kernel_rfl, rfl⟩ fun args h => ?_
  unfold memS at h ⊢
  split at h
  · rename_i x
    exact d108 x
  · exact h.elim
def lst (n : Nat) (g : Nat → List PV) : List Int := (List.range n).map fun i => intOf (g i)
theorem lst_len (n : Nat) (g : Nat → List PV) : (lst n g).length = n := by unfold lst; rw [List.length_map, List.length_range]
theorem lst_at {n : Nat} {g : Nat → List PV} {i : Nat} (h : i < n) : (lst n g).getD i 0 = intOf (g i) := by
  unfold lst
  rw [List.getD, List.getElem?_map, List.getElem?_range h]; rfl
theorem lst_of (l : List Int) : lst l.length (fun j => intL (l.getD j 0)) = l := by
  refine List.ext_getElem (lst_len _ _) fun i h1 h2 => ?_
  have := lst_at (g := fun j => intL (l.getD j 0)) h2
  rw [List.getD, List.getElem?_eq_getElem h1] at this
  have e : l.getD i 0 = l[i] := by rw [List.getD, List.getElem?_eq_getElem h2]; rfl
  exact this.trans e
def befS : V.Spec
  | [.slice none n g, .slice none m h] => (some (n ≤ 1000 ∧ m ≤ 1000 ∧ (∀ i, i < n → g i = intL (intOf (g i))) ∧ ∀ i, i < m → h i = intL (intOf (h i))), .bool (befB (lst n g) (lst m h)))
  | _ => bad
theorem sf109 : SF Try.prog 109 befS := by
  refine sf_each ⟨_, _, Try.func109, by kernel_rfl, rfl⟩ fun args h => ?_
  unfold befS at h ⊢
  split at h
  · rename_i n g m h0
    obtain ⟨h1, h2, h3, h4⟩ : n ≤ 1000 ∧ m ≤ 1000 ∧ (∀ i, i < n → g i = intL (intOf (g i))) ∧ ∀ i, i < m → h0 i = intL (intOf (h0 i)) := h
    refine sf_args (d109 (lst n g) (lst m h0) (by rw [lst_len]; exact h1) (by rw [lst_len]; exact h2)) fun args hx => ?_
    obtain rfl := (show args = [.slice none n g, .slice none m h0] from hx)
    refine ⟨[.slice none (lst n g).length fun j => intL ((lst n g).getD j 0), .slice none (lst m h0).length fun j => intL ((lst m h0).getD j 0)], rfl, fun i hi => ?_, rfl, rfl⟩
    match i, hi with
    | 0, _ => exact ple_slice (lst_len n g).symm fun i hi => by rw [lst_at hi]; exact h3 i hi
    | 1, _ => exact ple_slice (lst_len m h0).symm fun i hi => by rw [lst_at hi]; exact h4 i hi
  · exact h.elim
def plS (v : Svy) (k : Nat) : V.Spec
  | [.agg y, .int .i64 x] => (some (svyC v = y), .bool (plB v k x))
  | _ => bad
theorem sf110 {v : Svy} (hok : okV v) {k : Nat} (hk : (k : Int) = v.wl) : SF Try.prog 110 (plS v k) := by
  refine sf_each ⟨_, _, Try.func110, by kernel_rfl, rfl⟩ fun args h => ?_
  unfold plS at h ⊢
  split at h
  · rename_i y x
    obtain rfl : svyC v = y := h
    exact d110 v hok k hk x
  · exact h.elim
theorem bestL_len (v : Svy) (k : Nat) (x : Int) : ∀ n, (bestL v k (memL x) n).length ≤ 10
  | 0 => (olist_rise _ 10).2
  | n + 1 => by
    show (bif befB (memL (n : Int)) (bestL v k (memL x) n) && plB v k (n : Int) then memL (n : Int) else bestL v k (memL x) n).length ≤ 10
    cases (befB (memL (n : Int)) (bestL v k (memL x) n) && plB v k (n : Int)) with
    | true => exact (olist_rise _ 10).2
    | false => exact bestL_len v k x n
theorem two_pow {v : Svy} (hok : okV v) {k : Nat} (hk : (k : Int) = v.wl) : IntKind.i64.wrap (1 * 2 ^ min (IntKind.u64.wrap v.wl).toNat IntKind.i64.bits) = ((2 ^ k : Nat) : Int) := by
  have hw := hok.wl
  rw [← hk]
  have e1 : IntKind.u64.wrap (k : Int) = (k : Int) := by
    show (k : Int) % (2 ^ 64 : Int) = k
    omega
  have e2 : min (k : Int).toNat IntKind.i64.bits = k := by
    show min (k : Int).toNat 64 = k
    omega
  rw [e1, e2, Int.one_mul, show (2 : Int) ^ k = ((2 ^ k : Nat) : Int) by rw [Int.natCast_pow]; rfl]
  have hpow : 2 ^ k ≤ 1024 := (Nat.pow_le_pow_right (by omega) (by omega) : 2 ^ k ≤ 2 ^ 10)
  generalize 2 ^ k = y at hpow
  exact wj (by omega)
set_option maxRecDepth 20000 in
set_option maxHeartbeats 2000000 in
theorem rplan_at (v : Svy) (hok : okV v) (k : Nat) (hk : (k : Int) = v.wl) : SF Try.prog 52 (V.atS [.agg (svyC v)] (.slice none ((bestL v k (memL (IntKind.i64.wrap (IntKind.i64.wrap (1 * 2 ^ min (IntKind.u64.wrap v.wl).toNat IntKind.i64.bits) - 1))) (2 ^ k))).length fun j => intL (((bestL v k (memL (IntKind.i64.wrap (IntKind.i64.wrap (1 * 2 ^ min (IntKind.u64.wrap v.wl).toNat IntKind.i64.bits) - 1))) (2 ^ k))).getD j 0))) := by
  have hw := hok.wl
  have hn := hok.n
  have hE : IntKind.i64.wrap (1 * 2 ^ min (IntKind.u64.wrap v.wl).toNat IntKind.i64.bits) = ((2 ^ k : Nat) : Int) := two_pow hok hk
  have hpow : 2 ^ k ≤ 1024 := (Nat.pow_le_pow_right (by omega) (by omega) : 2 ^ k ≤ 2 ^ 10)
  refine sf_gen types_ok mixed (l := [(108, memS), (109, befS), (110, plS v k)]) ⟨sf108, sf109, sf110 hok hk, trivial⟩ (es := []) trivial (its := []) trivial (fr := []) trivial [] [] false [] [] 1 Try.func52 rfl (by kernel_rfl) fun args h => ?_
  have h : args = _ := h
  subst h
  refine ⟨rfl, ?_⟩
  show evalCode _ _ _ fun o => match o with
    | .normal st | .ret st => withP _ (_ ∧ PLe _ (.slice none ((bestL v k (memL (IntKind.i64.wrap (IntKind.i64.wrap (1 * 2 ^ min (IntKind.u64.wrap v.wl).toNat IntKind.i64.bits) - 1))) (2 ^ k))).length fun j => intL (((bestL v k (memL (IntKind.i64.wrap (IntKind.i64.wrap (1 * 2 ^ min (IntKind.u64.wrap v.wl).toNat IntKind.i64.bits) - 1))) (2 ^ k))).getD j 0)))
    | _ => False
  repeat' first
    | exact PLe.refl _
    | exact BLe.refl _
    | exact PLeL.nil
    | exact BLeL.nil
    | refine ⟨?_, ?_⟩
    | refine PLeL.cons ?_ ?_
    | refine BLeL.cons ?_ ?_
    | refine ple_int ?_
    | refine ple_bool ?_
    | refine ple_tt ?_
    | refine ple_ff ?_
    | refine PLe.aggL ?_
    | refine PLe.tupL ?_
    | refine BLe.cellsL ?_
    | refine halt_rng (cnt 4) (2 ^ k) [1, 3, 4] [1] (fun n => [.ptr 1 0, .slice none ((bestL v k (memL (IntKind.i64.wrap (IntKind.i64.wrap (1 * 2 ^ min (IntKind.u64.wrap v.wl).toNat IntKind.i64.bits) - 1))) n)).length fun j => intL (((bestL v k (memL (IntKind.i64.wrap (IntKind.i64.wrap (1 * 2 ^ min (IntKind.u64.wrap v.wl).toNat IntKind.i64.bits) - 1))) n)).getD j 0), I (n : Nat)]) (fun n => [.cells (svyC v)]) (fun _ => True) rfl (.mk ?_ ?_) trivial ?_
    | refine fun h => absurd h (by decide)
    | refine fun (h : @Eq Bool _ _) => ?_
  all_goals first
    | trivial
    | rfl
    | omega
    | exact u64_nn _
    | skip
  intro n hn9 _
  have hl1 := (olist_rise (btN (n : Int)) 10).2
  have hl1 : (memL (n : Int)).length ≤ 10 := hl1
  have hl2 := bestL_len v k (IntKind.i64.wrap (IntKind.i64.wrap (1 * 2 ^ min (IntKind.u64.wrap v.wl).toNat IntKind.i64.bits) - 1)) n
  have hlS : ∀ l : List Int, ∀ i, i < l.length → (fun j => intL (l.getD j 0)) i = intL (intOf ((fun j => intL (l.getD j 0)) i)) := fun l i _ => rfl
  refine ⟨u64_nn _, fun h1 => ?_, fun h1 => ?_⟩
  · have hlt_n : n < 2 ^ k := by
      have := of_decide_eq_true h1
      rw [hE] at this
      omega
    have e_n := succ_w hlt_n (by omega)
    clear h1
    refine (Bool.eq_false_or_eq_true (befB (memL (n : Int)) (bestL v k (memL (IntKind.i64.wrap (IntKind.i64.wrap (1 * 2 ^ min (IntKind.u64.wrap v.wl).toNat IntKind.i64.bits) - 1))) n))).elim (fun q1 => ?_) fun q1 => ?_
    · have q1' := (congrArg (befB · _) (lst_of (memL (n : Int)))).trans ((congrArg (befB _ ·) (lst_of (bestL v k (memL (IntKind.i64.wrap (IntKind.i64.wrap (1 * 2 ^ min (IntKind.u64.wrap v.wl).toNat IntKind.i64.bits) - 1))) n))).trans q1)
      refine (Bool.eq_false_or_eq_true (plB v k (n : Int))).elim (fun q2 => ?_) fun q2 => ?_
      · have eb : bestL v k (memL (IntKind.i64.wrap (IntKind.i64.wrap (1 * 2 ^ min (IntKind.u64.wrap v.wl).toNat IntKind.i64.bits) - 1))) (n + 1) = memL (n : Int) := by show (bif _ && _ then _ else _) = _; rw [q1, q2]; rfl
        repeat' first
          | refine fun h => absurd (h.symm.trans q1') (by decide)
          | refine fun h => absurd (h.symm.trans q2) (by decide)
          | exact PLe.refl _
          | exact BLe.refl _
          | exact PLeL.nil
          | exact BLeL.nil
          | refine ⟨?_, ?_⟩
          | refine PLeL.cons ?_ ?_
          | refine BLeL.cons ?_ ?_
          | refine ple_int ?_
          | refine ple_bool ?_
          | refine ple_tt ?_
          | refine ple_ff ?_
          | refine PLe.aggL ?_
          | refine PLe.tupL ?_
          | refine BLe.cellsL ?_
          | refine next_rng (cn := cnt 4) rfl (fun _ => rfl) hlt_n trivial (.mk ?_ ?_)
          | refine fun h => absurd h (by decide)
          | refine fun (h : @Eq Bool _ _) => ?_
        all_goals first
          | trivial
          | rfl
          | omega
          | exact u64_nn _
          | exact e_n
          | (show (memL (n : Int)).length ≤ 1000; omega)
          | (show ((bestL v k (memL (IntKind.i64.wrap (IntKind.i64.wrap (1 * 2 ^ min (IntKind.u64.wrap v.wl).toNat IntKind.i64.bits) - 1))) n)).length ≤ 1000; omega)
          | (intro i hi; rfl)
          | exact ple_slice (by rw [eb]) fun j hj => by rw [eb]
          | skip
      · have eb : bestL v k (memL (IntKind.i64.wrap (IntKind.i64.wrap (1 * 2 ^ min (IntKind.u64.wrap v.wl).toNat IntKind.i64.bits) - 1))) (n + 1) = (bestL v k (memL (IntKind.i64.wrap (IntKind.i64.wrap (1 * 2 ^ min (IntKind.u64.wrap v.wl).toNat IntKind.i64.bits) - 1))) n) := by show (bif _ && _ then _ else _) = _; rw [q1, q2]; rfl
        repeat' first
          | refine fun h => absurd (h.symm.trans q1') (by decide)
          | refine fun h => absurd (h.symm.trans q2) (by decide)
          | exact PLe.refl _
          | exact BLe.refl _
          | exact PLeL.nil
          | exact BLeL.nil
          | refine ⟨?_, ?_⟩
          | refine PLeL.cons ?_ ?_
          | refine BLeL.cons ?_ ?_
          | refine ple_int ?_
          | refine ple_bool ?_
          | refine ple_tt ?_
          | refine ple_ff ?_
          | refine PLe.aggL ?_
          | refine PLe.tupL ?_
          | refine BLe.cellsL ?_
          | refine next_rng (cn := cnt 4) rfl (fun _ => rfl) hlt_n trivial (.mk ?_ ?_)
          | refine fun h => absurd h (by decide)
          | refine fun (h : @Eq Bool _ _) => ?_
        all_goals first
          | trivial
          | rfl
          | omega
          | exact u64_nn _
          | exact e_n
          | (show (memL (n : Int)).length ≤ 1000; omega)
          | (show ((bestL v k (memL (IntKind.i64.wrap (IntKind.i64.wrap (1 * 2 ^ min (IntKind.u64.wrap v.wl).toNat IntKind.i64.bits) - 1))) n)).length ≤ 1000; omega)
          | (intro i hi; rfl)
          | exact ple_slice (by rw [eb]) fun j hj => by rw [eb]
          | skip
    · have q1' := (congrArg (befB · _) (lst_of (memL (n : Int)))).trans ((congrArg (befB _ ·) (lst_of (bestL v k (memL (IntKind.i64.wrap (IntKind.i64.wrap (1 * 2 ^ min (IntKind.u64.wrap v.wl).toNat IntKind.i64.bits) - 1))) n))).trans q1)
      have eb : bestL v k (memL (IntKind.i64.wrap (IntKind.i64.wrap (1 * 2 ^ min (IntKind.u64.wrap v.wl).toNat IntKind.i64.bits) - 1))) (n + 1) = (bestL v k (memL (IntKind.i64.wrap (IntKind.i64.wrap (1 * 2 ^ min (IntKind.u64.wrap v.wl).toNat IntKind.i64.bits) - 1))) n) := by show (bif _ && _ then _ else _) = _; rw [q1]; rfl
      repeat' first
        | refine fun h => absurd (h.symm.trans q1') (by decide)
        | exact PLe.refl _
        | exact BLe.refl _
        | exact PLeL.nil
        | exact BLeL.nil
        | refine ⟨?_, ?_⟩
        | refine PLeL.cons ?_ ?_
        | refine BLeL.cons ?_ ?_
        | refine ple_int ?_
        | refine ple_bool ?_
        | refine ple_tt ?_
        | refine ple_ff ?_
        | refine PLe.aggL ?_
        | refine PLe.tupL ?_
        | refine BLe.cellsL ?_
        | refine next_rng (cn := cnt 4) rfl (fun _ => rfl) hlt_n trivial (.mk ?_ ?_)
        | refine fun h => absurd h (by decide)
        | refine fun (h : @Eq Bool _ _) => ?_
      all_goals first
        | trivial
        | rfl
        | omega
        | exact u64_nn _
        | exact e_n
        | (show (memL (n : Int)).length ≤ 1000; omega)
        | (show ((bestL v k (memL (IntKind.i64.wrap (IntKind.i64.wrap (1 * 2 ^ min (IntKind.u64.wrap v.wl).toNat IntKind.i64.bits) - 1))) n)).length ≤ 1000; omega)
        | (intro i hi; rfl)
        | exact ple_slice (by rw [eb]) fun j hj => by rw [eb]
        | skip
  · have h_n : n = 2 ^ k := by
      have := of_decide_eq_false h1
      rw [hE] at this
      omega
    clear h1
    subst h_n
    repeat' first
      | exact PLe.refl _
      | exact BLe.refl _
      | exact PLeL.nil
      | exact BLeL.nil
      | refine ⟨?_, ?_⟩
      | refine PLeL.cons ?_ ?_
      | refine BLeL.cons ?_ ?_
      | refine ple_int ?_
      | refine ple_bool ?_
      | refine ple_tt ?_
      | refine ple_ff ?_
      | refine PLe.aggL ?_
      | refine PLe.tupL ?_
      | refine BLe.cellsL ?_
      | refine fun h => absurd h (by decide)
      | refine fun (h : @Eq Bool _ _) => ?_
    all_goals first
      | trivial
      | rfl
      | omega
      | skip
theorem d52 (v : Svy) (hok : okV v) (k : Nat) (hk : (k : Int) = v.wl) (hc : clashB v = false) : SF Try.prog 52 (V.atS [.agg (svyC v)] (.slice none (toL (planR v)).length fun j => intL ((toL (planR v)).getD j 0))) := by
  have hw := hok.wl
  have := rplan_at v hok k hk
  rw [two_pow hok hk] at this
  have hpow : 2 ^ k ≤ 1024 := (Nat.pow_le_pow_right (by omega) (by omega) : 2 ^ k ≤ 2 ^ 10)
  have hpos : 0 < 2 ^ k := Nat.two_pow_pos k
  rw [show IntKind.i64.wrap (((2 ^ k : Nat) : Int) - 1) = ((2 ^ k - 1 : Nat) : Int) from (wj (by omega)).trans (by omega), best_plan hok hk hc] at this
  exact this
end Go.Proofs.Ytnjhbmcambofgaa
