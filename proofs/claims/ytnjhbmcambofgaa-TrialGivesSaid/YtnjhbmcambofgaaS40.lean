/- Layer 4: Capacity of the program. -/
import Derived.Test.YtnjhbmcambofgaaS35
import Derived.Test.YtnjhbmcambofgaaS21
import Derived.Test.YtnjhbmcambofgaaW4
namespace Go.Proofs.Ytnjhbmcambofgaa
open Go.V
set_option linter.unusedSimpArgs false
set_option linter.unusedVariables false

theorem half_eq {i j : Int} (hi : 0 ≤ i) (hj : 0 ≤ j) (hi2 : i ≤ 5000) (hj2 : j ≤ 5000) : IntKind.i64.wrap ((IntKind.u64.wrap (IntKind.i64.wrap (i + j))).fdiv (2 ^ min (1 : Int).toNat IntKind.u64.bits)) = (i + j) / 2 := by
  have e0 : (2 : Int) ^ min (1 : Int).toNat IntKind.u64.bits = 2 := by decide
  rw [e0, show IntKind.i64.wrap (i + j) = i + j from wi (by omega)]
  have e1 : IntKind.u64.wrap (i + j) = i + j := by
    show (i + j) % (2 ^ 64 : Int) = i + j
    omega
  rw [e1, Int.fdiv_eq_ediv_of_nonneg _ (by omega)]
  exact wi (by omega)
def intS1 : PV → Int
  | .int _ n => n
  | _ => 0
def gapC (a b : Nat) (st : St) : Nat := (intS1 (st.slots b) - intS1 (st.slots a)).toNat
def cap85S : V.Spec
  | [.int .i64 q, .cptr [.slice none n get], .cptr [.int .i64 lim]] => (some (isL famL n get ∧ 0 < n), .bool (decide (lim < (encM (dropF q) (fun i => famOf (get i)) n).hi)))
  | _ => bad
set_option maxRecDepth 20000 in
set_option maxHeartbeats 1000000 in
theorem sf85 : SF Try.prog 85 cap85S := by
  refine sf_of types_ok mixed (l := [(81, drawsS)]) ⟨sf81, trivial⟩ (es := []) trivial 3 Try.func85 rfl (by kernel_rfl) fun args h => ?_
  unfold cap85S at h
  split at h
  · rename_i q n get lim
    have hc : isL famL n get ∧ 0 < n := h
    clear h
    refine ⟨rfl, ?_⟩
    show evalCode _ _ _ fun o => match o with
      | .normal st | .ret st => withP _ (_ ∧ PLe _ (.bool (decide (lim < (encM (dropF q) (fun i => famOf (get i)) n).hi))))
      | _ => False
    repeat' first
      | exact PLe.refl _
      | exact BLe.refl _
      | exact PLeL.nil
      | exact BLeL.nil
      | refine ⟨?_, ?_⟩
      | refine PLeL.cons ?_ ?_
      | refine BLeL.cons ?_ ?_
      | refine ple_int ?_
      | refine ple_bool ?_
      | refine ple_tt ?_
      | refine ple_ff ?_
      | refine PLe.aggL ?_
      | refine PLe.tupL ?_
      | refine BLe.cellsL ?_
      | refine fun h => absurd h (by decide)
      | refine fun (h : @Eq Bool _ _) => ?_
    all_goals first
      | trivial
      | rfl
      | omega
      | exact hc
      | exact hc.1
      | exact hc.2
      | skip
  · exact h.elim
set_option maxRecDepth 20000 in
set_option maxHeartbeats 2000000 in
theorem search85 (n : Nat) (get : Nat → List PV) (lim : Int) (hL : isL famL n get) (hn : 0 < n) (N r : Int) (hN : 0 ≤ N ∧ N ≤ 2000) (hr : 0 ≤ r ∧ r ≤ N) (hP : ∀ x : Int, 0 ≤ x → x < N → decide (lim < (encM (dropF x) (fun i => famOf (get i)) n).hi) = decide (r ≤ x)) : SF Try.prog 84 (V.atS [I N, .fn (.func 85) [] [.cptr [.slice none n get], .cptr [I lim]]] (I r)) := by
  refine sf_of types_ok mixed (l := [(85, cap85S)]) ⟨sf85, trivial⟩ (es := []) trivial 2 Try.func84 rfl (by kernel_rfl) fun args h => ?_
  have h : args = _ := h
  subst h
  refine ⟨rfl, ?_⟩
  show evalCode _ _ _ fun o => match o with
    | .normal st | .ret st => withP _ (_ ∧ PLe _ (I r))
    | _ => False
  repeat' first
    | exact PLe.refl _
    | exact BLe.refl _
    | exact PLeL.nil
    | exact BLeL.nil
    | refine ⟨?_, ?_⟩
    | refine PLeL.cons ?_ ?_
    | refine BLeL.cons ?_ ?_
    | refine ple_int ?_
    | refine ple_bool ?_
    | refine ple_tt ?_
    | refine ple_ff ?_
    | refine PLe.aggL ?_
    | refine PLe.tupL ?_
    | refine BLe.cellsL ?_
    | refine halt_mu (α := Int × Int) (gapC 5 6) [1, 5, 6] [] (fun x => [.fn (.func 85) [] [.cptr [.slice none n get], .cptr [I lim]], I x.1, I x.2]) (fun x => []) (fun x => 0 ≤ x.1 ∧ x.1 ≤ r ∧ r ≤ x.2 ∧ x.2 ≤ N) (0, N) rfl (.mk ?_ ?_) ?_ ?_
    | refine fun h => absurd h (by decide)
    | refine fun (h : @Eq Bool _ _) => ?_
  all_goals first
    | trivial
    | rfl
    | omega
    | exact ⟨Int.le_refl _, hr.1, hr.2, Int.le_refl _⟩
    | exact hr.1
    | exact hr.2
    | exact Int.le_refl _
    | skip
  intro x hx
  obtain ⟨h1, h2, h3, h4⟩ := hx
  refine ⟨fun g => ?_, fun g => ?_⟩
  · have g : x.1 < x.2 := of_decide_eq_true g
    have eh := half_eq (i := x.1) (j := x.2) (by omega) (by omega) (by omega) (by omega)
    have hq := hP ((x.1 + x.2) / 2) (by omega) (by omega)
    have ep : w ((x.1 + x.2) / 2 + 1) = (x.1 + x.2) / 2 + 1 := wi (by omega)
    have hq2 : (!decide (lim < (encM (dropF (IntKind.i64.wrap ((IntKind.u64.wrap (IntKind.i64.wrap (x.1 + x.2))).fdiv (2 ^ min (1 : Int).toNat IntKind.u64.bits)))) (fun i => famOf (get i)) n).hi)) = !decide (r ≤ (x.1 + x.2) / 2) := by rw [eh, hq]
    by_cases hc : r ≤ (x.1 + x.2) / 2
    · rw [decide_eq_true hc] at hq2
      repeat' first
        | refine fun h => absurd (h.symm.trans hq2) (by decide)
        | exact PLe.refl _
        | exact BLe.refl _
        | exact PLeL.nil
        | exact BLeL.nil
        | refine ⟨?_, ?_⟩
        | refine PLeL.cons ?_ ?_
        | refine BLeL.cons ?_ ?_
        | refine ple_int ?_
        | refine ple_bool ?_
        | refine ple_tt ?_
        | refine ple_ff ?_
        | refine PLe.aggL ?_
        | refine PLe.tupL ?_
        | refine BLe.cellsL ?_
        | refine next_mu (x.1, (x.1 + x.2) / 2) rfl ?_ ?_ (.mk ?_ ?_)
        | refine fun h => absurd h (by decide)
        | refine fun (h : @Eq Bool _ _) => ?_
      all_goals first
        | trivial
        | rfl
        | omega
        | exact eh
        | exact hL
        | exact hn
        | exact ⟨hL, hn⟩
        | exact ⟨h1, h2, hc, by omega⟩
        | exact h1
        | exact h2
        | exact hc
        | (show (x.1 + x.2) / 2 ≤ N; omega)
        | (show ((x.1 + x.2) / 2 - x.1).toNat < (x.2 - x.1).toNat; omega)
        | skip
    · rw [decide_eq_false hc] at hq2
      repeat' first
        | refine fun h => absurd (h.symm.trans hq2) (by decide)
        | exact PLe.refl _
        | exact BLe.refl _
        | exact PLeL.nil
        | exact BLeL.nil
        | refine ⟨?_, ?_⟩
        | refine PLeL.cons ?_ ?_
        | refine BLeL.cons ?_ ?_
        | refine ple_int ?_
        | refine ple_bool ?_
        | refine ple_tt ?_
        | refine ple_ff ?_
        | refine PLe.aggL ?_
        | refine PLe.tupL ?_
        | refine BLe.cellsL ?_
        | refine next_mu ((x.1 + x.2) / 2 + 1, x.2) rfl ?_ ?_ (.mk ?_ ?_)
        | refine fun h => absurd h (by decide)
        | refine fun (h : @Eq Bool _ _) => ?_
      all_goals first
        | trivial
        | rfl
        | omega
        | exact (congrArg (fun z => IntKind.i64.wrap (z + 1)) eh).trans ep
        | exact hL
        | exact hn
        | exact ⟨hL, hn⟩
        | exact ⟨by omega, by omega, h3, h4⟩
        | exact h3
        | exact h4
        | (show (0 : Int) ≤ (x.1 + x.2) / 2 + 1; omega)
        | (show (x.1 + x.2) / 2 + 1 ≤ r; omega)
        | (show (x.2 - ((x.1 + x.2) / 2 + 1)).toNat < (x.2 - x.1).toNat; omega)
        | skip
  · have g : ¬ x.1 < x.2 := of_decide_eq_false g
    have er : x.1 = r := by omega
    subst er
    repeat' first
      | exact PLe.refl _
      | exact BLe.refl _
      | exact PLeL.nil
      | exact BLeL.nil
      | refine ⟨?_, ?_⟩
      | refine PLeL.cons ?_ ?_
      | refine BLeL.cons ?_ ?_
      | refine ple_int ?_
      | refine ple_bool ?_
      | refine ple_tt ?_
      | refine ple_ff ?_
      | refine PLe.aggL ?_
      | refine PLe.tupL ?_
      | refine BLe.cellsL ?_
      | refine fun h => absurd h (by decide)
      | refine fun (h : @Eq Bool _ _) => ?_
    all_goals first
      | trivial
      | rfl
      | omega
      | skip
def cap86S : V.Spec
  | [.int .i64 q, .cptr [.slice none n get], .cptr [.int .i64 lim]] => (some (isL famL n get ∧ 0 < n), .bool (decide (lim < (encM (dropF q) (fun i => famOf (get i)) n).lo)))
  | _ => bad
set_option maxRecDepth 20000 in
set_option maxHeartbeats 1000000 in
theorem sf86 : SF Try.prog 86 cap86S := by
  refine sf_of types_ok mixed (l := [(81, drawsS)]) ⟨sf81, trivial⟩ (es := []) trivial 3 Try.func86 rfl (by kernel_rfl) fun args h => ?_
  unfold cap86S at h
  split at h
  · rename_i q n get lim
    have hc : isL famL n get ∧ 0 < n := h
    clear h
    refine ⟨rfl, ?_⟩
    show evalCode _ _ _ fun o => match o with
      | .normal st | .ret st => withP _ (_ ∧ PLe _ (.bool (decide (lim < (encM (dropF q) (fun i => famOf (get i)) n).lo))))
      | _ => False
    repeat' first
      | exact PLe.refl _
      | exact BLe.refl _
      | exact PLeL.nil
      | exact BLeL.nil
      | refine ⟨?_, ?_⟩
      | refine PLeL.cons ?_ ?_
      | refine BLeL.cons ?_ ?_
      | refine ple_int ?_
      | refine ple_bool ?_
      | refine ple_tt ?_
      | refine ple_ff ?_
      | refine PLe.aggL ?_
      | refine PLe.tupL ?_
      | refine BLe.cellsL ?_
      | refine fun h => absurd h (by decide)
      | refine fun (h : @Eq Bool _ _) => ?_
    all_goals first
      | trivial
      | rfl
      | omega
      | exact hc
      | exact hc.1
      | exact hc.2
      | skip
  · exact h.elim
set_option maxRecDepth 20000 in
set_option maxHeartbeats 2000000 in
theorem search86 (n : Nat) (get : Nat → List PV) (lim : Int) (hL : isL famL n get) (hn : 0 < n) (N r : Int) (hN : 0 ≤ N ∧ N ≤ 2000) (hr : 0 ≤ r ∧ r ≤ N) (hP : ∀ x : Int, 0 ≤ x → x < N → decide (lim < (encM (dropF x) (fun i => famOf (get i)) n).lo) = decide (r ≤ x)) : SF Try.prog 84 (V.atS [I N, .fn (.func 86) [] [.cptr [.slice none n get], .cptr [I lim]]] (I r)) := by
  refine sf_of types_ok mixed (l := [(86, cap86S)]) ⟨sf86, trivial⟩ (es := []) trivial 2 Try.func84 rfl (by kernel_rfl) fun args h => ?_
  have h : args = _ := h
  subst h
  refine ⟨rfl, ?_⟩
  show evalCode _ _ _ fun o => match o with
    | .normal st | .ret st => withP _ (_ ∧ PLe _ (I r))
    | _ => False
  repeat' first
    | exact PLe.refl _
    | exact BLe.refl _
    | exact PLeL.nil
    | exact BLeL.nil
    | refine ⟨?_, ?_⟩
    | refine PLeL.cons ?_ ?_
    | refine BLeL.cons ?_ ?_
    | refine ple_int ?_
    | refine ple_bool ?_
    | refine ple_tt ?_
    | refine ple_ff ?_
    | refine PLe.aggL ?_
    | refine PLe.tupL ?_
    | refine BLe.cellsL ?_
    | refine halt_mu (α := Int × Int) (gapC 5 6) [1, 5, 6] [] (fun x => [.fn (.func 86) [] [.cptr [.slice none n get], .cptr [I lim]], I x.1, I x.2]) (fun x => []) (fun x => 0 ≤ x.1 ∧ x.1 ≤ r ∧ r ≤ x.2 ∧ x.2 ≤ N) (0, N) rfl (.mk ?_ ?_) ?_ ?_
    | refine fun h => absurd h (by decide)
    | refine fun (h : @Eq Bool _ _) => ?_
  all_goals first
    | trivial
    | rfl
    | omega
    | exact ⟨Int.le_refl _, hr.1, hr.2, Int.le_refl _⟩
    | exact hr.1
    | exact hr.2
    | exact Int.le_refl _
    | skip
  intro x hx
  obtain ⟨h1, h2, h3, h4⟩ := hx
  refine ⟨fun g => ?_, fun g => ?_⟩
  · have g : x.1 < x.2 := of_decide_eq_true g
    have eh := half_eq (i := x.1) (j := x.2) (by omega) (by omega) (by omega) (by omega)
    have hq := hP ((x.1 + x.2) / 2) (by omega) (by omega)
    have ep : w ((x.1 + x.2) / 2 + 1) = (x.1 + x.2) / 2 + 1 := wi (by omega)
    have hq2 : (!decide (lim < (encM (dropF (IntKind.i64.wrap ((IntKind.u64.wrap (IntKind.i64.wrap (x.1 + x.2))).fdiv (2 ^ min (1 : Int).toNat IntKind.u64.bits)))) (fun i => famOf (get i)) n).lo)) = !decide (r ≤ (x.1 + x.2) / 2) := by rw [eh, hq]
    by_cases hc : r ≤ (x.1 + x.2) / 2
    · rw [decide_eq_true hc] at hq2
      repeat' first
        | refine fun h => absurd (h.symm.trans hq2) (by decide)
        | exact PLe.refl _
        | exact BLe.refl _
        | exact PLeL.nil
        | exact BLeL.nil
        | refine ⟨?_, ?_⟩
        | refine PLeL.cons ?_ ?_
        | refine BLeL.cons ?_ ?_
        | refine ple_int ?_
        | refine ple_bool ?_
        | refine ple_tt ?_
        | refine ple_ff ?_
        | refine PLe.aggL ?_
        | refine PLe.tupL ?_
        | refine BLe.cellsL ?_
        | refine next_mu (x.1, (x.1 + x.2) / 2) rfl ?_ ?_ (.mk ?_ ?_)
        | refine fun h => absurd h (by decide)
        | refine fun (h : @Eq Bool _ _) => ?_
      all_goals first
        | trivial
        | rfl
        | omega
        | exact eh
        | exact hL
        | exact hn
        | exact ⟨hL, hn⟩
        | exact ⟨h1, h2, hc, by omega⟩
        | exact h1
        | exact h2
        | exact hc
        | (show (x.1 + x.2) / 2 ≤ N; omega)
        | (show ((x.1 + x.2) / 2 - x.1).toNat < (x.2 - x.1).toNat; omega)
        | skip
    · rw [decide_eq_false hc] at hq2
      repeat' first
        | refine fun h => absurd (h.symm.trans hq2) (by decide)
        | exact PLe.refl _
        | exact BLe.refl _
        | exact PLeL.nil
        | exact BLeL.nil
        | refine ⟨?_, ?_⟩
        | refine PLeL.cons ?_ ?_
        | refine BLeL.cons ?_ ?_
        | refine ple_int ?_
        | refine ple_bool ?_
        | refine ple_tt ?_
        | refine ple_ff ?_
        | refine PLe.aggL ?_
        | refine PLe.tupL ?_
        | refine BLe.cellsL ?_
        | refine next_mu ((x.1 + x.2) / 2 + 1, x.2) rfl ?_ ?_ (.mk ?_ ?_)
        | refine fun h => absurd h (by decide)
        | refine fun (h : @Eq Bool _ _) => ?_
      all_goals first
        | trivial
        | rfl
        | omega
        | exact (congrArg (fun z => IntKind.i64.wrap (z + 1)) eh).trans ep
        | exact hL
        | exact hn
        | exact ⟨hL, hn⟩
        | exact ⟨by omega, by omega, h3, h4⟩
        | exact h3
        | exact h4
        | (show (0 : Int) ≤ (x.1 + x.2) / 2 + 1; omega)
        | (show (x.1 + x.2) / 2 + 1 ≤ r; omega)
        | (show (x.2 - ((x.1 + x.2) / 2 + 1)).toNat < (x.2 - x.1).toNat; omega)
        | skip
  · have g : ¬ x.1 < x.2 := of_decide_eq_false g
    have er : x.1 = r := by omega
    subst er
    repeat' first
      | exact PLe.refl _
      | exact BLe.refl _
      | exact PLeL.nil
      | exact BLeL.nil
      | refine ⟨?_, ?_⟩
      | refine PLeL.cons ?_ ?_
      | refine BLeL.cons ?_ ?_
      | refine ple_int ?_
      | refine ple_bool ?_
      | refine ple_tt ?_
      | refine ple_ff ?_
      | refine PLe.aggL ?_
      | refine PLe.tupL ?_
      | refine BLe.cellsL ?_
      | refine fun h => absurd h (by decide)
      | refine fun (h : @Eq Bool _ _) => ?_
    all_goals first
      | trivial
      | rfl
      | omega
      | skip
end Go.Proofs.Ytnjhbmcambofgaa
