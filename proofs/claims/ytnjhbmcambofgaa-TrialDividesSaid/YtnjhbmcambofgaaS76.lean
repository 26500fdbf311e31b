/- Layer 4: divisions by digits. -/
import Derived.Test.YtnjhbmcambofgaaS65
namespace Go.Proofs.Ytnjhbmcambofgaa
open Go.V
set_option linter.unusedSimpArgs false
set_option linter.unusedVariables false

def dvU (x : Int) : Nat → Int
  | 0 => x
  | k + 1 => IntKind.u64.wrap ((dvU x k).tdiv 4)
def digit (x : Int) (k : Nat) : Int := IntKind.i64.wrap ((dvU x k).tmod 4)
theorem int_len {s : Nat → Int} {n : Nat} : ∀ i, i < n → ((fun i => intL (s i)) i).length = 1 := fun _ _ => rfl
set_option maxRecDepth 20000 in
set_option maxHeartbeats 2000000 in
theorem d64 (n : Nat) (hn : n ≤ 1000) (x : Int) : SF Try.prog 64 (V.atS [I (n : Nat), .int .u64 x] (.slice none n fun i => intL (digit x i))) := by
  refine sf_gen types_ok mixed (l := []) trivial (es := []) trivial (its := []) trivial (fr := []) trivial [] [] false [] [] 2 Try.func64 rfl (by kernel_rfl) fun args h => ?_
  have h : args = _ := h
  subst h
  refine ⟨rfl, ?_⟩
  show evalCode _ _ _ fun o => match o with
    | .normal st | .ret st => withP _ (_ ∧ PLe _ (.slice none n fun i => intL (digit x i)))
    | _ => False
  repeat' first | (exact PLe.refl _) | (exact BLe.refl _) | (exact PLeL.nil) | (exact BLeL.nil) | (refine ⟨?_, ?_⟩) | (refine PLeL.cons ?_ ?_) | (refine BLeL.cons ?_ ?_) | (refine ple_int ?_) | (refine ple_bool ?_) | (refine ple_tt ?_) | (refine ple_ff ?_) | (refine PLe.aggL ?_) | (refine PLe.tupL ?_) | (refine BLe.cellsL ?_) | (refine halt_rng (cnt 6) n [0, 1, 5, 6] [5] (fun k => [I (n : Nat), .int .u64 (dvU x k), .slice (some 5) k fun i => intL (digit x i), I (k : Nat)]) (fun k => [.grow k 3 1]) (fun _ => True) rfl (.mk ?_ ?_) trivial ?_) | (refine fun h => absurd h (by decide)) | (refine fun (h : @Eq Bool _ _) => ?_)
  all_goals first | trivial | rfl | omega | (exact ple_slice rfl fun i hi => by cases hi) | skip
  intro m hm _
  refine ⟨fun h1 => ?_, fun h1 => ?_⟩
  · have hlt : m < n := by
      have : (m : Int) < (n : Int) := of_decide_eq_true h1
      omega
    have e1 := succ_w hlt (by omega)
    clear h1
    repeat' first | (exact PLe.refl _) | (exact BLe.refl _) | (exact PLeL.nil) | (exact BLeL.nil) | (refine ⟨?_, ?_⟩) | (refine PLeL.cons ?_ ?_) | (refine BLeL.cons ?_ ?_) | (refine ple_int ?_) | (refine ple_bool ?_) | (refine ple_tt ?_) | (refine ple_ff ?_) | (refine PLe.aggL ?_) | (refine PLe.tupL ?_) | (refine BLe.cellsL ?_) | (refine next_rng (cn := cnt 6) rfl (fun _ => rfl) hlt trivial (.mk ?_ ?_)) | (refine fun h => absurd h (by decide)) | (refine fun (h : @Eq Bool _ _) => ?_)
    all_goals first | trivial | rfl | omega | (exact e1) | (exact int_len) | (show (m + 1) * 8 ≤ 140737488355328; omega) | (intro y hy; obtain rfl : y = 0 := (by omega); exact ⟨rfl, rfl⟩) | (show (4 : Int) ≠ 0; decide) | skip
    · show PLe (.slice (some 5) (m + 1) _) _
      refine ple_slice rfl fun y hy => ?_
      by_cases hl : y < m
      · rw [blt_t hl]; rfl
      · obtain rfl : y = m := by
          have hy : y < m + 1 := hy
          omega
        rw [blt_f hl, Nat.sub_self]; rfl
  · have hmn : m = n := by
      have : ¬ ((m : Int) < (n : Int)) := of_decide_eq_false h1
      omega
    subst hmn
    clear h1
    repeat' first | (exact PLe.refl _) | (exact BLe.refl _) | (exact PLeL.nil) | (exact BLeL.nil) | (refine ⟨?_, ?_⟩) | (refine PLeL.cons ?_ ?_) | (refine BLeL.cons ?_ ?_) | (refine ple_int ?_) | (refine ple_bool ?_) | (refine ple_tt ?_) | (refine ple_ff ?_) | (refine PLe.aggL ?_) | (refine PLe.tupL ?_) | (refine BLe.cellsL ?_) | (refine fun h => absurd h (by decide)) | (refine fun (h : @Eq Bool _ _) => ?_)
    all_goals first | trivial | rfl | omega | skip

end Go.Proofs.Ytnjhbmcambofgaa
