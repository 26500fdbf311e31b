/- Layer 4: surveys copied. -/
import Derived.Test.YtnjhbmcambofgaaS11
namespace Go.Proofs.Ytnjhbmcambofgaa
open Go.V
set_option linter.unusedSimpArgs false
set_option linter.unusedVariables false

theorem obs_len {s : Nat → Obs} {n : Nat} : ∀ i, i < n → ((fun i => obsL (s i)) i).length = ti110.size := fun _ _ => rfl
def copyVS : V.Spec
  | [.agg [.int .i64 wl, .int .i64 lv, .slice none n get]] => (some (isL obsL n get ∧ n ≤ 1000), .agg [I wl, I lv, .slice none n get])
  | _ => bad
set_option maxRecDepth 20000 in
set_option maxHeartbeats 1000000 in
theorem sf43 : SF Try.prog 43 copyVS := by
  refine sf_gen types_ok mixed (l := [(27, rangeS)]) ⟨sf27, trivial⟩ (es := []) trivial (its := []) trivial (fr := []) trivial [(2, [.cell false 3 2 50 110 4])] [] false [] [] 1 Try.func43 rfl (by kernel_rfl) fun args h => ?_
  unfold copyVS at h
  split at h
  · rename_i wl lv n get
    obtain ⟨hL, hn1⟩ : isL obsL n get ∧ n ≤ 1000 := h
    obtain ⟨hn, s, rfl⟩ := isL.get hL
    refine ⟨rfl, ?_⟩
    show evalCode _ _ _ fun o => match o with
      | .normal st | .ret st => withP _ (_ ∧ PLe _ (.agg [I wl, I lv, .slice none n fun i => obsL (s i)]))
      | _ => False
    repeat' first | (exact PLe.refl _) | (exact BLe.refl _) | (exact PLeL.nil) | (exact BLeL.nil) | (refine ⟨?_, ?_⟩) | (refine PLeL.cons ?_ ?_) | (refine BLeL.cons ?_ ?_) | (refine ple_int ?_) | (refine ple_bool ?_) | (refine ple_tt ?_) | (refine ple_ff ?_) | (refine PLe.aggL ?_) | (refine PLe.tupL ?_) | (refine BLe.cellsL ?_) | (refine halt_rng (cnt 4) n [1, 2, 3, 4] [1, 2, 3, 50] (fun m => [.ptr 1 0, .ptr 2 0, .ptr 3 0, I m]) (fun m => [.cells [I wl, I lv, .slice none n fun i => obsL (s i)], .cells [I 0, I 0, .nils], .cells [I wl, I lv, .slice (some 50) m fun i => obsL (s i)], .grow m 110 4]) (fun _ => True) rfl (.mk ?_ ?_) trivial ?_) | (refine fun h => absurd h (by decide)) | (refine fun (h : @Eq Bool _ _) => ?_)
    all_goals first | trivial | rfl | omega | skip
    · show PLe (.slice (some 50) 0 _) _
      exact ple_slice rfl fun x hx => by cases hx
    · intro m hm _
      refine ⟨fun h1 => ?_, fun h1 => ?_⟩
      · have hlt : m < n := by simpa using h1
        have e1 := succ_w hlt hn
        clear h1
        repeat' first | (exact PLe.refl _) | (exact BLe.refl _) | (exact PLeL.nil) | (exact BLeL.nil) | (refine ⟨?_, ?_⟩) | (refine PLeL.cons ?_ ?_) | (refine BLeL.cons ?_ ?_) | (refine ple_int ?_) | (refine ple_bool ?_) | (refine ple_tt ?_) | (refine ple_ff ?_) | (refine PLe.aggL ?_) | (refine PLe.tupL ?_) | (refine BLe.cellsL ?_) | (refine next_rng (cn := cnt 4) rfl (fun _ => rfl) hlt trivial (.mk ?_ ?_)) | (refine fun h => absurd h (by decide)) | (refine fun (h : @Eq Bool _ _) => ?_)
        all_goals first | trivial | rfl | omega | (exact e1) | (show (m + 1) * 32 ≤ 140737488355328; omega) | (intro x hx; obtain rfl : x = 0 := (by omega); exact ⟨rfl, rfl⟩) | (exact obs_len) | skip
        · show PLe (.slice (some 50) (m + 1) _) _
          refine ple_slice rfl fun x hx => ?_
          by_cases hxk : x < m
          · rw [blt_t hxk]; rfl
          · obtain rfl : x = m := by
              have hx : x < m + 1 := hx
              omega
            rw [blt_f hxk, Nat.sub_self]; rfl
      · have hmn : m = n := by
          have : ¬ ((m : Int) < n) := of_decide_eq_false h1
          omega
        subst hmn
        clear h1
        repeat' first | (exact PLe.refl _) | (exact BLe.refl _) | (exact PLeL.nil) | (exact BLeL.nil) | (refine ⟨?_, ?_⟩) | (refine PLeL.cons ?_ ?_) | (refine BLeL.cons ?_ ?_) | (refine ple_int ?_) | (refine ple_bool ?_) | (refine ple_tt ?_) | (refine ple_ff ?_) | (refine PLe.aggL ?_) | (refine PLe.tupL ?_) | (refine BLe.cellsL ?_) | (refine fun h => absurd h (by decide)) | (refine fun (h : @Eq Bool _ _) => ?_)
        all_goals first | trivial | rfl | omega | skip
  · exact h.elim
end Go.Proofs.Ytnjhbmcambofgaa
