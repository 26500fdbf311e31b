/- Layer 4: the first of the shortest ways by the document's words. -/
import Derived.Test.YtnjhbmcambofgaaS71
namespace Go.Proofs.Ytnjhbmcambofgaa
open Go.V
set_option linter.unusedSimpArgs false
set_option linter.unusedVariables false

theorem steps_len {L : Nat → Nat → Bool} {W fr to d : Nat} {vv : Nat → Nat} {ws : Nat → List Nat} (h : Steps L W fr to d vv ws) : ∀ t, t ≤ d → (ws t).length = t + 1
  | 0, _ => by rw [h.w0]; rfl
  | t + 1, ht => by rw [h.ws t ht, List.length_append, steps_len h t (by omega)]; rfl
theorem app_tag {tg : Option Nat} {m m' l : Nat} {f g : Nat → List PV} (hm : m = m') (hl : m' = l + 1) (h1 : ∀ i, i < l → f i = g i) (h2 : f l = g l) : PLe (.slice tg m f) (.slice tg m' g) := by
  subst hm
  refine .slice _ _ _ _ fun i hi => ?_
  by_cases h : i < l
  · exact h1 i h
  · obtain rfl : i = l := by omega
    exact h2
theorem ws_old {L : Nat → Nat → Bool} {W fr to d : Nat} {vv : Nat → Nat} {ws : Nat → List Nat} (h : Steps L W fr to d vv ws) {t : Nat} (ht : t < d) (i : Nat) (hi : i < t + 1) : intL (((ws t).getD i 0 : Nat) : Int) = intL (((ws (t + 1)).getD i 0 : Nat) : Int) := by
  rw [h.ws t ht]
  have := steps_len h t (by omega)
  simp [List.getD, List.getElem?_append_left (show i < (ws t).length by omega)]
theorem ws_new {L : Nat → Nat → Bool} {W fr to d : Nat} {vv : Nat → Nat} {ws : Nat → List Nat} (h : Steps L W fr to d vv ws) {t : Nat} (ht : t < d) : intL (vv (t + 1) : Int) = intL (((ws (t + 1)).getD (t + 1) 0 : Nat) : Int) := by
  rw [h.ws t ht]
  have := steps_len h t (by omega)
  rw [← this]
  simp [List.getD]
def cnW (st : St) : Nat := match st.slots 8 with
  | .slice _ len _ => 100 - len
  | _ => 0
set_option maxRecDepth 20000 in
set_option maxHeartbeats 2000000 in
theorem d49 (v : Svy) (hok : okV v) (W : Nat) (hW : (W : Int) = v.wl) (fr to d : Nat) (vv : Nat → Nat) (ws : Nat → List Nat) (hst : Steps (lnk v) W fr to d vv ws) (hf : fr < W) (ht : to < W) : SF Try.prog 49 (V.atS [.agg (svyC v), I (fr : Nat), I (to : Nat)] (lstP (ws d))) := by
  have hw := hok.wl
  have hn := hok.n
  have hL : isL obsL v.n fun i => obsL (v.s i) := .mk v.s (by omega) rfl
  have hdW := hst.dW
  refine sf_gen types_ok mixed (l := [(102, V.atS [.agg (svyC v), I (to : Nat)] (.slice none W fun x => intL (farF (lnk v) W to W x))), (103, besideS)]) ⟨d102 v hok W hW to ht, sf103, trivial⟩ (es := []) trivial (its := []) trivial (fr := []) trivial [] [15] false [] [] 3 Try.func49 rfl (by kernel_rfl) fun args h => ?_
  have h : args = _ := h
  subst h
  refine ⟨rfl, ?_⟩
  show evalCode _ _ _ fun o => match o with
    | .normal st | .ret st => withP _ (_ ∧ PLe _ (lstP (ws d)))
    | _ => False
  repeat' first | (exact PLe.refl _) | (exact BLe.refl _) | (exact PLeL.nil) | (exact BLeL.nil) | (refine ⟨?_, ?_⟩) | (refine PLeL.cons ?_ ?_) | (refine BLeL.cons ?_ ?_) | (refine ple_int ?_) | (refine ple_bool ?_) | (refine ple_tt ?_) | (refine ple_ff ?_) | (refine PLe.aggL ?_) | (refine PLe.tupL ?_) | (refine BLe.cellsL ?_) | (refine halt_mu cnW [2, 3, 7, 8, 9] [3, 15] (fun t => [I (to : Nat), .ptr 3 0, .slice none W fun x => intL (farF (lnk v) W to W x), .slice (some 15) (t + 1) fun j => intL (((ws t).getD j 0 : Nat) : Int), I (vv t : Nat)]) (fun t => [.cells (svyC v), .grow (t + 1) 3 1]) (fun t => t ≤ d) 0 rfl (.mk ?_ ?_) (Nat.zero_le _) ?_) | (refine fun h => absurd h (by decide)) | (refine fun (h : @Eq Bool _ _) => ?_)
  all_goals first | trivial | rfl | omega | (exact ht) | (show (fr : Int) = (vv 0 : Int); rw [hst.v0]) | (exact app_tag (l := 0) rfl rfl (fun i hi => absurd hi (Nat.not_lt_zero i)) (by rw [hst.w0]; rfl)) | skip
  intro t hq
  have hvW := hst.vW t hq
  have hFt := far_steps (lnk_symm v) ht hst hq
  have hlen := steps_len hst t hq
  by_cases htd : t = d
  · have fE : ((vv t : Int) != (to : Int)) = false := by rw [htd, hst.vd]; simp
    repeat' first | (refine fun h => absurd (h.symm.trans fE) (by decide)) | (exact PLe.refl _) | (exact BLe.refl _) | (exact PLeL.nil) | (exact BLeL.nil) | (refine ⟨?_, ?_⟩) | (refine PLeL.cons ?_ ?_) | (refine BLeL.cons ?_ ?_) | (refine ple_int ?_) | (refine ple_bool ?_) | (refine ple_tt ?_) | (refine ple_ff ?_) | (refine PLe.aggL ?_) | (refine PLe.tupL ?_) | (refine BLe.cellsL ?_) | (refine fun h => absurd h (by decide)) | (refine fun (h : @Eq Bool _ _) => ?_)
    all_goals first | trivial | rfl | omega | (subst htd; exact ple_slice hlen.symm fun i hi => rfl) | skip
  · have hlt : t < d := by omega
    have hne : vv t ≠ to := fun e => by
      have := hst.low t hq 0 e
      omega
    have fE : ((vv t : Int) != (to : Int)) = true := by
      rw [bne_iff_ne]
      omega
    have hvN := hst.vW (t + 1) hlt
    have hFn := far_steps (lnk_symm v) ht hst (t := t + 1) hlt
    have hF0 := ((farF_inv (lnk_symm v) ht W).1.lo (vv t) hvW)
    have hwr : w (farF (lnk v) W to W (vv t) - 1) = (d : Int) - t - 1 := by
      show IntKind.i64.wrap _ = _
      rw [w64 (by omega) (by omega)]; omega
    repeat' first | (refine fun h => absurd (h.symm.trans fE) (by decide)) | (exact PLe.refl _) | (exact BLe.refl _) | (exact PLeL.nil) | (exact BLeL.nil) | (refine ⟨?_, ?_⟩) | (refine PLeL.cons ?_ ?_) | (refine BLeL.cons ?_ ?_) | (refine ple_int ?_) | (refine ple_bool ?_) | (refine ple_tt ?_) | (refine ple_ff ?_) | (refine PLe.aggL ?_) | (refine PLe.tupL ?_) | (refine BLe.cellsL ?_) | (refine halt_rng (cnt 10) (vv (t + 1)) [2, 3, 7, 8, 9, 10] [3, 15] (fun n => [I (to : Nat), .ptr 3 0, .slice none W fun x => intL (farF (lnk v) W to W x), .slice (some 15) (t + 1) fun j => intL (((ws t).getD j 0 : Nat) : Int), I (vv t : Nat), I (n : Nat)]) (fun n => [.cells (svyC v), .grow (t + 1) 3 1]) (fun _ => True) rfl (.mk ?_ ?_) trivial ?_) | (refine fun h => absurd h (by decide)) | (refine fun (h : @Eq Bool _ _) => ?_)
    all_goals first | trivial | rfl | omega | skip
    intro n hn9 _
    have hnW : n < W := by omega
    by_cases hn : n = vv (t + 1)
    · have q1 : (!lnk v (vv t) n) = false := by rw [hn, hst.lk t hlt]; rfl
      have q2 : (farF (lnk v) W to W n != w (farF (lnk v) W to W (vv t) - 1)) = false := by
        rw [hwr, hn, hFn]
        have : (d : Int) - ((t + 1 : Nat) : Int) = (d : Int) - t - 1 := by omega
        rw [this]; simp
      repeat' first | (refine fun h => absurd (h.symm.trans q1) (by decide)) | (refine fun h => absurd (h.symm.trans q2) (by decide)) | (exact PLe.refl _) | (exact BLe.refl _) | (exact PLeL.nil) | (exact BLeL.nil) | (refine ⟨?_, ?_⟩) | (refine PLeL.cons ?_ ?_) | (refine BLeL.cons ?_ ?_) | (refine ple_int ?_) | (refine ple_bool ?_) | (refine ple_tt ?_) | (refine ple_ff ?_) | (refine PLe.aggL ?_) | (refine PLe.tupL ?_) | (refine BLe.cellsL ?_) | (refine next_mu (cn := cnW) (t + 1) rfl (show 100 - (t + 1 + 1) < 100 - (t + 1) by omega) (show t + 1 ≤ d from hlt) (.mk ?_ ?_)) | (refine fun h => absurd h (by decide)) | (refine fun (h : @Eq Bool _ _) => ?_)
      all_goals first | trivial | rfl | omega | (show (vv t : Int) < (W : Int); omega) | (show (n : Int) < (W : Int); omega) | (exact Int.natCast_nonneg _) | (exact hL) | (exact Nat.le_refl 1) | rfl | (exact fun i hi => rfl) | (show t + 1 + 1 < 2147483648; omega) | (show (t + 1 + 1) * 8 ≤ 140737488355328; omega) | (exact fun i hi => ⟨rfl, rfl⟩) | (intro y hy; obtain rfl : y = 0 := (by omega); exact ⟨rfl, rfl⟩) | (rw [hn]; rfl) | (exact app_tag (l := t + 1) rfl rfl (fun i hi => (bif_t (blt_t hi)).trans (ws_old hst hlt i hi)) (by show (bif Nat.blt _ _ then _ else _) = _; rw [blt_f (Nat.lt_irrefl _), Nat.sub_self, hn]; exact ws_new hst hlt)) | (show (n : Int) = (vv (t + 1) : Int); rw [hn]) | skip
    · have hlt_n : n < vv (t + 1) := by omega
      have e_n := succ_w hlt_n (by omega)
      refine (Bool.eq_false_or_eq_true (lnk v (vv t) n)).elim (fun q0 => ?_) fun q0 => ?_
      · have q1 : (!lnk v (vv t) n) = false := by rw [q0]; rfl
        have q2 : (farF (lnk v) W to W n != w (farF (lnk v) W to W (vv t) - 1)) = true := by
          rw [hwr, bne_iff_ne]
          exact far_first (lnk_symm v) ht hst hlt hlt_n q0
        repeat' first | (refine fun h => absurd (h.symm.trans q1) (by decide)) | (refine fun h => absurd (h.symm.trans q2) (by decide)) | (exact PLe.refl _) | (exact BLe.refl _) | (exact PLeL.nil) | (exact BLeL.nil) | (refine ⟨?_, ?_⟩) | (refine PLeL.cons ?_ ?_) | (refine BLeL.cons ?_ ?_) | (refine ple_int ?_) | (refine ple_bool ?_) | (refine ple_tt ?_) | (refine ple_ff ?_) | (refine PLe.aggL ?_) | (refine PLe.tupL ?_) | (refine BLe.cellsL ?_) | (refine next_rng (cn := cnt 10) rfl (fun _ => rfl) hlt_n trivial (.mk ?_ ?_)) | (refine fun h => absurd h (by decide)) | (refine fun (h : @Eq Bool _ _) => ?_)
        all_goals first | trivial | rfl | omega | (show (vv t : Int) < (W : Int); omega) | (show (n : Int) < (W : Int); omega) | (exact Int.natCast_nonneg _) | (exact hL) | (exact Nat.le_refl 1) | rfl | (exact e_n) | skip
      · have q1 : (!lnk v (vv t) n) = true := by rw [q0]; rfl
        repeat' first | (refine fun h => absurd (h.symm.trans q1) (by decide)) | (exact PLe.refl _) | (exact BLe.refl _) | (exact PLeL.nil) | (exact BLeL.nil) | (refine ⟨?_, ?_⟩) | (refine PLeL.cons ?_ ?_) | (refine BLeL.cons ?_ ?_) | (refine ple_int ?_) | (refine ple_bool ?_) | (refine ple_tt ?_) | (refine ple_ff ?_) | (refine PLe.aggL ?_) | (refine PLe.tupL ?_) | (refine BLe.cellsL ?_) | (refine next_rng (cn := cnt 10) rfl (fun _ => rfl) hlt_n trivial (.mk ?_ ?_)) | (refine fun h => absurd h (by decide)) | (refine fun (h : @Eq Bool _ _) => ?_)
        all_goals first | trivial | rfl | omega | (show (vv t : Int) < (W : Int); omega) | (show (n : Int) < (W : Int); omega) | (exact Int.natCast_nonneg _) | (exact hL) | (exact Nat.le_refl 1) | rfl | (exact e_n) | skip
end Go.Proofs.Ytnjhbmcambofgaa
