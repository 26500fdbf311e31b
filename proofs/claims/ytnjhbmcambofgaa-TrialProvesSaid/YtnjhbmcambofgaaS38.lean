/- Layer 4: ProveNone of the program. -/
import Derived.Test.YtnjhbmcambofgaaS37
namespace Go.Proofs.Ytnjhbmcambofgaa
open Go.V
set_option linter.unusedSimpArgs false
set_option linter.unusedVariables false

def shB (t : Tst) (p : Nat → Int × Int) (i : Nat) : Bool := allN (fun j => conB t (t.b.lo + (i : Nat)) (t.c.lo + (j : Nat)) (p (i * t.nc + j)).1 (p (i * t.nc + j)).2) t.nc
/-- Whether each pair is a conflict of its family. -/
def shA (t : Tst) (p : Nat → Int × Int) : Bool := allN (shB t p) t.nb
theorem conP_eq {t : Tst} (hn : t.n ≤ 12) (b c : Int) (x y : Int) : conP (t.n + 1) (fun i => rngOf (rngL (roomsM t b c i))) x y = conB t b c x y := by
  unfold conP conB inR inRm
  have e1 : w (((t.n + 1 : Nat) : Int) - 2) = w ((t.n : Int) - 1) := by rw [wi (by omega), wi (by omega)]; omega
  rw [e1, wi (n := (t.n : Int) - 1) (by omega)]
  by_cases hx : -1 ≤ x ∧ x ≤ (t.n : Int) - 1
  · by_cases hy : -1 ≤ y ∧ y ≤ (t.n : Int) - 1
    · have k : ∀ z : Int, -1 ≤ z ∧ z ≤ (t.n : Int) - 1 → rngOf (rngL (roomsM t b c (w (z + 1)).toNat)) = roomI t b c z := by
        intro z hz
        rw [wi (n := z + 1) (by omega)]
        obtain ⟨m, rfl⟩ : ∃ m : Nat, z = -1 + (m : Int) := ⟨(z + 1).toNat, by omega⟩
        rw [roomI_rooms, show (-1 + (m : Int) + 1).toNat = m by omega]
        rfl
      show (_ && (_ && decide ((rngOf (rngL (roomsM t b c (w (y + 1)).toNat))).hi < (rngOf (rngL (roomsM t b c (w (x + 1)).toNat))).lo))) = _
      rw [k x hx, k y hy]
    · rw [decide_eq_false hy]
      simp
  · rw [decide_eq_false hx]
    rfl
theorem lt_mul {i j nb nc : Nat} (hi : i < nb) (hj : j < nc) : i * nc + j < nb * nc := by
  have h1 : (i + 1) * nc ≤ nb * nc := Nat.mul_le_mul_right _ hi
  rw [Nat.succ_mul] at h1
  omega
set_option maxRecDepth 20000 in
set_option maxHeartbeats 3000000 in
theorem provesT (t : Tst) (hok : okT t) (k : Nat) (p : Nat → Int × Int) (hk : k = t.nb * t.nc) (hA : shA t p = true) : SF Try.prog 39 (V.atS [.agg (tstC t), .slice none k fun x => pairL (p x)] (.bool true)) := by
  refine sf_gen types_ok mixed (l := [(19, V.atS [.agg (tstC t)] (I 0)), (88, roomsFS), (91, isConS), (73, countS)]) ⟨(by have := c19 t (by have := hok.n; omega); rw [tfE_okT hok] at this; exact this), sf88, sf91, sf73, trivial⟩ (es := []) trivial (its := [(121, 900, 1000, 2000, it121)]) ⟨si121, trivial⟩ (fr := []) trivial [] [] false [] [] 2 Try.func39 rfl (by kernel_rfl) fun args h => ?_
  have h : args = _ := h
  subst h
  refine ⟨rfl, ?_⟩
  show evalCode _ _ _ fun o => match o with
    | .normal st | .ret st => withP _ (_ ∧ PLe _ (.bool true))
    | _ => False
  have hb := hok.b
  have hc := hok.c
  have hn := hok.n
  have hnb : t.nb ≤ 40 := by unfold Tst.nb; omega
  have hnc : t.nc ≤ 40 := by unfold Tst.nc; omega
  have ebn : t.b.lo + (t.nb : Int) = t.b.hi + 1 := by unfold Tst.nb; omega
  have ecn : t.c.lo + (t.nc : Int) = t.c.hi + 1 := by unfold Tst.nc; omega
  have hk16 : k ≤ 1600 := by rw [hk]; exact Nat.le_trans (Nat.mul_le_mul hnb hnc) (by omega)
  have eb : w (w (t.b.hi - t.b.lo) + 1) = (t.nb : Int) := by rw [wi (n := t.b.hi - t.b.lo) (by omega), wi (by omega)]; omega
  have ec : w (w (t.c.hi - t.c.lo) + 1) = (t.nc : Int) := by rw [wi (n := t.c.hi - t.c.lo) (by omega), wi (by omega)]; omega
  have ek : IntKind.i64.wrap (w (w (t.b.hi - t.b.lo) + 1) * w (w (t.c.hi - t.c.lo) + 1)) = (k : Int) := by
    rw [eb, ec, show (t.nb : Int) * (t.nc : Int) = (k : Int) by rw [hk]; exact (Int.natCast_mul ..).symm]
    exact wi (by omega)
  repeat' first | (refine Halt.mk ⟨[], ?_⟩; refine ⟨rfl, fun L => ⟨rfl, ?_⟩⟩; refine halt_rngO 1000 (cntF 3 t.b.lo) t.nb [0, 1, 3] [] (fun i => [.yld L, .cptr (tstC t), I (t.b.lo + (i : Nat))]) (fun i => [(2, .cells (tstC t)), (3, .cells [.slice none (k - (i * t.nc)) (fun x => pairL (p ((i * t.nc) + x)))]), (4, .cells [.ff]), (900, .jmp .ready)]) (fun i => ∀ x, x < i → shB t p x = true) rfl (.mk ?_ ?_) (fun x hx => absurd hx (Nat.not_lt_zero x)) ?_) | (exact PLe.refl _) | (exact BLe.refl _) | (exact PLeL.nil) | (exact BLeL.nil) | (refine ⟨?_, ?_⟩) | (refine PLeL.cons ?_ ?_) | (refine BLeL.cons ?_ ?_) | (refine ple_int ?_) | (refine ple_bool ?_) | (refine ple_tt ?_) | (refine ple_ff ?_) | (refine PLe.aggL ?_) | (refine PLe.tupL ?_) | (refine BLe.cellsL ?_) | (refine fun h => absurd h (by decide)) | (refine fun h => ?_; exfalso; simp only [ek, Int.toNat_natCast, Bool.cond_true_left, Bool.cond_false_right, Bool.cond_true_right, Bool.cond_false_left, cond_true, cond_false, Bool.not_true, Bool.not_false, Bool.not_not, Bool.and_true, Bool.true_and, Bool.and_false, Bool.false_and, Bool.or_true, Bool.true_or, Bool.or_false, Bool.false_or, beq_self_eq_true, bne_self_eq_false, Bool.true_eq_false, Bool.false_eq_true, reduceCtorEq, Bool.and_self, Bool.or_self, Int.reduceBEq, Int.reduceBNe, Int.reduceNeg, decide_true, decide_false, Int.reduceLT, Int.reduceLE, Int.reduceGT] at h; done) | (refine fun (h : @Eq Bool _ _) => ?_)
  all_goals first | trivial | rfl | omega | (simp only [ek, Int.toNat_natCast, Bool.cond_true_left, Bool.cond_false_right, Bool.cond_true_right, Bool.cond_false_left, cond_true, cond_false, Bool.not_true, Bool.not_false, Bool.not_not, Bool.and_true, Bool.true_and, Bool.and_false, Bool.false_and, Bool.or_true, Bool.true_or, Bool.or_false, Bool.false_or, beq_self_eq_true, bne_self_eq_false, Bool.true_eq_false, Bool.false_eq_true, reduceCtorEq, Bool.and_self, Bool.or_self, Int.reduceBEq, Int.reduceBNe, Int.reduceNeg, decide_true, decide_false, Int.reduceLT, Int.reduceLE, Int.reduceGT]; done) | (show @Eq Bool _ _; simp only [ek, Int.toNat_natCast, Bool.cond_true_left, Bool.cond_false_right, Bool.cond_true_right, Bool.cond_false_left, cond_true, cond_false, Bool.not_true, Bool.not_false, Bool.not_not, Bool.and_true, Bool.true_and, Bool.and_false, Bool.false_and, Bool.or_true, Bool.true_or, Bool.or_false, Bool.false_or, beq_self_eq_true, bne_self_eq_false, Bool.true_eq_false, Bool.false_eq_true, reduceCtorEq, Bool.and_self, Bool.or_self, Int.reduceBEq, Int.reduceBNe, Int.reduceNeg, decide_true, decide_false, Int.reduceLT, Int.reduceLE, Int.reduceGT]; done) | skip
  · refine bn_all [2, 3, 4, 900] ⟨.refl _, ?_, .refl _, .refl _, trivial⟩ ?_
    · exact .cellsL (.cons (ple_slice (by rw [Nat.zero_mul]; rfl) fun x hx => by rw [Nat.zero_mul, Nat.zero_add]) .nil)
    intro s hO
    obtain ⟨n2, n3, n4, n900, _⟩ := hO
    refine ble_none (eb_none fun hk => ?_) (look_none n2 (look_none n3 (look_none n4 (look_none n900 (rfl)))))
    have hs : s < 1000 := keepQ_lt hk
    repeat' first | (exact rfl) | (exact look_none n2 (look_none n3 (look_none n4 (look_none n900 (rfl))))) | (refine upd_none n2 ?_) | (refine upd_none n3 ?_) | (refine upd_none n4 ?_) | (refine upd_none n900 ?_) | (refine cut_none' fun _ => ?_) | (refine eb_none fun _ => ?_)
  · intro i hi hQ
    refine ⟨fun h1 => ?_, fun h1 => ?_⟩
    · have h1 : t.b.lo + (i : Int) ≤ t.b.hi := of_decide_eq_true h1
      have hib : i < t.nb := by unfold Tst.nb; omega
      have e1 : IntKind.i64.wrap (t.b.lo + (i : Int) + 1) = t.b.lo + ((i + 1 : Nat) : Int) := by rw [w64 (by omega) (by omega)]; omega
      refine halt_rngO 1000 (cntF 4 t.c.lo) t.nc [0, 1, 3, 4] [] (fun j => [.yld L, .cptr (tstC t), I (t.b.lo + (i : Nat)), I (t.c.lo + (j : Nat))]) (fun j => [(2, .cells (tstC t)), (3, .cells [.slice none (k - (i * t.nc + j)) (fun x => pairL (p ((i * t.nc + j) + x)))]), (4, .cells [.ff]), (900, .jmp .ready)]) (fun j => ∀ x, x < j → conB t (t.b.lo + (i : Nat)) (t.c.lo + (x : Nat)) (p (i * t.nc + x)).1 (p (i * t.nc + x)).2 = true) rfl (.mk ?_ ?_) (fun x hx => absurd hx (Nat.not_lt_zero x)) ?_
      · exact .cons (.refl _) (.cons (.refl _) (.cons (.refl _) (.cons (ple_int (by simp)) .nil)))
      · refine bn_all [2, 3, 4, 900] ⟨.refl _, .refl _, .refl _, .refl _, trivial⟩ ?_
        intro s hO
        obtain ⟨n2, n3, n4, n900, _⟩ := hO
        refine ble_none (eb_none fun hk => ?_) (look_none n2 (look_none n3 (look_none n4 (look_none n900 (rfl)))))
        have hs : s < 1000 := keepQ_lt hk
        repeat' first | (exact rfl) | (exact look_none n2 (look_none n3 (look_none n4 (look_none n900 (rfl))))) | (refine upd_none n2 ?_) | (refine upd_none n3 ?_) | (refine upd_none n4 ?_) | (refine upd_none n900 ?_) | (refine cut_none' fun _ => ?_) | (refine eb_none fun _ => ?_)
      · intro j hj hQ2
        refine ⟨fun h2 => ?_, fun h2 => ?_⟩
        · have h2 : t.c.lo + (j : Int) ≤ t.c.hi := of_decide_eq_true h2
          have hjc : j < t.nc := by unfold Tst.nc; omega
          have e2 : IntKind.i64.wrap (t.c.lo + (j : Int) + 1) = t.c.lo + ((j + 1 : Nat) : Int) := by rw [w64 (by omega) (by omega)]; omega
          have hm : i * t.nc + j < k := by rw [hk]; exact lt_mul hib hjc
          refine halt_rngO 1000 (cnt 40) t.n [0, 1, 3, 4, 5, 6, 7, 38, 39, 40] [1005, 1036] (fun k => [.yld L, .cptr (tstC t), I (t.b.lo + (i : Nat)), I (t.c.lo + (j : Nat)), .ptr 1005 0, .fn (.func 122) [] [.ptr 1005 0], .slice (some 1036) (k + 1) (fun x => rngL (roomsM t (t.b.lo + (i : Nat)) (t.c.lo + (j : Nat)) x)), .slice none t.n fun x => stpL (t.s x), I t.n, I k])
            (fun q => [(2, .cells (tstC t)), (3, .cells [.slice none (k - (i * t.nc + j)) (fun x => pairL (p ((i * t.nc + j) + x)))]), (4, .cells [.ff]), (900, .jmp .ready)] ++ [(1005, .cells [I 0, I (t.b.lo + (i : Nat)), I (t.c.lo + (j : Nat))]), (1036, .grow (q + 1) 32 2)]) (fun _ => True) rfl (.mk ?_ ?_) trivial ?_
          · refine .cons (.refl _) (.cons (.refl _) (.cons (.refl _) (.cons (.refl _) (.cons (.refl _) (.cons (.refl _) (.cons (ple_slice rfl fun x hx => ?_) (.cons (.refl _) (.cons (.refl _) (.cons (.refl _) .nil)))))))))
            have hx : x < 1 := hx
            obtain rfl : x = 0 := by omega
            rfl
          · refine bn_all [2, 3, 4, 900, 1005, 1036] ⟨.refl _, .refl _, .refl _, .refl _, .refl _, .refl _, trivial⟩ ?_
            intro s hO
            obtain ⟨n2, n3, n4, n900, n1005, n1036, _⟩ := hO
            refine ble_none (eb_none fun hk => ?_) (look_none n2 (look_none n3 (look_none n4 (look_none n900 (look_none n1005 (look_none n1036 (rfl)))))))
            have hs : s < 1000 := keepQ_off hk (by simp only [List.mem_cons, List.not_mem_nil, or_false]; rintro k (rfl | rfl) <;> assumption)
            repeat' first | (exact rfl) | (exact look_none n2 (look_none n3 (look_none n4 (look_none n900 (rfl))))) | (exact look_none n2 (look_none n3 (look_none n4 (look_none n900 (look_none n1005 (look_none n1036 (rfl))))))) | (refine upd_none n2 ?_) | (refine upd_none n3 ?_) | (refine upd_none n4 ?_) | (refine upd_none n900 ?_) | (refine upd_none n1005 ?_) | (refine upd_none n1036 ?_) | (refine cut_none' fun _ => ?_) | (refine eb_none fun _ => ?_)
          · intro q hq _
            refine ⟨fun h3 => ?_, fun h3 => ?_⟩
            · have hkn : q < t.n := by simpa using h3
              have e3 := succ_w (m := q) (n := t.n) hkn (by omega)
              clear h3
              repeat' first | (exact PLe.refl _) | (exact BLe.refl _) | (exact PLeL.nil) | (exact BLeL.nil) | (refine ⟨?_, ?_⟩) | (refine PLeL.cons ?_ ?_) | (refine BLeL.cons ?_ ?_) | (refine ple_int ?_) | (refine ple_bool ?_) | (refine ple_tt ?_) | (refine ple_ff ?_) | (refine PLe.aggL ?_) | (refine PLe.tupL ?_) | (refine BLe.cellsL ?_) | (refine next_rngO (off := 1000) (cn := cnt 40) rfl (fun _ => rfl) hkn trivial (.mk ?_ ?_)) | (refine fun h => absurd h (by decide)) | (refine fun (h : @Eq Bool _ _) => ?_)
              all_goals first | trivial | rfl | omega | (exact e3) | (exact rng_len) | (show (q + 1 + 1) * 16 ≤ 140737488355328; omega) | (intro x hx; obtain rfl : x = 0 := (by omega); exact ⟨rfl, rfl⟩) | skip
              · show PLe (.slice (some 1036) (q + 1 + 1) _) _
                refine ple_slice rfl fun x hx => ?_
                by_cases hxk : x < q + 1
                · rw [blt_t hxk]; rfl
                · obtain rfl : x = q + 1 := by omega
                  rw [blt_f hxk, Nat.sub_self]; rfl
              · refine bn_all [2, 3, 4, 900, 1005, 1036] ⟨.refl _, .refl _, .refl _, .refl _, .refl _, .refl _, trivial⟩ ?_
                intro s hO
                obtain ⟨n2, n3, n4, n900, n1005, n1036, _⟩ := hO
                refine ble_none (eb_none fun hk => ?_) (look_none n2 (look_none n3 (look_none n4 (look_none n900 (look_none n1005 (look_none n1036 (rfl)))))))
                have hs : s < 1000 := keepQ_off hk (by simp only [List.mem_cons, List.not_mem_nil, or_false]; rintro k (rfl | rfl) <;> assumption)
                repeat' first | (exact rfl) | (exact look_none n2 (look_none n3 (look_none n4 (look_none n900 (look_none n1005 (look_none n1036 (rfl))))))) | (refine upd_none n2 ?_) | (refine upd_none n3 ?_) | (refine upd_none n4 ?_) | (refine upd_none n900 ?_) | (refine upd_none n1005 ?_) | (refine upd_none n1036 ?_) | (refine upd_none (show s ≠ 1009 by omega) ?_) | (refine cut_none' fun _ => ?_) | (refine eb_none fun _ => ?_)
            · have hk2 : q = t.n := by
                have : ¬ ((q : Int) < t.n) := of_decide_eq_false h3
                omega
              subst hk2
              clear h3
              have hL : isL rngL (t.n + 1) (fun x => rngL (roomsM t (t.b.lo + (i : Nat)) (t.c.lo + (j : Nat)) x)) := .mk (roomsM t (t.b.lo + (i : Nat)) (t.c.lo + (j : Nat))) (by omega) rfl
              have hlen3 : ∀ x, x < k - (i * t.nc + j) → (pairL (p (i * t.nc + j + x))).length = ti67.size := fun _ _ => rfl
              have ex := conP_eq (t := t) hn (t.b.lo + (i : Nat)) (t.c.lo + (j : Nat)) (p (i * t.nc + j)).1 (p (i * t.nc + j)).2
              refine (Bool.eq_false_or_eq_true (conB t (t.b.lo + (i : Nat)) (t.c.lo + (j : Nat)) (p (i * t.nc + j)).1 (p (i * t.nc + j)).2)).elim (fun hd => ?_) fun hd => ?_
              · have hdn : (!(conP (t.n + 1) (fun y2 => rngOf (rngL (roomsM t (t.b.lo + (i : Nat)) (t.c.lo + (j : Nat)) y2))) (p (i * t.nc + j)).1 (p (i * t.nc + j)).2)) = false := by rw [ex, hd]; rfl
                have hQ5 : ∀ x, x < j + 1 → conB t (t.b.lo + (i : Nat)) (t.c.lo + (x : Nat)) (p (i * t.nc + x)).1 (p (i * t.nc + x)).2 = true := fun x hx => by
                  rcases Nat.lt_succ_iff_lt_or_eq.1 hx with h | rfl
                  · exact hQ2 x h
                  · exact hd
                repeat' first | (refine fun h => absurd (h.symm.trans hdn) (by decide)) | (exact PLe.refl _) | (exact BLe.refl _) | (exact PLeL.nil) | (exact BLeL.nil) | (refine ⟨?_, ?_⟩) | (refine PLeL.cons ?_ ?_) | (refine BLeL.cons ?_ ?_) | (refine ple_int ?_) | (refine ple_bool ?_) | (refine ple_tt ?_) | (refine ple_ff ?_) | (refine PLe.aggL ?_) | (refine PLe.tupL ?_) | (refine BLe.cellsL ?_) | (refine next_rngO (off := 1000) (cn := cntF 4 t.c.lo) rfl (fun m => by show (t.c.lo + (m : Int) - t.c.lo).toNat = m; omega) hjc hQ5 (.mk ?_ ?_)) | (refine fun h => absurd h (by decide)) | (refine fun h => ?_; exfalso; simp only [hdn, Int.toNat_natCast, Bool.cond_true_left, Bool.cond_false_right, Bool.cond_true_right, Bool.cond_false_left, cond_true, cond_false, Bool.not_true, Bool.not_false, Bool.not_not, Bool.and_true, Bool.true_and, Bool.and_false, Bool.false_and, Bool.or_true, Bool.true_or, Bool.or_false, Bool.false_or, beq_self_eq_true, bne_self_eq_false, Bool.true_eq_false, Bool.false_eq_true, reduceCtorEq, Bool.and_self, Bool.or_self, Int.reduceBEq, Int.reduceBNe, Int.reduceNeg, decide_true, decide_false, Int.reduceLT, Int.reduceLE, Int.reduceGT] at h; done) | (refine fun (h : @Eq Bool _ _) => ?_)
                all_goals first | trivial | rfl | omega | (exact e2) | (exact hL) | (exact hlen3) | (show (0 : Int) < ((k - (i * t.nc + j) : Nat) : Int); omega) | (show (1 : Int) ≤ ((k - (i * t.nc + j) : Nat) : Int); omega) | (simp only [hdn, Int.toNat_natCast, Bool.cond_true_left, Bool.cond_false_right, Bool.cond_true_right, Bool.cond_false_left, cond_true, cond_false, Bool.not_true, Bool.not_false, Bool.not_not, Bool.and_true, Bool.true_and, Bool.and_false, Bool.false_and, Bool.or_true, Bool.true_or, Bool.or_false, Bool.false_or, beq_self_eq_true, bne_self_eq_false, Bool.true_eq_false, Bool.false_eq_true, reduceCtorEq, Bool.and_self, Bool.or_self, Int.reduceBEq, Int.reduceBNe, Int.reduceNeg, decide_true, decide_false, Int.reduceLT, Int.reduceLE, Int.reduceGT]; done) | (show @Eq Bool _ _; simp only [hdn, Int.toNat_natCast, Bool.cond_true_left, Bool.cond_false_right, Bool.cond_true_right, Bool.cond_false_left, cond_true, cond_false, Bool.not_true, Bool.not_false, Bool.not_not, Bool.and_true, Bool.true_and, Bool.and_false, Bool.false_and, Bool.or_true, Bool.true_or, Bool.or_false, Bool.false_or, beq_self_eq_true, bne_self_eq_false, Bool.true_eq_false, Bool.false_eq_true, reduceCtorEq, Bool.and_self, Bool.or_self, Int.reduceBEq, Int.reduceBNe, Int.reduceNeg, decide_true, decide_false, Int.reduceLT, Int.reduceLE, Int.reduceGT]; done) | skip
                refine bn_all [2, 3, 4, 900] ⟨.refl _, ?_, .refl _, .refl _, trivial⟩ ?_
                · refine .cellsL (.cons (ple_slice (by show k - (i * t.nc + j) - 1 = k - (i * t.nc + (j + 1)); omega) fun x hx => ?_) .nil)
                  show pairL (p (i * t.nc + j + (x + 1))) = pairL (p (i * t.nc + (j + 1) + x))
                  rw [show i * t.nc + j + (x + 1) = i * t.nc + (j + 1) + x by omega]
                intro s hO
                obtain ⟨n2, n3, n4, n900, _⟩ := hO
                refine ble_none (eb_none fun hk => ?_) (look_none n2 (look_none n3 (look_none n4 (look_none n900 (rfl)))))
                have hs : s < 1000 := keepQ_lt hk
                repeat' first | (exact rfl) | (exact look_none n2 (look_none n3 (look_none n4 (look_none n900 (look_none (show s ≠ 1005 by omega) (look_none (show s ≠ 1036 by omega) (rfl))))))) | (exact look_none n2 (look_none n3 (look_none n4 (look_none n900 (rfl))))) | (refine upd_none n2 ?_) | (refine upd_none n3 ?_) | (refine upd_none n4 ?_) | (refine upd_none n900 ?_) | (refine upd_none (show s ≠ 1005 by omega) ?_) | (refine upd_none (show s ≠ 1036 by omega) ?_) | (refine cut_none' fun _ => ?_) | (refine eb_none fun _ => ?_)
              · have hdn : (!(conP (t.n + 1) (fun y2 => rngOf (rngL (roomsM t (t.b.lo + (i : Nat)) (t.c.lo + (j : Nat)) y2))) (p (i * t.nc + j)).1 (p (i * t.nc + j)).2)) = true := by rw [ex, hd]; rfl
                have hA2 : shA t p = false := allN_f hib (allN_f hjc hd)
                exact absurd (hA.symm.trans hA2) (by decide)
        · have hjc : j = t.nc := by
            have : ¬ (t.c.lo + (j : Int) ≤ t.c.hi) := of_decide_eq_false h2
            omega
          subst hjc
          have em : (i + 1) * t.nc = i * t.nc + t.nc := Nat.succ_mul ..
          have hQ5 : ∀ x, x < i + 1 → shB t p x = true := fun x hx => by
            rcases Nat.lt_succ_iff_lt_or_eq.1 hx with h | rfl
            · exact hQ x h
            · exact allN_t hQ2
          repeat' first | (exact PLe.refl _) | (exact BLe.refl _) | (exact PLeL.nil) | (exact BLeL.nil) | (refine ⟨?_, ?_⟩) | (refine PLeL.cons ?_ ?_) | (refine BLeL.cons ?_ ?_) | (refine ple_int ?_) | (refine ple_bool ?_) | (refine ple_tt ?_) | (refine ple_ff ?_) | (refine PLe.aggL ?_) | (refine PLe.tupL ?_) | (refine BLe.cellsL ?_) | (refine next_rngO (off := 1000) (cn := cntF 3 t.b.lo) rfl (fun m => by show (t.b.lo + (m : Int) - t.b.lo).toNat = m; omega) hib hQ5 (.mk ?_ ?_)) | (refine fun h => absurd h (by decide)) | (refine fun (h : @Eq Bool _ _) => ?_)
          all_goals first | trivial | rfl | omega | (exact e1) | skip
          refine bn_all [2, 3, 4, 900] ⟨.refl _, ?_, .refl _, .refl _, trivial⟩ ?_
          · exact .cellsL (.cons (ple_slice (by rw [em]) fun x hx => by rw [em]) .nil)
          intro s hO
          obtain ⟨n2, n3, n4, n900, _⟩ := hO
          refine ble_none (eb_none fun hk => ?_) (look_none n2 (look_none n3 (look_none n4 (look_none n900 (rfl)))))
          have hs : s < 1000 := keepQ_lt hk
          repeat' first | (exact rfl) | (exact look_none n2 (look_none n3 (look_none n4 (look_none n900 (rfl))))) | (refine upd_none n2 ?_) | (refine upd_none n3 ?_) | (refine upd_none n4 ?_) | (refine upd_none n900 ?_) | (refine cut_none' fun _ => ?_) | (refine eb_none fun _ => ?_)
    · have hib : i = t.nb := by
        have : ¬ (t.b.lo + (i : Int) ≤ t.b.hi) := of_decide_eq_false h1
        omega
      subst hib
      have hA2 : shA t p = true := allN_t hQ
      repeat' first | (exact PLe.refl _) | (exact BLe.refl _) | (exact PLeL.nil) | (exact BLeL.nil) | (refine ⟨?_, ?_⟩) | (refine PLeL.cons ?_ ?_) | (refine BLeL.cons ?_ ?_) | (refine ple_int ?_) | (refine ple_bool ?_) | (refine ple_tt ?_) | (refine ple_ff ?_) | (refine PLe.aggL ?_) | (refine PLe.tupL ?_) | (refine BLe.cellsL ?_) | (refine fun h => absurd h (by decide)) | (refine fun (h : @Eq Bool _ _) => ?_)
      all_goals first | trivial | rfl | omega | skip
set_option maxRecDepth 20000 in
set_option maxHeartbeats 3000000 in
theorem provesF (t : Tst) (hok : okT t) (k : Nat) (p : Nat → Int × Int) (hk : k = t.nb * t.nc) (hA : shA t p = false) : SF Try.prog 39 (V.atS [.agg (tstC t), .slice none k fun x => pairL (p x)] (.bool false)) := by
  refine sf_gen types_ok mixed (l := [(19, V.atS [.agg (tstC t)] (I 0)), (88, roomsFS), (91, isConS), (73, countS)]) ⟨(by have := c19 t (by have := hok.n; omega); rw [tfE_okT hok] at this; exact this), sf88, sf91, sf73, trivial⟩ (es := []) trivial (its := [(121, 900, 1000, 2000, it121)]) ⟨si121, trivial⟩ (fr := []) trivial [] [] false [] [] 2 Try.func39 rfl (by kernel_rfl) fun args h => ?_
  have h : args = _ := h
  subst h
  refine ⟨rfl, ?_⟩
  show evalCode _ _ _ fun o => match o with
    | .normal st | .ret st => withP _ (_ ∧ PLe _ (.bool false))
    | _ => False
  have hb := hok.b
  have hc := hok.c
  have hn := hok.n
  have hnb : t.nb ≤ 40 := by unfold Tst.nb; omega
  have hnc : t.nc ≤ 40 := by unfold Tst.nc; omega
  have ebn : t.b.lo + (t.nb : Int) = t.b.hi + 1 := by unfold Tst.nb; omega
  have ecn : t.c.lo + (t.nc : Int) = t.c.hi + 1 := by unfold Tst.nc; omega
  have hk16 : k ≤ 1600 := by rw [hk]; exact Nat.le_trans (Nat.mul_le_mul hnb hnc) (by omega)
  have eb : w (w (t.b.hi - t.b.lo) + 1) = (t.nb : Int) := by rw [wi (n := t.b.hi - t.b.lo) (by omega), wi (by omega)]; omega
  have ec : w (w (t.c.hi - t.c.lo) + 1) = (t.nc : Int) := by rw [wi (n := t.c.hi - t.c.lo) (by omega), wi (by omega)]; omega
  have ek : IntKind.i64.wrap (w (w (t.b.hi - t.b.lo) + 1) * w (w (t.c.hi - t.c.lo) + 1)) = (k : Int) := by
    rw [eb, ec, show (t.nb : Int) * (t.nc : Int) = (k : Int) by rw [hk]; exact (Int.natCast_mul ..).symm]
    exact wi (by omega)
  repeat' first | (refine Halt.mk ⟨[], ?_⟩; refine ⟨rfl, fun L => ⟨rfl, ?_⟩⟩; refine halt_rngO 1000 (cntF 3 t.b.lo) t.nb [0, 1, 3] [] (fun i => [.yld L, .cptr (tstC t), I (t.b.lo + (i : Nat))]) (fun i => [(2, .cells (tstC t)), (3, .cells [.slice none (k - (i * t.nc)) (fun x => pairL (p ((i * t.nc) + x)))]), (4, .cells [.ff]), (900, .jmp .ready)]) (fun i => ∀ x, x < i → shB t p x = true) rfl (.mk ?_ ?_) (fun x hx => absurd hx (Nat.not_lt_zero x)) ?_) | (exact PLe.refl _) | (exact BLe.refl _) | (exact PLeL.nil) | (exact BLeL.nil) | (refine ⟨?_, ?_⟩) | (refine PLeL.cons ?_ ?_) | (refine BLeL.cons ?_ ?_) | (refine ple_int ?_) | (refine ple_bool ?_) | (refine ple_tt ?_) | (refine ple_ff ?_) | (refine PLe.aggL ?_) | (refine PLe.tupL ?_) | (refine BLe.cellsL ?_) | (refine fun h => absurd h (by decide)) | (refine fun h => ?_; exfalso; simp only [ek, Int.toNat_natCast, Bool.cond_true_left, Bool.cond_false_right, Bool.cond_true_right, Bool.cond_false_left, cond_true, cond_false, Bool.not_true, Bool.not_false, Bool.not_not, Bool.and_true, Bool.true_and, Bool.and_false, Bool.false_and, Bool.or_true, Bool.true_or, Bool.or_false, Bool.false_or, beq_self_eq_true, bne_self_eq_false, Bool.true_eq_false, Bool.false_eq_true, reduceCtorEq, Bool.and_self, Bool.or_self, Int.reduceBEq, Int.reduceBNe, Int.reduceNeg, decide_true, decide_false, Int.reduceLT, Int.reduceLE, Int.reduceGT] at h; done) | (refine fun (h : @Eq Bool _ _) => ?_)
  all_goals first | trivial | rfl | omega | (simp only [ek, Int.toNat_natCast, Bool.cond_true_left, Bool.cond_false_right, Bool.cond_true_right, Bool.cond_false_left, cond_true, cond_false, Bool.not_true, Bool.not_false, Bool.not_not, Bool.and_true, Bool.true_and, Bool.and_false, Bool.false_and, Bool.or_true, Bool.true_or, Bool.or_false, Bool.false_or, beq_self_eq_true, bne_self_eq_false, Bool.true_eq_false, Bool.false_eq_true, reduceCtorEq, Bool.and_self, Bool.or_self, Int.reduceBEq, Int.reduceBNe, Int.reduceNeg, decide_true, decide_false, Int.reduceLT, Int.reduceLE, Int.reduceGT]; done) | (show @Eq Bool _ _; simp only [ek, Int.toNat_natCast, Bool.cond_true_left, Bool.cond_false_right, Bool.cond_true_right, Bool.cond_false_left, cond_true, cond_false, Bool.not_true, Bool.not_false, Bool.not_not, Bool.and_true, Bool.true_and, Bool.and_false, Bool.false_and, Bool.or_true, Bool.true_or, Bool.or_false, Bool.false_or, beq_self_eq_true, bne_self_eq_false, Bool.true_eq_false, Bool.false_eq_true, reduceCtorEq, Bool.and_self, Bool.or_self, Int.reduceBEq, Int.reduceBNe, Int.reduceNeg, decide_true, decide_false, Int.reduceLT, Int.reduceLE, Int.reduceGT]; done) | skip
  · refine bn_all [2, 3, 4, 900] ⟨.refl _, ?_, .refl _, .refl _, trivial⟩ ?_
    · exact .cellsL (.cons (ple_slice (by rw [Nat.zero_mul]; rfl) fun x hx => by rw [Nat.zero_mul, Nat.zero_add]) .nil)
    intro s hO
    obtain ⟨n2, n3, n4, n900, _⟩ := hO
    refine ble_none (eb_none fun hk => ?_) (look_none n2 (look_none n3 (look_none n4 (look_none n900 (rfl)))))
    have hs : s < 1000 := keepQ_lt hk
    repeat' first | (exact rfl) | (exact look_none n2 (look_none n3 (look_none n4 (look_none n900 (rfl))))) | (refine upd_none n2 ?_) | (refine upd_none n3 ?_) | (refine upd_none n4 ?_) | (refine upd_none n900 ?_) | (refine cut_none' fun _ => ?_) | (refine eb_none fun _ => ?_)
  · intro i hi hQ
    refine ⟨fun h1 => ?_, fun h1 => ?_⟩
    · have h1 : t.b.lo + (i : Int) ≤ t.b.hi := of_decide_eq_true h1
      have hib : i < t.nb := by unfold Tst.nb; omega
      have e1 : IntKind.i64.wrap (t.b.lo + (i : Int) + 1) = t.b.lo + ((i + 1 : Nat) : Int) := by rw [w64 (by omega) (by omega)]; omega
      refine halt_rngO 1000 (cntF 4 t.c.lo) t.nc [0, 1, 3, 4] [] (fun j => [.yld L, .cptr (tstC t), I (t.b.lo + (i : Nat)), I (t.c.lo + (j : Nat))]) (fun j => [(2, .cells (tstC t)), (3, .cells [.slice none (k - (i * t.nc + j)) (fun x => pairL (p ((i * t.nc + j) + x)))]), (4, .cells [.ff]), (900, .jmp .ready)]) (fun j => ∀ x, x < j → conB t (t.b.lo + (i : Nat)) (t.c.lo + (x : Nat)) (p (i * t.nc + x)).1 (p (i * t.nc + x)).2 = true) rfl (.mk ?_ ?_) (fun x hx => absurd hx (Nat.not_lt_zero x)) ?_
      · exact .cons (.refl _) (.cons (.refl _) (.cons (.refl _) (.cons (ple_int (by simp)) .nil)))
      · refine bn_all [2, 3, 4, 900] ⟨.refl _, .refl _, .refl _, .refl _, trivial⟩ ?_
        intro s hO
        obtain ⟨n2, n3, n4, n900, _⟩ := hO
        refine ble_none (eb_none fun hk => ?_) (look_none n2 (look_none n3 (look_none n4 (look_none n900 (rfl)))))
        have hs : s < 1000 := keepQ_lt hk
        repeat' first | (exact rfl) | (exact look_none n2 (look_none n3 (look_none n4 (look_none n900 (rfl))))) | (refine upd_none n2 ?_) | (refine upd_none n3 ?_) | (refine upd_none n4 ?_) | (refine upd_none n900 ?_) | (refine cut_none' fun _ => ?_) | (refine eb_none fun _ => ?_)
      · intro j hj hQ2
        refine ⟨fun h2 => ?_, fun h2 => ?_⟩
        · have h2 : t.c.lo + (j : Int) ≤ t.c.hi := of_decide_eq_true h2
          have hjc : j < t.nc := by unfold Tst.nc; omega
          have e2 : IntKind.i64.wrap (t.c.lo + (j : Int) + 1) = t.c.lo + ((j + 1 : Nat) : Int) := by rw [w64 (by omega) (by omega)]; omega
          have hm : i * t.nc + j < k := by rw [hk]; exact lt_mul hib hjc
          refine halt_rngO 1000 (cnt 40) t.n [0, 1, 3, 4, 5, 6, 7, 38, 39, 40] [1005, 1036] (fun k => [.yld L, .cptr (tstC t), I (t.b.lo + (i : Nat)), I (t.c.lo + (j : Nat)), .ptr 1005 0, .fn (.func 122) [] [.ptr 1005 0], .slice (some 1036) (k + 1) (fun x => rngL (roomsM t (t.b.lo + (i : Nat)) (t.c.lo + (j : Nat)) x)), .slice none t.n fun x => stpL (t.s x), I t.n, I k])
            (fun q => [(2, .cells (tstC t)), (3, .cells [.slice none (k - (i * t.nc + j)) (fun x => pairL (p ((i * t.nc + j) + x)))]), (4, .cells [.ff]), (900, .jmp .ready)] ++ [(1005, .cells [I 0, I (t.b.lo + (i : Nat)), I (t.c.lo + (j : Nat))]), (1036, .grow (q + 1) 32 2)]) (fun _ => True) rfl (.mk ?_ ?_) trivial ?_
          · refine .cons (.refl _) (.cons (.refl _) (.cons (.refl _) (.cons (.refl _) (.cons (.refl _) (.cons (.refl _) (.cons (ple_slice rfl fun x hx => ?_) (.cons (.refl _) (.cons (.refl _) (.cons (.refl _) .nil)))))))))
            have hx : x < 1 := hx
            obtain rfl : x = 0 := by omega
            rfl
          · refine bn_all [2, 3, 4, 900, 1005, 1036] ⟨.refl _, .refl _, .refl _, .refl _, .refl _, .refl _, trivial⟩ ?_
            intro s hO
            obtain ⟨n2, n3, n4, n900, n1005, n1036, _⟩ := hO
            refine ble_none (eb_none fun hk => ?_) (look_none n2 (look_none n3 (look_none n4 (look_none n900 (look_none n1005 (look_none n1036 (rfl)))))))
            have hs : s < 1000 := keepQ_off hk (by simp only [List.mem_cons, List.not_mem_nil, or_false]; rintro k (rfl | rfl) <;> assumption)
            repeat' first | (exact rfl) | (exact look_none n2 (look_none n3 (look_none n4 (look_none n900 (rfl))))) | (exact look_none n2 (look_none n3 (look_none n4 (look_none n900 (look_none n1005 (look_none n1036 (rfl))))))) | (refine upd_none n2 ?_) | (refine upd_none n3 ?_) | (refine upd_none n4 ?_) | (refine upd_none n900 ?_) | (refine upd_none n1005 ?_) | (refine upd_none n1036 ?_) | (refine cut_none' fun _ => ?_) | (refine eb_none fun _ => ?_)
          · intro q hq _
            refine ⟨fun h3 => ?_, fun h3 => ?_⟩
            · have hkn : q < t.n := by simpa using h3
              have e3 := succ_w (m := q) (n := t.n) hkn (by omega)
              clear h3
              repeat' first | (exact PLe.refl _) | (exact BLe.refl _) | (exact PLeL.nil) | (exact BLeL.nil) | (refine ⟨?_, ?_⟩) | (refine PLeL.cons ?_ ?_) | (refine BLeL.cons ?_ ?_) | (refine ple_int ?_) | (refine ple_bool ?_) | (refine ple_tt ?_) | (refine ple_ff ?_) | (refine PLe.aggL ?_) | (refine PLe.tupL ?_) | (refine BLe.cellsL ?_) | (refine next_rngO (off := 1000) (cn := cnt 40) rfl (fun _ => rfl) hkn trivial (.mk ?_ ?_)) | (refine fun h => absurd h (by decide)) | (refine fun (h : @Eq Bool _ _) => ?_)
              all_goals first | trivial | rfl | omega | (exact e3) | (exact rng_len) | (show (q + 1 + 1) * 16 ≤ 140737488355328; omega) | (intro x hx; obtain rfl : x = 0 := (by omega); exact ⟨rfl, rfl⟩) | skip
              · show PLe (.slice (some 1036) (q + 1 + 1) _) _
                refine ple_slice rfl fun x hx => ?_
                by_cases hxk : x < q + 1
                · rw [blt_t hxk]; rfl
                · obtain rfl : x = q + 1 := by omega
                  rw [blt_f hxk, Nat.sub_self]; rfl
              · refine bn_all [2, 3, 4, 900, 1005, 1036] ⟨.refl _, .refl _, .refl _, .refl _, .refl _, .refl _, trivial⟩ ?_
                intro s hO
                obtain ⟨n2, n3, n4, n900, n1005, n1036, _⟩ := hO
                refine ble_none (eb_none fun hk => ?_) (look_none n2 (look_none n3 (look_none n4 (look_none n900 (look_none n1005 (look_none n1036 (rfl)))))))
                have hs : s < 1000 := keepQ_off hk (by simp only [List.mem_cons, List.not_mem_nil, or_false]; rintro k (rfl | rfl) <;> assumption)
                repeat' first | (exact rfl) | (exact look_none n2 (look_none n3 (look_none n4 (look_none n900 (look_none n1005 (look_none n1036 (rfl))))))) | (refine upd_none n2 ?_) | (refine upd_none n3 ?_) | (refine upd_none n4 ?_) | (refine upd_none n900 ?_) | (refine upd_none n1005 ?_) | (refine upd_none n1036 ?_) | (refine upd_none (show s ≠ 1009 by omega) ?_) | (refine cut_none' fun _ => ?_) | (refine eb_none fun _ => ?_)
            · have hk2 : q = t.n := by
                have : ¬ ((q : Int) < t.n) := of_decide_eq_false h3
                omega
              subst hk2
              clear h3
              have hL : isL rngL (t.n + 1) (fun x => rngL (roomsM t (t.b.lo + (i : Nat)) (t.c.lo + (j : Nat)) x)) := .mk (roomsM t (t.b.lo + (i : Nat)) (t.c.lo + (j : Nat))) (by omega) rfl
              have hlen3 : ∀ x, x < k - (i * t.nc + j) → (pairL (p (i * t.nc + j + x))).length = ti67.size := fun _ _ => rfl
              have ex := conP_eq (t := t) hn (t.b.lo + (i : Nat)) (t.c.lo + (j : Nat)) (p (i * t.nc + j)).1 (p (i * t.nc + j)).2
              refine (Bool.eq_false_or_eq_true (conB t (t.b.lo + (i : Nat)) (t.c.lo + (j : Nat)) (p (i * t.nc + j)).1 (p (i * t.nc + j)).2)).elim (fun hd => ?_) fun hd => ?_
              · have hdn : (!(conP (t.n + 1) (fun y2 => rngOf (rngL (roomsM t (t.b.lo + (i : Nat)) (t.c.lo + (j : Nat)) y2))) (p (i * t.nc + j)).1 (p (i * t.nc + j)).2)) = false := by rw [ex, hd]; rfl
                have hQ5 : ∀ x, x < j + 1 → conB t (t.b.lo + (i : Nat)) (t.c.lo + (x : Nat)) (p (i * t.nc + x)).1 (p (i * t.nc + x)).2 = true := fun x hx => by
                  rcases Nat.lt_succ_iff_lt_or_eq.1 hx with h | rfl
                  · exact hQ2 x h
                  · exact hd
                repeat' first | (refine fun h => absurd (h.symm.trans hdn) (by decide)) | (exact PLe.refl _) | (exact BLe.refl _) | (exact PLeL.nil) | (exact BLeL.nil) | (refine ⟨?_, ?_⟩) | (refine PLeL.cons ?_ ?_) | (refine BLeL.cons ?_ ?_) | (refine ple_int ?_) | (refine ple_bool ?_) | (refine ple_tt ?_) | (refine ple_ff ?_) | (refine PLe.aggL ?_) | (refine PLe.tupL ?_) | (refine BLe.cellsL ?_) | (refine next_rngO (off := 1000) (cn := cntF 4 t.c.lo) rfl (fun m => by show (t.c.lo + (m : Int) - t.c.lo).toNat = m; omega) hjc hQ5 (.mk ?_ ?_)) | (refine fun h => absurd h (by decide)) | (refine fun h => ?_; exfalso; simp only [hdn, Int.toNat_natCast, Bool.cond_true_left, Bool.cond_false_right, Bool.cond_true_right, Bool.cond_false_left, cond_true, cond_false, Bool.not_true, Bool.not_false, Bool.not_not, Bool.and_true, Bool.true_and, Bool.and_false, Bool.false_and, Bool.or_true, Bool.true_or, Bool.or_false, Bool.false_or, beq_self_eq_true, bne_self_eq_false, Bool.true_eq_false, Bool.false_eq_true, reduceCtorEq, Bool.and_self, Bool.or_self, Int.reduceBEq, Int.reduceBNe, Int.reduceNeg, decide_true, decide_false, Int.reduceLT, Int.reduceLE, Int.reduceGT] at h; done) | (refine fun (h : @Eq Bool _ _) => ?_)
                all_goals first | trivial | rfl | omega | (exact e2) | (exact hL) | (exact hlen3) | (show (0 : Int) < ((k - (i * t.nc + j) : Nat) : Int); omega) | (show (1 : Int) ≤ ((k - (i * t.nc + j) : Nat) : Int); omega) | (simp only [hdn, Int.toNat_natCast, Bool.cond_true_left, Bool.cond_false_right, Bool.cond_true_right, Bool.cond_false_left, cond_true, cond_false, Bool.not_true, Bool.not_false, Bool.not_not, Bool.and_true, Bool.true_and, Bool.and_false, Bool.false_and, Bool.or_true, Bool.true_or, Bool.or_false, Bool.false_or, beq_self_eq_true, bne_self_eq_false, Bool.true_eq_false, Bool.false_eq_true, reduceCtorEq, Bool.and_self, Bool.or_self, Int.reduceBEq, Int.reduceBNe, Int.reduceNeg, decide_true, decide_false, Int.reduceLT, Int.reduceLE, Int.reduceGT]; done) | (show @Eq Bool _ _; simp only [hdn, Int.toNat_natCast, Bool.cond_true_left, Bool.cond_false_right, Bool.cond_true_right, Bool.cond_false_left, cond_true, cond_false, Bool.not_true, Bool.not_false, Bool.not_not, Bool.and_true, Bool.true_and, Bool.and_false, Bool.false_and, Bool.or_true, Bool.true_or, Bool.or_false, Bool.false_or, beq_self_eq_true, bne_self_eq_false, Bool.true_eq_false, Bool.false_eq_true, reduceCtorEq, Bool.and_self, Bool.or_self, Int.reduceBEq, Int.reduceBNe, Int.reduceNeg, decide_true, decide_false, Int.reduceLT, Int.reduceLE, Int.reduceGT]; done) | skip
                refine bn_all [2, 3, 4, 900] ⟨.refl _, ?_, .refl _, .refl _, trivial⟩ ?_
                · refine .cellsL (.cons (ple_slice (by show k - (i * t.nc + j) - 1 = k - (i * t.nc + (j + 1)); omega) fun x hx => ?_) .nil)
                  show pairL (p (i * t.nc + j + (x + 1))) = pairL (p (i * t.nc + (j + 1) + x))
                  rw [show i * t.nc + j + (x + 1) = i * t.nc + (j + 1) + x by omega]
                intro s hO
                obtain ⟨n2, n3, n4, n900, _⟩ := hO
                refine ble_none (eb_none fun hk => ?_) (look_none n2 (look_none n3 (look_none n4 (look_none n900 (rfl)))))
                have hs : s < 1000 := keepQ_lt hk
                repeat' first | (exact rfl) | (exact look_none n2 (look_none n3 (look_none n4 (look_none n900 (look_none (show s ≠ 1005 by omega) (look_none (show s ≠ 1036 by omega) (rfl))))))) | (exact look_none n2 (look_none n3 (look_none n4 (look_none n900 (rfl))))) | (refine upd_none n2 ?_) | (refine upd_none n3 ?_) | (refine upd_none n4 ?_) | (refine upd_none n900 ?_) | (refine upd_none (show s ≠ 1005 by omega) ?_) | (refine upd_none (show s ≠ 1036 by omega) ?_) | (refine cut_none' fun _ => ?_) | (refine eb_none fun _ => ?_)
              · have hdn : (!(conP (t.n + 1) (fun y2 => rngOf (rngL (roomsM t (t.b.lo + (i : Nat)) (t.c.lo + (j : Nat)) y2))) (p (i * t.nc + j)).1 (p (i * t.nc + j)).2)) = true := by rw [ex, hd]; rfl
                have hA2 : shA t p = false := allN_f hib (allN_f hjc hd)
                repeat' first | (refine fun h => absurd (h.symm.trans hdn) (by decide)) | (exact PLe.refl _) | (exact BLe.refl _) | (exact PLeL.nil) | (exact BLeL.nil) | (refine ⟨?_, ?_⟩) | (refine PLeL.cons ?_ ?_) | (refine BLeL.cons ?_ ?_) | (refine ple_int ?_) | (refine ple_bool ?_) | (refine ple_tt ?_) | (refine ple_ff ?_) | (refine PLe.aggL ?_) | (refine PLe.tupL ?_) | (refine BLe.cellsL ?_) | (refine fun h => absurd h (by decide)) | (refine fun h => ?_; exfalso; simp only [hdn, Int.toNat_natCast, Bool.cond_true_left, Bool.cond_false_right, Bool.cond_true_right, Bool.cond_false_left, cond_true, cond_false, Bool.not_true, Bool.not_false, Bool.not_not, Bool.and_true, Bool.true_and, Bool.and_false, Bool.false_and, Bool.or_true, Bool.true_or, Bool.or_false, Bool.false_or, beq_self_eq_true, bne_self_eq_false, Bool.true_eq_false, Bool.false_eq_true, reduceCtorEq, Bool.and_self, Bool.or_self, Int.reduceBEq, Int.reduceBNe, Int.reduceNeg, decide_true, decide_false, Int.reduceLT, Int.reduceLE, Int.reduceGT] at h; done) | (refine fun (h : @Eq Bool _ _) => ?_)
                all_goals first | trivial | rfl | omega | (exact hL) | (exact hlen3) | (show (0 : Int) < ((k - (i * t.nc + j) : Nat) : Int); omega) | (simp only [hdn, Int.toNat_natCast, Bool.cond_true_left, Bool.cond_false_right, Bool.cond_true_right, Bool.cond_false_left, cond_true, cond_false, Bool.not_true, Bool.not_false, Bool.not_not, Bool.and_true, Bool.true_and, Bool.and_false, Bool.false_and, Bool.or_true, Bool.true_or, Bool.or_false, Bool.false_or, beq_self_eq_true, bne_self_eq_false, Bool.true_eq_false, Bool.false_eq_true, reduceCtorEq, Bool.and_self, Bool.or_self, Int.reduceBEq, Int.reduceBNe, Int.reduceNeg, decide_true, decide_false, Int.reduceLT, Int.reduceLE, Int.reduceGT]; done) | (show @Eq Bool _ _; simp only [hdn, Int.toNat_natCast, Bool.cond_true_left, Bool.cond_false_right, Bool.cond_true_right, Bool.cond_false_left, cond_true, cond_false, Bool.not_true, Bool.not_false, Bool.not_not, Bool.and_true, Bool.true_and, Bool.and_false, Bool.false_and, Bool.or_true, Bool.true_or, Bool.or_false, Bool.false_or, beq_self_eq_true, bne_self_eq_false, Bool.true_eq_false, Bool.false_eq_true, reduceCtorEq, Bool.and_self, Bool.or_self, Int.reduceBEq, Int.reduceBNe, Int.reduceNeg, decide_true, decide_false, Int.reduceLT, Int.reduceLE, Int.reduceGT]; done) | skip
        · have hjc : j = t.nc := by
            have : ¬ (t.c.lo + (j : Int) ≤ t.c.hi) := of_decide_eq_false h2
            omega
          subst hjc
          have em : (i + 1) * t.nc = i * t.nc + t.nc := Nat.succ_mul ..
          have hQ5 : ∀ x, x < i + 1 → shB t p x = true := fun x hx => by
            rcases Nat.lt_succ_iff_lt_or_eq.1 hx with h | rfl
            · exact hQ x h
            · exact allN_t hQ2
          repeat' first | (exact PLe.refl _) | (exact BLe.refl _) | (exact PLeL.nil) | (exact BLeL.nil) | (refine ⟨?_, ?_⟩) | (refine PLeL.cons ?_ ?_) | (refine BLeL.cons ?_ ?_) | (refine ple_int ?_) | (refine ple_bool ?_) | (refine ple_tt ?_) | (refine ple_ff ?_) | (refine PLe.aggL ?_) | (refine PLe.tupL ?_) | (refine BLe.cellsL ?_) | (refine next_rngO (off := 1000) (cn := cntF 3 t.b.lo) rfl (fun m => by show (t.b.lo + (m : Int) - t.b.lo).toNat = m; omega) hib hQ5 (.mk ?_ ?_)) | (refine fun h => absurd h (by decide)) | (refine fun (h : @Eq Bool _ _) => ?_)
          all_goals first | trivial | rfl | omega | (exact e1) | skip
          refine bn_all [2, 3, 4, 900] ⟨.refl _, ?_, .refl _, .refl _, trivial⟩ ?_
          · exact .cellsL (.cons (ple_slice (by rw [em]) fun x hx => by rw [em]) .nil)
          intro s hO
          obtain ⟨n2, n3, n4, n900, _⟩ := hO
          refine ble_none (eb_none fun hk => ?_) (look_none n2 (look_none n3 (look_none n4 (look_none n900 (rfl)))))
          have hs : s < 1000 := keepQ_lt hk
          repeat' first | (exact rfl) | (exact look_none n2 (look_none n3 (look_none n4 (look_none n900 (rfl))))) | (refine upd_none n2 ?_) | (refine upd_none n3 ?_) | (refine upd_none n4 ?_) | (refine upd_none n900 ?_) | (refine cut_none' fun _ => ?_) | (refine eb_none fun _ => ?_)
    · have hib : i = t.nb := by
        have : ¬ (t.b.lo + (i : Int) ≤ t.b.hi) := of_decide_eq_false h1
        omega
      subst hib
      have hA2 : shA t p = true := allN_t hQ
      exact absurd (hA.symm.trans hA2) (by decide)
set_option maxRecDepth 20000 in
set_option maxHeartbeats 2000000 in
theorem provesE (t : Tst) (hn : t.n ≤ 100) (k : Nat) (p : Nat → Int × Int) (p1 : (tfE t != 0) = true) : SF Try.prog 39 (V.atS [.agg (tstC t), .slice none k fun x => pairL (p x)] (.bool false)) := by
  refine sf_gen types_ok mixed (l := [(19, V.atS [.agg (tstC t)] (I (tfE t))), (73, countS)]) ⟨(by have := c19 t hn; exact this), sf73, trivial⟩ (es := []) trivial (its := []) trivial (fr := []) trivial [] [] false [] [] 2 Try.func39 rfl (by kernel_rfl) fun args h => ?_
  have h : args = _ := h
  subst h
  refine ⟨rfl, ?_⟩
  show evalCode _ _ _ fun o => match o with
    | .normal st | .ret st => withP _ (_ ∧ PLe _ (.bool false))
    | _ => False
  repeat' first | (exact PLe.refl _) | (exact BLe.refl _) | (exact PLeL.nil) | (exact BLeL.nil) | (refine ⟨?_, ?_⟩) | (refine PLeL.cons ?_ ?_) | (refine BLeL.cons ?_ ?_) | (refine ple_int ?_) | (refine ple_bool ?_) | (refine ple_tt ?_) | (refine ple_ff ?_) | (refine PLe.aggL ?_) | (refine PLe.tupL ?_) | (refine BLe.cellsL ?_) | (refine fun h => absurd h (by decide)) | (refine fun h => ?_; exfalso; simp only [p1, Int.toNat_natCast, Bool.cond_true_left, Bool.cond_false_right, Bool.cond_true_right, Bool.cond_false_left, cond_true, cond_false, Bool.not_true, Bool.not_false, Bool.not_not, Bool.and_true, Bool.true_and, Bool.and_false, Bool.false_and, Bool.or_true, Bool.true_or, Bool.or_false, Bool.false_or, beq_self_eq_true, bne_self_eq_false, Bool.true_eq_false, Bool.false_eq_true, reduceCtorEq, Bool.and_self, Bool.or_self, Int.reduceBEq, Int.reduceBNe, Int.reduceNeg, decide_true, decide_false, Int.reduceLT, Int.reduceLE, Int.reduceGT] at h; done) | (refine fun (h : @Eq Bool _ _) => ?_)
  all_goals first | trivial | rfl | omega | (simp only [p1, Int.toNat_natCast, Bool.cond_true_left, Bool.cond_false_right, Bool.cond_true_right, Bool.cond_false_left, cond_true, cond_false, Bool.not_true, Bool.not_false, Bool.not_not, Bool.and_true, Bool.true_and, Bool.and_false, Bool.false_and, Bool.or_true, Bool.true_or, Bool.or_false, Bool.false_or, beq_self_eq_true, bne_self_eq_false, Bool.true_eq_false, Bool.false_eq_true, reduceCtorEq, Bool.and_self, Bool.or_self, Int.reduceBEq, Int.reduceBNe, Int.reduceNeg, decide_true, decide_false, Int.reduceLT, Int.reduceLE, Int.reduceGT]; done) | (show @Eq Bool _ _; simp only [p1, Int.toNat_natCast, Bool.cond_true_left, Bool.cond_false_right, Bool.cond_true_right, Bool.cond_false_left, cond_true, cond_false, Bool.not_true, Bool.not_false, Bool.not_not, Bool.and_true, Bool.true_and, Bool.and_false, Bool.false_and, Bool.or_true, Bool.true_or, Bool.or_false, Bool.false_or, beq_self_eq_true, bne_self_eq_false, Bool.true_eq_false, Bool.false_eq_true, reduceCtorEq, Bool.and_self, Bool.or_self, Int.reduceBEq, Int.reduceBNe, Int.reduceNeg, decide_true, decide_false, Int.reduceLT, Int.reduceLE, Int.reduceGT]; done) | skip
set_option maxRecDepth 20000 in
set_option maxHeartbeats 2000000 in
theorem provesL (t : Tst) (hn : t.n ≤ 100) (k : Nat) (p : Nat → Int × Int) (hok : okT t) (hk : k ≤ 9223372036854775807) (hne : ¬ k = t.nb * t.nc) : SF Try.prog 39 (V.atS [.agg (tstC t), .slice none k fun x => pairL (p x)] (.bool false)) := by
  refine sf_gen types_ok mixed (l := [(19, V.atS [.agg (tstC t)] (I (0))), (73, countS)]) ⟨(by have := c19 t hn; rw [tfE_okT hok] at this; exact this), sf73, trivial⟩ (es := []) trivial (its := []) trivial (fr := []) trivial [] [] false [] [] 2 Try.func39 rfl (by kernel_rfl) fun args h => ?_
  have h : args = _ := h
  subst h
  refine ⟨rfl, ?_⟩
  show evalCode _ _ _ fun o => match o with
    | .normal st | .ret st => withP _ (_ ∧ PLe _ (.bool false))
    | _ => False
  have hb := hok.b
  have hc := hok.c
  have hnb : t.nb ≤ 40 := by unfold Tst.nb; omega
  have hnc : t.nc ≤ 40 := by unfold Tst.nc; omega
  have hm : t.nb * t.nc ≤ 1600 := Nat.le_trans (Nat.mul_le_mul hnb hnc) (by omega)
  have eb : w (w (t.b.hi - t.b.lo) + 1) = (t.nb : Int) := by rw [wi (n := t.b.hi - t.b.lo) (by omega), wi (by omega)]; unfold Tst.nb; omega
  have ec : w (w (t.c.hi - t.c.lo) + 1) = (t.nc : Int) := by rw [wi (n := t.c.hi - t.c.lo) (by omega), wi (by omega)]; unfold Tst.nc; omega
  have ek : ((k : Int) != IntKind.i64.wrap (w (w (t.b.hi - t.b.lo) + 1) * w (w (t.c.hi - t.c.lo) + 1))) = true := by
    rw [eb, ec, show (t.nb : Int) * (t.nc : Int) = ((t.nb * t.nc : Nat) : Int) from (Int.natCast_mul ..).symm]
    rw [show IntKind.i64.wrap ((t.nb * t.nc : Nat) : Int) = ((t.nb * t.nc : Nat) : Int) from wi (by omega)]
    rw [bne_iff_ne]
    omega
  repeat' first | (exact PLe.refl _) | (exact BLe.refl _) | (exact PLeL.nil) | (exact BLeL.nil) | (refine ⟨?_, ?_⟩) | (refine PLeL.cons ?_ ?_) | (refine BLeL.cons ?_ ?_) | (refine ple_int ?_) | (refine ple_bool ?_) | (refine ple_tt ?_) | (refine ple_ff ?_) | (refine PLe.aggL ?_) | (refine PLe.tupL ?_) | (refine BLe.cellsL ?_) | (refine fun h => absurd h (by decide)) | (refine fun h => ?_; exfalso; simp only [ek, Int.toNat_natCast, Bool.cond_true_left, Bool.cond_false_right, Bool.cond_true_right, Bool.cond_false_left, cond_true, cond_false, Bool.not_true, Bool.not_false, Bool.not_not, Bool.and_true, Bool.true_and, Bool.and_false, Bool.false_and, Bool.or_true, Bool.true_or, Bool.or_false, Bool.false_or, beq_self_eq_true, bne_self_eq_false, Bool.true_eq_false, Bool.false_eq_true, reduceCtorEq, Bool.and_self, Bool.or_self, Int.reduceBEq, Int.reduceBNe, Int.reduceNeg, decide_true, decide_false, Int.reduceLT, Int.reduceLE, Int.reduceGT] at h; done) | (refine fun (h : @Eq Bool _ _) => ?_)
  all_goals first | trivial | rfl | omega | (simp only [ek, Int.toNat_natCast, Bool.cond_true_left, Bool.cond_false_right, Bool.cond_true_right, Bool.cond_false_left, cond_true, cond_false, Bool.not_true, Bool.not_false, Bool.not_not, Bool.and_true, Bool.true_and, Bool.and_false, Bool.false_and, Bool.or_true, Bool.true_or, Bool.or_false, Bool.false_or, beq_self_eq_true, bne_self_eq_false, Bool.true_eq_false, Bool.false_eq_true, reduceCtorEq, Bool.and_self, Bool.or_self, Int.reduceBEq, Int.reduceBNe, Int.reduceNeg, decide_true, decide_false, Int.reduceLT, Int.reduceLE, Int.reduceGT]; done) | (show @Eq Bool _ _; simp only [ek, Int.toNat_natCast, Bool.cond_true_left, Bool.cond_false_right, Bool.cond_true_right, Bool.cond_false_left, cond_true, cond_false, Bool.not_true, Bool.not_false, Bool.not_not, Bool.and_true, Bool.true_and, Bool.and_false, Bool.false_and, Bool.or_true, Bool.true_or, Bool.or_false, Bool.false_or, beq_self_eq_true, bne_self_eq_false, Bool.true_eq_false, Bool.false_eq_true, reduceCtorEq, Bool.and_self, Bool.or_self, Int.reduceBEq, Int.reduceBNe, Int.reduceNeg, decide_true, decide_false, Int.reduceLT, Int.reduceLE, Int.reduceGT]; done) | skip
def prvB (t : Tst) (k : Nat) (p : Nat → Int × Int) : Bool := (tfE t == 0) && (decide (k = t.nb * t.nc) && shA t p)
theorem c39 (t : Tst) (hn : t.n ≤ 100) (k : Nat) (p : Nat → Int × Int) (hk : k ≤ 9223372036854775807) : SF Try.prog 39 (V.atS [.agg (tstC t), .slice none k fun x => pairL (p x)] (.bool (prvB t k p))) := by
  unfold prvB
  cases p1 : (tfE t == 0) with
  | false => exact provesE t hn k p (by rw [bne, p1]; rfl)
  | true =>
    have hok : okT t := tfE_ok (by simpa using p1)
    by_cases hkk : k = t.nb * t.nc
    · rw [decide_eq_true hkk]
      cases hA : shA t p with
      | true => exact provesT t hok k p hkk hA
      | false => exact provesF t hok k p hkk hA
    · rw [decide_eq_false hkk]
      exact provesL t hn k p hok hk hkk
end Go.Proofs.Ytnjhbmcambofgaa
