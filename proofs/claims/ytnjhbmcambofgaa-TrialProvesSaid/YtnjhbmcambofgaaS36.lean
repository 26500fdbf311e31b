/- Layer 4: Conflicts of the program. -/
import Derived.Test.YtnjhbmcambofgaaS35
import Derived.Test.YtnjhbmcambofgaaS24
import Derived.Test.YtnjhbmcambofgaaS25
import Derived.Test.YtnjhbmcambofgaaS26
namespace Go.Proofs.Ytnjhbmcambofgaa
open Go.V
set_option linter.unusedSimpArgs false
set_option linter.unusedVariables false

def conH (t : Tst) (b c : Int) : Bool := decide (0 ≤ fstC t b c)
def conHr (t : Tst) (i : Nat) : Bool := allN (fun j => conH t (t.b.lo + (i : Nat)) (t.c.lo + (j : Nat))) t.nc
/-- Whether all families have a conflict. -/
def allH (t : Tst) : Bool := allN (conHr t) t.nb
def conN (t : Tst) : Nat := bif allH t then (allP t t.nb).length else 0
def conE (t : Tst) : Int := bif allH t then 0 else 7
theorem roomI_rooms (t : Tst) (b c : Int) : ∀ i : Nat, roomI t b c (-1 + (i : Int)) = roomsM t b c i
  | 0 => rfl
  | k + 1 => by
    rw [show (-1 + ((k + 1 : Nat) : Int)) = Int.ofNat k by show _ = (k : Int); omega]
    show roomR b c (t.s k) = roomF 0 b c (t.s k)
    exact (room_eq b c (t.s k)).symm
theorem conAt_rooms {t : Tst} (hn : t.n ≤ 12) {b c : Int} {i j : Nat} (hi : i < t.n + 1) (hj : j < t.n + 1) : conAt t b c i j = decide ((roomsM t b c j).hi < (roomsM t b c i).lo) := by
  unfold conAt conB inRm
  rw [roomI_rooms, roomI_rooms, wi (by omega), decide_eq_true (show -1 ≤ -1 + (i : Int) ∧ -1 + (i : Int) ≤ (t.n : Int) - 1 by omega), decide_eq_true (show -1 ≤ -1 + (j : Int) ∧ -1 + (j : Int) ≤ (t.n : Int) - 1 by omega)]
  rfl
theorem fstC_t {t : Tst} {b c : Int} {i j : Nat} (hi : i < t.n + 1) (hj : j < t.n + 1) (h1 : ∀ k, k < i → decide (0 ≤ rowC t b c k) = false) (h2 : ∀ k, k < j → conAt t b c i k = false) (h3 : conAt t b c i j = true) : conH t b c = true := by
  have e1 : rowC t b c i = (j : Int) := firstN_t h2 h3 hj
  have e2 : decide (0 ≤ rowC t b c i) = true := by rw [e1]; exact decide_eq_true (by omega)
  have e3 : fstC t b c = (i : Int) := firstN_t h1 e2 hi
  unfold conH
  rw [e3]
  exact decide_eq_true (by omega)
theorem fstC_f {t : Tst} {b c : Int} (h1 : ∀ k, k < t.n + 1 → decide (0 ≤ rowC t b c k) = false) : conH t b c = false := by
  have e3 : fstC t b c = -1 := firstN_f h1
  unfold conH
  rw [e3]; rfl
set_option maxRecDepth 20000 in
set_option maxHeartbeats 16000000 in
theorem consT (t : Tst) (hok : okT t) (hA : allH t = true) : SF Try.prog 36 (V.atS [.agg (tstC t)] (.tup [.slice none (allP t t.nb).length (getP (allP t t.nb)), I 0])) := by
  refine sf_gen types_ok mixed (l := [(19, V.atS [.agg (tstC t)] (I 0)), (88, roomsFS), (89, isAboveS)]) ⟨(by have := c19 t (by have := hok.n; omega); rw [tfE_okT hok] at this; exact this), sf88, sf89, trivial⟩ (es := []) trivial (its := [(121, 900, 1000, 2000, it121)]) ⟨si121, trivial⟩ (fr := []) trivial [] [] false [] [] 1 Try.func36 rfl (by kernel_rfl) fun args h => ?_
  have h : args = _ := h
  subst h
  refine ⟨rfl, ?_⟩
  show evalCode _ _ _ fun o => match o with
    | .normal st | .ret st => withP _ (_ ∧ PLe _ (.tup [.slice none (allP t t.nb).length (getP (allP t t.nb)), I 0]))
    | _ => False
  have hb := hok.b
  have hc := hok.c
  have hn := hok.n
  have hnb : t.nb ≤ 40 := by unfold Tst.nb; omega
  have hnc : t.nc ≤ 40 := by unfold Tst.nc; omega
  have ebn : t.b.lo + (t.nb : Int) = t.b.hi + 1 := by unfold Tst.nb; omega
  have ecn : t.c.lo + (t.nc : Int) = t.c.hi + 1 := by unfold Tst.nc; omega
  have hall : ∀ i, i ≤ t.nb → (allP t i).length ≤ 1600 := fun i hi => by rw [allP_len]; exact Nat.le_trans (Nat.mul_le_mul hi hnc) (Nat.le_trans (Nat.mul_le_mul_right _ hnb) (by omega))
  repeat' first | (refine Halt.mk ⟨[(5, 0, 800, 67, 2)], ?_⟩; refine ⟨rfl, fun L => ⟨rfl, ?_⟩⟩; refine halt_rngO 1000 (cntF 3 t.b.lo) t.nb [0, 1, 3] [] (fun i => [.yld L, .cptr (tstC t), I (t.b.lo + (i : Nat))]) (fun i => [(1, .cells (tstC t)), (2, .cells [.nils]), (3, .cells [I 0]), (5, .cells [.slice (some 800) (allP t i).length (getP (allP t i))]), (800, .grow (allP t i).length 67 2), (900, .jmp .ready)]) (fun i => ∀ x, x < i → conHr t x = true) rfl (.mk ?_ ?_) (fun x hx => absurd hx (Nat.not_lt_zero x)) ?_) | (exact rfl) | (exact PLe.refl _) | (exact BLe.refl _) | (exact PLeL.nil) | (exact BLeL.nil) | (refine ⟨?_, ?_⟩) | (refine PLeL.cons ?_ ?_) | (refine BLeL.cons ?_ ?_) | (refine ple_int ?_) | (refine ple_bool ?_) | (refine ple_tt ?_) | (refine ple_ff ?_) | (refine PLe.aggL ?_) | (refine PLe.tupL ?_) | (refine BLe.cellsL ?_) | (refine fun h => absurd h (by decide)) | (refine fun (h : @Eq Bool _ _) => ?_)
  all_goals first | trivial | rfl | omega | skip
  · refine bn_all [1, 2, 3, 5, 800, 900] ⟨.refl _, .refl _, .refl _, ?_, .refl _, .refl _, trivial⟩ ?_
    · exact .cellsL (.cons (ple_slice rfl fun i hi => by cases hi) .nil)
    intro s hO
    obtain ⟨n1, n2, n3, n5, n800, n900, _⟩ := hO
    refine ble_none (eb_none fun hk => ?_) (look_none n1 (look_none n2 (look_none n3 (look_none n5 (look_none n800 (look_none n900 (rfl)))))))
    have hs : s < 1000 := keepQ_lt hk
    repeat' first | (exact rfl) | (exact look_none n1 (look_none n2 (look_none n3 (look_none n5 (look_none n800 (look_none n900 (rfl))))))) | (refine upd_none n1 ?_) | (refine upd_none n2 ?_) | (refine upd_none n3 ?_) | (refine upd_none n5 ?_) | (refine upd_none n800 ?_) | (refine upd_none n900 ?_) | (refine cut_none' fun _ => ?_) | (refine eb_none fun _ => ?_)
  · intro i hi hQ
    refine ⟨fun h1 => ?_, fun h1 => ?_⟩
    · have h1 : t.b.lo + (i : Int) ≤ t.b.hi := of_decide_eq_true h1
      have hib : i < t.nb := by unfold Tst.nb; omega
      have e1 : IntKind.i64.wrap (t.b.lo + (i : Int) + 1) = t.b.lo + ((i + 1 : Nat) : Int) := by rw [w64 (by omega) (by omega)]; omega
      refine halt_rngO 1000 (cntF 4 t.c.lo) t.nc [0, 1, 3, 4] [] (fun j => [.yld L, .cptr (tstC t), I (t.b.lo + (i : Nat)), I (t.c.lo + (j : Nat))]) (fun j => [(1, .cells (tstC t)), (2, .cells [.nils]), (3, .cells [I 0]), (5, .cells [.slice (some 800) (rowP t (t.b.lo + (i : Nat)) (allP t i) j).length (getP (rowP t (t.b.lo + (i : Nat)) (allP t i) j))]), (800, .grow (rowP t (t.b.lo + (i : Nat)) (allP t i) j).length 67 2), (900, .jmp .ready)]) (fun j => ∀ x, x < j → conH t (t.b.lo + (i : Nat)) (t.c.lo + (x : Nat)) = true) rfl (.mk ?_ ?_) (fun x hx => absurd hx (Nat.not_lt_zero x)) ?_
      · exact .cons (.refl _) (.cons (.refl _) (.cons (.refl _) (.cons (ple_int (by simp)) .nil)))
      · refine bn_all [1, 2, 3, 5, 800, 900] ⟨.refl _, .refl _, .refl _, .refl _, .refl _, .refl _, trivial⟩ ?_
        intro s hO
        obtain ⟨n1, n2, n3, n5, n800, n900, _⟩ := hO
        refine ble_none (eb_none fun hk => ?_) (look_none n1 (look_none n2 (look_none n3 (look_none n5 (look_none n800 (look_none n900 (rfl)))))))
        have hs : s < 1000 := keepQ_lt hk
        repeat' first | (exact rfl) | (exact look_none n1 (look_none n2 (look_none n3 (look_none n5 (look_none n800 (look_none n900 (rfl))))))) | (refine upd_none n1 ?_) | (refine upd_none n2 ?_) | (refine upd_none n3 ?_) | (refine upd_none n5 ?_) | (refine upd_none n800 ?_) | (refine upd_none n900 ?_) | (refine cut_none' fun _ => ?_) | (refine eb_none fun _ => ?_)
      · intro j hj hQ2
        refine ⟨fun h2 => ?_, fun h2 => ?_⟩
        · have h2 : t.c.lo + (j : Int) ≤ t.c.hi := of_decide_eq_true h2
          have hjc : j < t.nc := by unfold Tst.nc; omega
          have e2 : IntKind.i64.wrap (t.c.lo + (j : Int) + 1) = t.c.lo + ((j + 1 : Nat) : Int) := by rw [w64 (by omega) (by omega)]; omega
          have hlen : (rowP t (t.b.lo + (i : Nat)) (allP t i) j).length ≤ 1640 := by rw [rowP_len]; have := hall i (by omega); omega
          generalize hl : rowP t (t.b.lo + (i : Nat)) (allP t i) j = l at hlen
          refine halt_rngO 1000 (cnt 40) t.n [0, 1, 3, 4, 5, 6, 7, 38, 39, 40] [1005, 1036] (fun k => [.yld L, .cptr (tstC t), I (t.b.lo + (i : Nat)), I (t.c.lo + (j : Nat)), .ptr 1005 0, .fn (.func 122) [] [.ptr 1005 0], .slice (some 1036) (k + 1) (fun x => rngL (roomsM t (t.b.lo + (i : Nat)) (t.c.lo + (j : Nat)) x)), .slice none t.n fun x => stpL (t.s x), I t.n, I k])
            (fun k => [(1, .cells (tstC t)), (2, .cells [.nils]), (3, .cells [I 0]), (5, .cells [.slice (some 800) (l).length (getP (l))]), (800, .grow (l).length 67 2), (900, .jmp .ready)] ++ [(1005, .cells [I 0, I (t.b.lo + (i : Nat)), I (t.c.lo + (j : Nat))]), (1036, .grow (k + 1) 32 2)]) (fun _ => True) rfl (.mk ?_ ?_) trivial ?_
          · refine .cons (.refl _) (.cons (.refl _) (.cons (.refl _) (.cons (.refl _) (.cons (.refl _) (.cons (.refl _) (.cons (ple_slice rfl fun x hx => ?_) (.cons (.refl _) (.cons (.refl _) (.cons (.refl _) .nil)))))))))
            have hx : x < 1 := hx
            obtain rfl : x = 0 := by omega
            rfl
          · refine bn_all [1, 2, 3, 5, 800, 900, 1005, 1036] ⟨.refl _, .refl _, .refl _, .refl _, .refl _, .refl _, .refl _, .refl _, trivial⟩ ?_
            intro s hO
            obtain ⟨n1, n2, n3, n5, n800, n900, n1005, n1036, _⟩ := hO
            refine ble_none (eb_none fun hk => ?_) (look_none n1 (look_none n2 (look_none n3 (look_none n5 (look_none n800 (look_none n900 (look_none n1005 (look_none n1036 (rfl)))))))))
            have hs : s < 1000 := keepQ_off hk (by simp only [List.mem_cons, List.not_mem_nil, or_false]; rintro k (rfl | rfl) <;> assumption)
            repeat' first | (exact rfl) | (exact look_none n1 (look_none n2 (look_none n3 (look_none n5 (look_none n800 (look_none n900 (rfl))))))) | (exact look_none n1 (look_none n2 (look_none n3 (look_none n5 (look_none n800 (look_none n900 (look_none n1005 (look_none n1036 (rfl))))))))) | (refine upd_none n1 ?_) | (refine upd_none n2 ?_) | (refine upd_none n3 ?_) | (refine upd_none n5 ?_) | (refine upd_none n800 ?_) | (refine upd_none n900 ?_) | (refine upd_none n1005 ?_) | (refine upd_none n1036 ?_) | (refine cut_none' fun _ => ?_) | (refine eb_none fun _ => ?_)
          · intro k hk _
            refine ⟨fun h3 => ?_, fun h3 => ?_⟩
            · have hkn : k < t.n := by simpa using h3
              have e3 := succ_w (m := k) (n := t.n) hkn (by omega)
              clear h3
              repeat' first | (exact PLe.refl _) | (exact BLe.refl _) | (exact PLeL.nil) | (exact BLeL.nil) | (refine ⟨?_, ?_⟩) | (refine PLeL.cons ?_ ?_) | (refine BLeL.cons ?_ ?_) | (refine ple_int ?_) | (refine ple_bool ?_) | (refine ple_tt ?_) | (refine ple_ff ?_) | (refine PLe.aggL ?_) | (refine PLe.tupL ?_) | (refine BLe.cellsL ?_) | (refine next_rngO (off := 1000) (cn := cnt 40) rfl (fun _ => rfl) hkn trivial (.mk ?_ ?_)) | (refine fun h => absurd h (by decide)) | (refine fun (h : @Eq Bool _ _) => ?_)
              all_goals first | trivial | rfl | omega | (exact e3) | (exact rng_len) | (show (k + 1 + 1) * 16 ≤ 140737488355328; omega) | (intro x hx; obtain rfl : x = 0 := (by omega); exact ⟨rfl, rfl⟩) | skip
              · show PLe (.slice (some 1036) (k + 1 + 1) _) _
                refine ple_slice rfl fun x hx => ?_
                by_cases hxk : x < k + 1
                · rw [blt_t hxk]; rfl
                · obtain rfl : x = k + 1 := by omega
                  rw [blt_f hxk, Nat.sub_self]; rfl
              · refine bn_all [1, 2, 3, 5, 800, 900, 1005, 1036] ⟨.refl _, .refl _, .refl _, .refl _, .refl _, .refl _, .refl _, .refl _, trivial⟩ ?_
                intro s hO
                obtain ⟨n1, n2, n3, n5, n800, n900, n1005, n1036, _⟩ := hO
                refine ble_none (eb_none fun hk => ?_) (look_none n1 (look_none n2 (look_none n3 (look_none n5 (look_none n800 (look_none n900 (look_none n1005 (look_none n1036 (rfl)))))))))
                have hs : s < 1000 := keepQ_off hk (by simp only [List.mem_cons, List.not_mem_nil, or_false]; rintro k (rfl | rfl) <;> assumption)
                repeat' first | (exact rfl) | (exact look_none n1 (look_none n2 (look_none n3 (look_none n5 (look_none n800 (look_none n900 (look_none n1005 (look_none n1036 (rfl))))))))) | (refine upd_none n1 ?_) | (refine upd_none n2 ?_) | (refine upd_none n3 ?_) | (refine upd_none n5 ?_) | (refine upd_none n800 ?_) | (refine upd_none n900 ?_) | (refine upd_none n1005 ?_) | (refine upd_none n1036 ?_) | (refine upd_none (show s ≠ 1009 by omega) ?_) | (refine cut_none' fun _ => ?_) | (refine eb_none fun _ => ?_)
            · have hk2 : k = t.n := by
                have : ¬ ((k : Int) < t.n) := of_decide_eq_false h3
                omega
              subst hk2
              clear h3
              have hlen2 : ∀ x, x < t.n + 1 → (rngL (roomsM t (t.b.lo + (i : Nat)) (t.c.lo + (j : Nat)) x)).length = ti32.size := fun _ _ => rfl
              have hlen3 : ∀ x, x < l.length → (getP l x).length = ti67.size := fun _ _ => rfl
              repeat' first | (exact PLe.refl _) | (exact BLe.refl _) | (exact PLeL.nil) | (exact BLeL.nil) | (refine ⟨?_, ?_⟩) | (refine PLeL.cons ?_ ?_) | (refine BLeL.cons ?_ ?_) | (refine ple_int ?_) | (refine ple_bool ?_) | (refine ple_tt ?_) | (refine ple_ff ?_) | (refine PLe.aggL ?_) | (refine PLe.tupL ?_) | (refine BLe.cellsL ?_) | (refine halt_rngO 2000 (cnt 21) (t.n + 1) [2, 3, 5, 7, 20, 21] [] (fun p => [.ptr 2 0, .ptr 3 0, .ptr 5 0, .slice (some 1036) (t.n + 1) (fun x => rngL (roomsM t (t.b.lo + (i : Nat)) (t.c.lo + (j : Nat)) x)), I ((t.n + 1 : Nat) : Int), I (p : Nat)]) (fun p => [(1, .cells (tstC t)), (2, .cells [.nils]), (3, .cells [I 0]), (5, .cells [.slice (some 800) (l).length (getP (l))]), (800, .grow (l).length 67 2), (900, .jmp .busy)] ++ [(1005, .cells [I 0, I (t.b.lo + (i : Nat)), I (t.c.lo + (j : Nat))]), (1036, .grow (t.n + 1) 32 2)]) (fun p => ∀ k, k < p → decide (0 ≤ rowC t (t.b.lo + (i : Nat)) (t.c.lo + (j : Nat)) k) = false) rfl (.mk ?_ ?_) (fun x hx => absurd hx (Nat.not_lt_zero x)) ?_) | (refine fun h => absurd h (by decide)) | (refine fun (h : @Eq Bool _ _) => ?_)
              all_goals first | trivial | rfl | omega | (exact hlen2) | (exact hlen3) | skip
              · refine bn_all [1, 2, 3, 5, 800, 900, 1005, 1036] ⟨.refl _, .refl _, .refl _, .refl _, .refl _, .refl _, .refl _, .refl _, trivial⟩ ?_
                intro s hO
                obtain ⟨n1, n2, n3, n5, n800, n900, n1005, n1036, _⟩ := hO
                refine ble_none (eb_none fun hk => ?_) (look_none n1 (look_none n2 (look_none n3 (look_none n5 (look_none n800 (look_none n900 (look_none n1005 (look_none n1036 (rfl)))))))))
                have hs : s < 2000 := keepQ_lt hk
                repeat' first | (exact rfl) | (exact look_none n1 (look_none n2 (look_none n3 (look_none n5 (look_none n800 (look_none n900 (rfl))))))) | (exact look_none n1 (look_none n2 (look_none n3 (look_none n5 (look_none n800 (look_none n900 (look_none n1005 (look_none n1036 (rfl))))))))) | (refine upd_none n1 ?_) | (refine upd_none n2 ?_) | (refine upd_none n3 ?_) | (refine upd_none n5 ?_) | (refine upd_none n800 ?_) | (refine upd_none n900 ?_) | (refine upd_none n1005 ?_) | (refine upd_none n1036 ?_) | (refine cut_none' fun _ => ?_) | (refine eb_none fun _ => ?_)
              · intro p hp hQ3
                refine ⟨fun h4 => ?_, fun h4 => ?_⟩
                · have hpn : p < t.n + 1 := by
                    have : (p : Int) < ((t.n + 1 : Nat) : Int) := of_decide_eq_true h4
                    omega
                  have e4 := succ_w (m := p) (n := t.n + 1) hpn (by omega)
                  clear h4
                  repeat' first | (exact PLe.refl _) | (exact BLe.refl _) | (exact PLeL.nil) | (exact BLeL.nil) | (refine ⟨?_, ?_⟩) | (refine PLeL.cons ?_ ?_) | (refine BLeL.cons ?_ ?_) | (refine ple_int ?_) | (refine ple_bool ?_) | (refine ple_tt ?_) | (refine ple_ff ?_) | (refine PLe.aggL ?_) | (refine PLe.tupL ?_) | (refine BLe.cellsL ?_) | (refine halt_rngO 2000 (cnt 26) (t.n + 1) [2, 3, 5, 7, 8, 20, 21, 25, 26] [] (fun q => [.ptr 2 0, .ptr 3 0, .ptr 5 0, .slice (some 1036) (t.n + 1) (fun x => rngL (roomsM t (t.b.lo + (i : Nat)) (t.c.lo + (j : Nat)) x)), I (p : Nat), I ((t.n + 1 : Nat) : Int), I (p : Nat), I ((t.n + 1 : Nat) : Int), I (q : Nat)]) (fun q => [(1, .cells (tstC t)), (2, .cells [.nils]), (3, .cells [I 0]), (5, .cells [.slice (some 800) (l).length (getP (l))]), (800, .grow (l).length 67 2), (900, .jmp .busy)] ++ [(1005, .cells [I 0, I (t.b.lo + (i : Nat)), I (t.c.lo + (j : Nat))]), (1036, .grow (t.n + 1) 32 2)]) (fun q => ∀ k, k < q → conAt t (t.b.lo + (i : Nat)) (t.c.lo + (j : Nat)) p k = false) rfl (.mk ?_ ?_) (fun x hx => absurd hx (Nat.not_lt_zero x)) ?_) | (refine fun h => absurd h (by decide)) | (refine fun (h : @Eq Bool _ _) => ?_)
                  all_goals first | trivial | rfl | omega | skip
                  · refine bn_all [1, 2, 3, 5, 800, 900, 1005, 1036] ⟨.refl _, .refl _, .refl _, .refl _, .refl _, .refl _, .refl _, .refl _, trivial⟩ ?_
                    intro s hO
                    obtain ⟨n1, n2, n3, n5, n800, n900, n1005, n1036, _⟩ := hO
                    refine ble_none (eb_none fun hk => ?_) (look_none n1 (look_none n2 (look_none n3 (look_none n5 (look_none n800 (look_none n900 (look_none n1005 (look_none n1036 (rfl)))))))))
                    have hs : s < 2000 := keepQ_lt hk
                    repeat' first | (exact rfl) | (exact look_none n1 (look_none n2 (look_none n3 (look_none n5 (look_none n800 (look_none n900 (look_none n1005 (look_none n1036 (rfl))))))))) | (refine upd_none n1 ?_) | (refine upd_none n2 ?_) | (refine upd_none n3 ?_) | (refine upd_none n5 ?_) | (refine upd_none n800 ?_) | (refine upd_none n900 ?_) | (refine upd_none n1005 ?_) | (refine upd_none n1036 ?_) | (refine cut_none' fun _ => ?_) | (refine eb_none fun _ => ?_)
                  · intro q hq hQ4
                    refine ⟨fun h5 => ?_, fun h5 => ?_⟩
                    · have hqn : q < t.n + 1 := by
                        have : (q : Int) < ((t.n + 1 : Nat) : Int) := of_decide_eq_true h5
                        omega
                      have e5 := succ_w (m := q) (n := t.n + 1) hqn (by omega)
                      clear h5
                      have e6 := conAt_rooms (t := t) hn (b := t.b.lo + (i : Nat)) (c := t.c.lo + (j : Nat)) hpn hqn
                      refine (Bool.eq_false_or_eq_true (decide ((roomsM t (t.b.lo + (i : Nat)) (t.c.lo + (j : Nat)) q).hi < (roomsM t (t.b.lo + (i : Nat)) (t.c.lo + (j : Nat)) p).lo))).elim (fun hd => ?_) fun hd => ?_
                      · have hd2 := e6.trans hd
                        have hf := fstP_t hpn hqn hQ3 hQ4 hd2
                        have hh := fstC_t hpn hqn hQ3 hQ4 hd2
                        have e7 : IntKind.i64.wrap ((p : Int) - 1) = -1 + (p : Int) := by rw [w64 (by omega) (by omega)]; omega
                        have e8 : IntKind.i64.wrap ((q : Int) - 1) = -1 + (q : Int) := by rw [w64 (by omega) (by omega)]; omega
                        have hadd : rowP t (t.b.lo + (i : Nat)) (allP t i) (j + 1) = l ++ [fstP t (t.b.lo + (i : Nat)) (t.c.lo + (j : Nat))] := by
                          show rowP t (t.b.lo + (i : Nat)) (allP t i) j ++ _ = _
                          rw [hl]
                        have hQ5 : ∀ x, x < j + 1 → conH t (t.b.lo + (i : Nat)) (t.c.lo + (x : Nat)) = true := fun x hx => by
                          rcases Nat.lt_succ_iff_lt_or_eq.1 hx with h | rfl
                          · exact hQ2 x h
                          · exact hh
                        repeat' first | (exact PLe.refl _) | (exact BLe.refl _) | (exact PLeL.nil) | (exact BLeL.nil) | (refine ⟨?_, ?_⟩) | (refine PLeL.cons ?_ ?_) | (refine BLeL.cons ?_ ?_) | (refine ple_int ?_) | (refine ple_bool ?_) | (refine ple_tt ?_) | (refine ple_ff ?_) | (refine PLe.aggL ?_) | (refine PLe.tupL ?_) | (refine BLe.cellsL ?_) | (refine next_rngO (off := 1000) (cn := cntF 4 t.c.lo) rfl (fun m => by show (t.c.lo + (m : Int) - t.c.lo).toNat = m; omega) hjc hQ5 (.mk ?_ ?_)) | (refine fun h => absurd h (by decide)) | (refine fun h => ?_; exfalso; simp only [hd, Int.toNat_natCast, Bool.cond_true_left, Bool.cond_false_right, Bool.cond_true_right, Bool.cond_false_left, cond_true, cond_false, Bool.not_true, Bool.not_false, Bool.not_not, Bool.and_true, Bool.true_and, Bool.and_false, Bool.false_and, Bool.or_true, Bool.true_or, Bool.or_false, Bool.false_or, beq_self_eq_true, bne_self_eq_false, Bool.true_eq_false, Bool.false_eq_true, reduceCtorEq, Bool.and_self, Bool.or_self, Int.reduceBEq, Int.reduceBNe, Int.reduceNeg, decide_true, decide_false, Int.reduceLT, Int.reduceLE, Int.reduceGT] at h; done) | (refine fun (h : @Eq Bool _ _) => ?_)
                        all_goals first | trivial | rfl | omega | (exact e2) | (exact hlen2) | (exact hlen3) | (show (0 : Int) ≤ (p : Int); omega) | (show (0 : Int) ≤ (q : Int); omega) | (show (p : Int) < ((t.n + 1 : Nat) : Int); omega) | (show (q : Int) < ((t.n + 1 : Nat) : Int); omega) | (show (l.length + 1) * 16 ≤ 140737488355328; omega) | (intro x hx; obtain rfl : x = 0 := (by omega); exact ⟨rfl, rfl⟩) | (simp only [hd, Int.toNat_natCast, Bool.cond_true_left, Bool.cond_false_right, Bool.cond_true_right, Bool.cond_false_left, cond_true, cond_false, Bool.not_true, Bool.not_false, Bool.not_not, Bool.and_true, Bool.true_and, Bool.and_false, Bool.false_and, Bool.or_true, Bool.true_or, Bool.or_false, Bool.false_or, beq_self_eq_true, bne_self_eq_false, Bool.true_eq_false, Bool.false_eq_true, reduceCtorEq, Bool.and_self, Bool.or_self, Int.reduceBEq, Int.reduceBNe, Int.reduceNeg, decide_true, decide_false, Int.reduceLT, Int.reduceLE, Int.reduceGT]; done) | (show @Eq Bool _ _; simp only [hd, Int.toNat_natCast, Bool.cond_true_left, Bool.cond_false_right, Bool.cond_true_right, Bool.cond_false_left, cond_true, cond_false, Bool.not_true, Bool.not_false, Bool.not_not, Bool.and_true, Bool.true_and, Bool.and_false, Bool.false_and, Bool.or_true, Bool.true_or, Bool.or_false, Bool.false_or, beq_self_eq_true, bne_self_eq_false, Bool.true_eq_false, Bool.false_eq_true, reduceCtorEq, Bool.and_self, Bool.or_self, Int.reduceBEq, Int.reduceBNe, Int.reduceNeg, decide_true, decide_false, Int.reduceLT, Int.reduceLE, Int.reduceGT]; done) | skip
                        refine bn_all [1, 2, 3, 5, 800, 900] ⟨.refl _, .refl _, .refl _, ?_, ?_, .refl _, trivial⟩ ?_
                        · show BLe (.cells [.slice (some 800) (l.length + 1) _]) (.cells [.slice (some 800) (rowP t (t.b.lo + (i : Nat)) (allP t i) (j + 1)).length (getP (rowP t (t.b.lo + (i : Nat)) (allP t i) (j + 1)))])
                          rw [hadd]
                          refine .cellsL (.cons (ple_slice (by simp) fun x hx => ?_) .nil)
                          by_cases hxl : x < l.length
                          · rw [blt_t hxl]; exact getP_old hxl
                          · obtain rfl : x = l.length := by
                              have hx : x < l.length + 1 := hx
                              omega
                            rw [blt_f hxl, Nat.sub_self]
                            refine Eq.trans ?_ (getP_new (l := l) (y := fstP t (t.b.lo + (i : Nat)) (t.c.lo + (j : Nat))))
                            rw [hf]
                            show [I (IntKind.i64.wrap ((p : Int) - 1)), I (IntKind.i64.wrap ((q : Int) - 1))] = [I (-1 + (p : Int)), I (-1 + (q : Int))]
                            rw [e7, e8]
                        · show BLe (.grow (l.length + 1) 67 2) (.grow (rowP t (t.b.lo + (i : Nat)) (allP t i) (j + 1)).length 67 2)
                          rw [hadd]
                          exact ble_grow (by simp)
                        intro s hO
                        obtain ⟨n1, n2, n3, n5, n800, n900, _⟩ := hO
                        refine ble_none (eb_none fun hk => ?_) (look_none n1 (look_none n2 (look_none n3 (look_none n5 (look_none n800 (look_none n900 (rfl)))))))
                        have hs : s < 1000 := keepQ_lt hk
                        repeat' first | (exact rfl) | (exact look_none n1 (look_none n2 (look_none n3 (look_none n5 (look_none n800 (look_none n900 (look_none (show s ≠ 1005 by omega) (look_none (show s ≠ 1036 by omega) (rfl))))))))) | (exact look_none n1 (look_none n2 (look_none n3 (look_none n5 (look_none n800 (look_none n900 (rfl))))))) | (refine upd_none n1 ?_) | (refine upd_none n2 ?_) | (refine upd_none n3 ?_) | (refine upd_none n5 ?_) | (refine upd_none n800 ?_) | (refine upd_none n900 ?_) | (refine upd_none (show s ≠ 1005 by omega) ?_) | (refine upd_none (show s ≠ 1036 by omega) ?_) | (refine cut_none' fun _ => ?_) | (refine eb_none fun _ => ?_)
                      · have hd2 := e6.trans hd
                        have hQ5 : ∀ x, x < q + 1 → conAt t (t.b.lo + (i : Nat)) (t.c.lo + (j : Nat)) p x = false := fun x hx => by
                          rcases Nat.lt_succ_iff_lt_or_eq.1 hx with h | rfl
                          · exact hQ4 x h
                          · exact hd2
                        repeat' first | (exact PLe.refl _) | (exact BLe.refl _) | (exact PLeL.nil) | (exact BLeL.nil) | (refine ⟨?_, ?_⟩) | (refine PLeL.cons ?_ ?_) | (refine BLeL.cons ?_ ?_) | (refine ple_int ?_) | (refine ple_bool ?_) | (refine ple_tt ?_) | (refine ple_ff ?_) | (refine PLe.aggL ?_) | (refine PLe.tupL ?_) | (refine BLe.cellsL ?_) | (refine next_rngO (off := 2000) (cn := cnt 26) rfl (fun _ => rfl) hqn hQ5 (.mk ?_ ?_)) | (refine fun h => absurd h (by decide)) | (refine fun h => ?_; exfalso; simp only [hd, Int.toNat_natCast, Bool.cond_true_left, Bool.cond_false_right, Bool.cond_true_right, Bool.cond_false_left, cond_true, cond_false, Bool.not_true, Bool.not_false, Bool.not_not, Bool.and_true, Bool.true_and, Bool.and_false, Bool.false_and, Bool.or_true, Bool.true_or, Bool.or_false, Bool.false_or, beq_self_eq_true, bne_self_eq_false, Bool.true_eq_false, Bool.false_eq_true, reduceCtorEq, Bool.and_self, Bool.or_self, Int.reduceBEq, Int.reduceBNe, Int.reduceNeg, decide_true, decide_false, Int.reduceLT, Int.reduceLE, Int.reduceGT] at h; done) | (refine fun (h : @Eq Bool _ _) => ?_)
                        all_goals first | trivial | rfl | omega | (exact hlen2) | (exact hlen3) | (exact e4) | (exact e5) | (show (0 : Int) ≤ (p : Int); omega) | (show (0 : Int) ≤ (q : Int); omega) | (show (p : Int) < ((t.n + 1 : Nat) : Int); omega) | (show (q : Int) < ((t.n + 1 : Nat) : Int); omega) | (simp only [hd, Int.toNat_natCast, Bool.cond_true_left, Bool.cond_false_right, Bool.cond_true_right, Bool.cond_false_left, cond_true, cond_false, Bool.not_true, Bool.not_false, Bool.not_not, Bool.and_true, Bool.true_and, Bool.and_false, Bool.false_and, Bool.or_true, Bool.true_or, Bool.or_false, Bool.false_or, beq_self_eq_true, bne_self_eq_false, Bool.true_eq_false, Bool.false_eq_true, reduceCtorEq, Bool.and_self, Bool.or_self, Int.reduceBEq, Int.reduceBNe, Int.reduceNeg, decide_true, decide_false, Int.reduceLT, Int.reduceLE, Int.reduceGT]; done) | (show @Eq Bool _ _; simp only [hd, Int.toNat_natCast, Bool.cond_true_left, Bool.cond_false_right, Bool.cond_true_right, Bool.cond_false_left, cond_true, cond_false, Bool.not_true, Bool.not_false, Bool.not_not, Bool.and_true, Bool.true_and, Bool.and_false, Bool.false_and, Bool.or_true, Bool.true_or, Bool.or_false, Bool.false_or, beq_self_eq_true, bne_self_eq_false, Bool.true_eq_false, Bool.false_eq_true, reduceCtorEq, Bool.and_self, Bool.or_self, Int.reduceBEq, Int.reduceBNe, Int.reduceNeg, decide_true, decide_false, Int.reduceLT, Int.reduceLE, Int.reduceGT]; done) | skip
                        refine bn_all [1, 2, 3, 5, 800, 900, 1005, 1036] ⟨.refl _, .refl _, .refl _, .refl _, .refl _, .refl _, .refl _, .refl _, trivial⟩ ?_
                        intro s hO
                        obtain ⟨n1, n2, n3, n5, n800, n900, n1005, n1036, _⟩ := hO
                        refine ble_none (eb_none fun hk => ?_) (look_none n1 (look_none n2 (look_none n3 (look_none n5 (look_none n800 (look_none n900 (look_none n1005 (look_none n1036 (rfl)))))))))
                        have hs : s < 2000 := keepQ_lt hk
                        repeat' first | (exact rfl) | (exact look_none n1 (look_none n2 (look_none n3 (look_none n5 (look_none n800 (look_none n900 (look_none n1005 (look_none n1036 (rfl))))))))) | (refine upd_none n1 ?_) | (refine upd_none n2 ?_) | (refine upd_none n3 ?_) | (refine upd_none n5 ?_) | (refine upd_none n800 ?_) | (refine upd_none n900 ?_) | (refine upd_none n1005 ?_) | (refine upd_none n1036 ?_) | (refine cut_none' fun _ => ?_) | (refine eb_none fun _ => ?_)
                    · have hq2 : q = t.n + 1 := by
                        have : ¬ ((q : Int) < ((t.n + 1 : Nat) : Int)) := of_decide_eq_false h5
                        omega
                      subst hq2
                      clear h5
                      have hr := rowC_f hQ4
                      have hQ5 : ∀ x, x < p + 1 → decide (0 ≤ rowC t (t.b.lo + (i : Nat)) (t.c.lo + (j : Nat)) x) = false := fun x hx => by
                        rcases Nat.lt_succ_iff_lt_or_eq.1 hx with h | rfl
                        · exact hQ3 x h
                        · exact hr
                      repeat' first | (exact PLe.refl _) | (exact BLe.refl _) | (exact PLeL.nil) | (exact BLeL.nil) | (refine ⟨?_, ?_⟩) | (refine PLeL.cons ?_ ?_) | (refine BLeL.cons ?_ ?_) | (refine ple_int ?_) | (refine ple_bool ?_) | (refine ple_tt ?_) | (refine ple_ff ?_) | (refine PLe.aggL ?_) | (refine PLe.tupL ?_) | (refine BLe.cellsL ?_) | (refine next_rngO (off := 2000) (cn := cnt 21) rfl (fun _ => rfl) hpn hQ5 (.mk ?_ ?_)) | (refine fun h => absurd h (by decide)) | (refine fun (h : @Eq Bool _ _) => ?_)
                      all_goals first | trivial | rfl | omega | (exact hlen2) | (exact hlen3) | (exact e4) | (exact e5) | (show (0 : Int) ≤ (p : Int); omega) | (show (0 : Int) ≤ (q : Int); omega) | (show (p : Int) < ((t.n + 1 : Nat) : Int); omega) | (show (q : Int) < ((t.n + 1 : Nat) : Int); omega) | skip
                      refine bn_all [1, 2, 3, 5, 800, 900, 1005, 1036] ⟨.refl _, .refl _, .refl _, .refl _, .refl _, .refl _, .refl _, .refl _, trivial⟩ ?_
                      intro s hO
                      obtain ⟨n1, n2, n3, n5, n800, n900, n1005, n1036, _⟩ := hO
                      refine ble_none (eb_none fun hk => ?_) (look_none n1 (look_none n2 (look_none n3 (look_none n5 (look_none n800 (look_none n900 (look_none n1005 (look_none n1036 (rfl)))))))))
                      have hs : s < 2000 := keepQ_lt hk
                      repeat' first | (exact rfl) | (exact look_none n1 (look_none n2 (look_none n3 (look_none n5 (look_none n800 (look_none n900 (look_none n1005 (look_none n1036 (rfl))))))))) | (refine upd_none n1 ?_) | (refine upd_none n2 ?_) | (refine upd_none n3 ?_) | (refine upd_none n5 ?_) | (refine upd_none n800 ?_) | (refine upd_none n900 ?_) | (refine upd_none n1005 ?_) | (refine upd_none n1036 ?_) | (refine cut_none' fun _ => ?_) | (refine eb_none fun _ => ?_)
                · have hp2 : p = t.n + 1 := by
                    have : ¬ ((p : Int) < ((t.n + 1 : Nat) : Int)) := of_decide_eq_false h4
                    omega
                  subst hp2
                  clear h4
                  have hf := fstC_f hQ3
                  have hA2 : allH t = false := allN_f hib (allN_f hjc hf)
                  exact absurd (hA.symm.trans hA2) (by decide)
        · have hjc : j = t.nc := by
            have : ¬ (t.c.lo + (j : Int) ≤ t.c.hi) := of_decide_eq_false h2
            omega
          subst hjc
          have hall2 : allP t (i + 1) = rowP t (t.b.lo + (i : Nat)) (allP t i) t.nc := rfl
          have hQ5 : ∀ x, x < i + 1 → conHr t x = true := fun x hx => by
            rcases Nat.lt_succ_iff_lt_or_eq.1 hx with h | rfl
            · exact hQ x h
            · exact allN_t hQ2
          repeat' first | (exact PLe.refl _) | (exact BLe.refl _) | (exact PLeL.nil) | (exact BLeL.nil) | (refine ⟨?_, ?_⟩) | (refine PLeL.cons ?_ ?_) | (refine BLeL.cons ?_ ?_) | (refine ple_int ?_) | (refine ple_bool ?_) | (refine ple_tt ?_) | (refine ple_ff ?_) | (refine PLe.aggL ?_) | (refine PLe.tupL ?_) | (refine BLe.cellsL ?_) | (refine next_rngO (off := 1000) (cn := cntF 3 t.b.lo) rfl (fun m => by show (t.b.lo + (m : Int) - t.b.lo).toNat = m; omega) hib hQ5 (.mk ?_ ?_)) | (refine fun h => absurd h (by decide)) | (refine fun (h : @Eq Bool _ _) => ?_)
          all_goals first | trivial | rfl | omega | (exact e1) | skip
          refine bn_all [1, 2, 3, 5, 800, 900] ⟨.refl _, .refl _, .refl _, .refl _, .refl _, .refl _, trivial⟩ ?_
          intro s hO
          obtain ⟨n1, n2, n3, n5, n800, n900, _⟩ := hO
          refine ble_none (eb_none fun hk => ?_) (look_none n1 (look_none n2 (look_none n3 (look_none n5 (look_none n800 (look_none n900 (rfl)))))))
          have hs : s < 1000 := keepQ_lt hk
          repeat' first | (exact rfl) | (exact look_none n1 (look_none n2 (look_none n3 (look_none n5 (look_none n800 (look_none n900 (rfl))))))) | (refine upd_none n1 ?_) | (refine upd_none n2 ?_) | (refine upd_none n3 ?_) | (refine upd_none n5 ?_) | (refine upd_none n800 ?_) | (refine upd_none n900 ?_) | (refine cut_none' fun _ => ?_) | (refine eb_none fun _ => ?_)
    · have hib : i = t.nb := by
        have : ¬ (t.b.lo + (i : Int) ≤ t.b.hi) := of_decide_eq_false h1
        omega
      subst hib
      have hA2 : allH t = true := allN_t hQ
      repeat' first | (exact PLe.refl _) | (exact BLe.refl _) | (exact PLeL.nil) | (exact BLeL.nil) | (refine ⟨?_, ?_⟩) | (refine PLeL.cons ?_ ?_) | (refine BLeL.cons ?_ ?_) | (refine ple_int ?_) | (refine ple_bool ?_) | (refine ple_tt ?_) | (refine ple_ff ?_) | (refine PLe.aggL ?_) | (refine PLe.tupL ?_) | (refine BLe.cellsL ?_) | (refine fun h => absurd h (by decide)) | (refine fun (h : @Eq Bool _ _) => ?_)
      all_goals first | trivial | rfl | omega | skip
set_option maxRecDepth 20000 in
set_option maxHeartbeats 16000000 in
theorem consF (t : Tst) (hok : okT t) (hA : allH t = false) : SF Try.prog 36 (V.atS [.agg (tstC t)] (.tup [.slice none 0 (fun _ => []), I 7])) := by
  refine sf_gen types_ok mixed (l := [(19, V.atS [.agg (tstC t)] (I 0)), (88, roomsFS), (89, isAboveS)]) ⟨(by have := c19 t (by have := hok.n; omega); rw [tfE_okT hok] at this; exact this), sf88, sf89, trivial⟩ (es := []) trivial (its := [(121, 900, 1000, 2000, it121)]) ⟨si121, trivial⟩ (fr := []) trivial [] [] false [] [] 1 Try.func36 rfl (by kernel_rfl) fun args h => ?_
  have h : args = _ := h
  subst h
  refine ⟨rfl, ?_⟩
  show evalCode _ _ _ fun o => match o with
    | .normal st | .ret st => withP _ (_ ∧ PLe _ (.tup [.slice none 0 (fun _ => []), I 7]))
    | _ => False
  have hb := hok.b
  have hc := hok.c
  have hn := hok.n
  have hnb : t.nb ≤ 40 := by unfold Tst.nb; omega
  have hnc : t.nc ≤ 40 := by unfold Tst.nc; omega
  have ebn : t.b.lo + (t.nb : Int) = t.b.hi + 1 := by unfold Tst.nb; omega
  have ecn : t.c.lo + (t.nc : Int) = t.c.hi + 1 := by unfold Tst.nc; omega
  have hall : ∀ i, i ≤ t.nb → (allP t i).length ≤ 1600 := fun i hi => by rw [allP_len]; exact Nat.le_trans (Nat.mul_le_mul hi hnc) (Nat.le_trans (Nat.mul_le_mul_right _ hnb) (by omega))
  repeat' first | (refine Halt.mk ⟨[(5, 0, 800, 67, 2)], ?_⟩; refine ⟨rfl, fun L => ⟨rfl, ?_⟩⟩; refine halt_rngO 1000 (cntF 3 t.b.lo) t.nb [0, 1, 3] [] (fun i => [.yld L, .cptr (tstC t), I (t.b.lo + (i : Nat))]) (fun i => [(1, .cells (tstC t)), (2, .cells [.nils]), (3, .cells [I 0]), (5, .cells [.slice (some 800) (allP t i).length (getP (allP t i))]), (800, .grow (allP t i).length 67 2), (900, .jmp .ready)]) (fun i => ∀ x, x < i → conHr t x = true) rfl (.mk ?_ ?_) (fun x hx => absurd hx (Nat.not_lt_zero x)) ?_) | (exact rfl) | (exact PLe.refl _) | (exact BLe.refl _) | (exact PLeL.nil) | (exact BLeL.nil) | (refine ⟨?_, ?_⟩) | (refine PLeL.cons ?_ ?_) | (refine BLeL.cons ?_ ?_) | (refine ple_int ?_) | (refine ple_bool ?_) | (refine ple_tt ?_) | (refine ple_ff ?_) | (refine PLe.aggL ?_) | (refine PLe.tupL ?_) | (refine BLe.cellsL ?_) | (refine fun h => absurd h (by decide)) | (refine fun (h : @Eq Bool _ _) => ?_)
  all_goals first | trivial | rfl | omega | skip
  · refine bn_all [1, 2, 3, 5, 800, 900] ⟨.refl _, .refl _, .refl _, ?_, .refl _, .refl _, trivial⟩ ?_
    · exact .cellsL (.cons (ple_slice rfl fun i hi => by cases hi) .nil)
    intro s hO
    obtain ⟨n1, n2, n3, n5, n800, n900, _⟩ := hO
    refine ble_none (eb_none fun hk => ?_) (look_none n1 (look_none n2 (look_none n3 (look_none n5 (look_none n800 (look_none n900 (rfl)))))))
    have hs : s < 1000 := keepQ_lt hk
    repeat' first | (exact rfl) | (exact look_none n1 (look_none n2 (look_none n3 (look_none n5 (look_none n800 (look_none n900 (rfl))))))) | (refine upd_none n1 ?_) | (refine upd_none n2 ?_) | (refine upd_none n3 ?_) | (refine upd_none n5 ?_) | (refine upd_none n800 ?_) | (refine upd_none n900 ?_) | (refine cut_none' fun _ => ?_) | (refine eb_none fun _ => ?_)
  · intro i hi hQ
    refine ⟨fun h1 => ?_, fun h1 => ?_⟩
    · have h1 : t.b.lo + (i : Int) ≤ t.b.hi := of_decide_eq_true h1
      have hib : i < t.nb := by unfold Tst.nb; omega
      have e1 : IntKind.i64.wrap (t.b.lo + (i : Int) + 1) = t.b.lo + ((i + 1 : Nat) : Int) := by rw [w64 (by omega) (by omega)]; omega
      refine halt_rngO 1000 (cntF 4 t.c.lo) t.nc [0, 1, 3, 4] [] (fun j => [.yld L, .cptr (tstC t), I (t.b.lo + (i : Nat)), I (t.c.lo + (j : Nat))]) (fun j => [(1, .cells (tstC t)), (2, .cells [.nils]), (3, .cells [I 0]), (5, .cells [.slice (some 800) (rowP t (t.b.lo + (i : Nat)) (allP t i) j).length (getP (rowP t (t.b.lo + (i : Nat)) (allP t i) j))]), (800, .grow (rowP t (t.b.lo + (i : Nat)) (allP t i) j).length 67 2), (900, .jmp .ready)]) (fun j => ∀ x, x < j → conH t (t.b.lo + (i : Nat)) (t.c.lo + (x : Nat)) = true) rfl (.mk ?_ ?_) (fun x hx => absurd hx (Nat.not_lt_zero x)) ?_
      · exact .cons (.refl _) (.cons (.refl _) (.cons (.refl _) (.cons (ple_int (by simp)) .nil)))
      · refine bn_all [1, 2, 3, 5, 800, 900] ⟨.refl _, .refl _, .refl _, .refl _, .refl _, .refl _, trivial⟩ ?_
        intro s hO
        obtain ⟨n1, n2, n3, n5, n800, n900, _⟩ := hO
        refine ble_none (eb_none fun hk => ?_) (look_none n1 (look_none n2 (look_none n3 (look_none n5 (look_none n800 (look_none n900 (rfl)))))))
        have hs : s < 1000 := keepQ_lt hk
        repeat' first | (exact rfl) | (exact look_none n1 (look_none n2 (look_none n3 (look_none n5 (look_none n800 (look_none n900 (rfl))))))) | (refine upd_none n1 ?_) | (refine upd_none n2 ?_) | (refine upd_none n3 ?_) | (refine upd_none n5 ?_) | (refine upd_none n800 ?_) | (refine upd_none n900 ?_) | (refine cut_none' fun _ => ?_) | (refine eb_none fun _ => ?_)
      · intro j hj hQ2
        refine ⟨fun h2 => ?_, fun h2 => ?_⟩
        · have h2 : t.c.lo + (j : Int) ≤ t.c.hi := of_decide_eq_true h2
          have hjc : j < t.nc := by unfold Tst.nc; omega
          have e2 : IntKind.i64.wrap (t.c.lo + (j : Int) + 1) = t.c.lo + ((j + 1 : Nat) : Int) := by rw [w64 (by omega) (by omega)]; omega
          have hlen : (rowP t (t.b.lo + (i : Nat)) (allP t i) j).length ≤ 1640 := by rw [rowP_len]; have := hall i (by omega); omega
          generalize hl : rowP t (t.b.lo + (i : Nat)) (allP t i) j = l at hlen
          refine halt_rngO 1000 (cnt 40) t.n [0, 1, 3, 4, 5, 6, 7, 38, 39, 40] [1005, 1036] (fun k => [.yld L, .cptr (tstC t), I (t.b.lo + (i : Nat)), I (t.c.lo + (j : Nat)), .ptr 1005 0, .fn (.func 122) [] [.ptr 1005 0], .slice (some 1036) (k + 1) (fun x => rngL (roomsM t (t.b.lo + (i : Nat)) (t.c.lo + (j : Nat)) x)), .slice none t.n fun x => stpL (t.s x), I t.n, I k])
            (fun k => [(1, .cells (tstC t)), (2, .cells [.nils]), (3, .cells [I 0]), (5, .cells [.slice (some 800) (l).length (getP (l))]), (800, .grow (l).length 67 2), (900, .jmp .ready)] ++ [(1005, .cells [I 0, I (t.b.lo + (i : Nat)), I (t.c.lo + (j : Nat))]), (1036, .grow (k + 1) 32 2)]) (fun _ => True) rfl (.mk ?_ ?_) trivial ?_
          · refine .cons (.refl _) (.cons (.refl _) (.cons (.refl _) (.cons (.refl _) (.cons (.refl _) (.cons (.refl _) (.cons (ple_slice rfl fun x hx => ?_) (.cons (.refl _) (.cons (.refl _) (.cons (.refl _) .nil)))))))))
            have hx : x < 1 := hx
            obtain rfl : x = 0 := by omega
            rfl
          · refine bn_all [1, 2, 3, 5, 800, 900, 1005, 1036] ⟨.refl _, .refl _, .refl _, .refl _, .refl _, .refl _, .refl _, .refl _, trivial⟩ ?_
            intro s hO
            obtain ⟨n1, n2, n3, n5, n800, n900, n1005, n1036, _⟩ := hO
            refine ble_none (eb_none fun hk => ?_) (look_none n1 (look_none n2 (look_none n3 (look_none n5 (look_none n800 (look_none n900 (look_none n1005 (look_none n1036 (rfl)))))))))
            have hs : s < 1000 := keepQ_off hk (by simp only [List.mem_cons, List.not_mem_nil, or_false]; rintro k (rfl | rfl) <;> assumption)
            repeat' first | (exact rfl) | (exact look_none n1 (look_none n2 (look_none n3 (look_none n5 (look_none n800 (look_none n900 (rfl))))))) | (exact look_none n1 (look_none n2 (look_none n3 (look_none n5 (look_none n800 (look_none n900 (look_none n1005 (look_none n1036 (rfl))))))))) | (refine upd_none n1 ?_) | (refine upd_none n2 ?_) | (refine upd_none n3 ?_) | (refine upd_none n5 ?_) | (refine upd_none n800 ?_) | (refine upd_none n900 ?_) | (refine upd_none n1005 ?_) | (refine upd_none n1036 ?_) | (refine cut_none' fun _ => ?_) | (refine eb_none fun _ => ?_)
          · intro k hk _
            refine ⟨fun h3 => ?_, fun h3 => ?_⟩
            · have hkn : k < t.n := by simpa using h3
              have e3 := succ_w (m := k) (n := t.n) hkn (by omega)
              clear h3
              repeat' first | (exact PLe.refl _) | (exact BLe.refl _) | (exact PLeL.nil) | (exact BLeL.nil) | (refine ⟨?_, ?_⟩) | (refine PLeL.cons ?_ ?_) | (refine BLeL.cons ?_ ?_) | (refine ple_int ?_) | (refine ple_bool ?_) | (refine ple_tt ?_) | (refine ple_ff ?_) | (refine PLe.aggL ?_) | (refine PLe.tupL ?_) | (refine BLe.cellsL ?_) | (refine next_rngO (off := 1000) (cn := cnt 40) rfl (fun _ => rfl) hkn trivial (.mk ?_ ?_)) | (refine fun h => absurd h (by decide)) | (refine fun (h : @Eq Bool _ _) => ?_)
              all_goals first | trivial | rfl | omega | (exact e3) | (exact rng_len) | (show (k + 1 + 1) * 16 ≤ 140737488355328; omega) | (intro x hx; obtain rfl : x = 0 := (by omega); exact ⟨rfl, rfl⟩) | skip
              · show PLe (.slice (some 1036) (k + 1 + 1) _) _
                refine ple_slice rfl fun x hx => ?_
                by_cases hxk : x < k + 1
                · rw [blt_t hxk]; rfl
                · obtain rfl : x = k + 1 := by omega
                  rw [blt_f hxk, Nat.sub_self]; rfl
              · refine bn_all [1, 2, 3, 5, 800, 900, 1005, 1036] ⟨.refl _, .refl _, .refl _, .refl _, .refl _, .refl _, .refl _, .refl _, trivial⟩ ?_
                intro s hO
                obtain ⟨n1, n2, n3, n5, n800, n900, n1005, n1036, _⟩ := hO
                refine ble_none (eb_none fun hk => ?_) (look_none n1 (look_none n2 (look_none n3 (look_none n5 (look_none n800 (look_none n900 (look_none n1005 (look_none n1036 (rfl)))))))))
                have hs : s < 1000 := keepQ_off hk (by simp only [List.mem_cons, List.not_mem_nil, or_false]; rintro k (rfl | rfl) <;> assumption)
                repeat' first | (exact rfl) | (exact look_none n1 (look_none n2 (look_none n3 (look_none n5 (look_none n800 (look_none n900 (look_none n1005 (look_none n1036 (rfl))))))))) | (refine upd_none n1 ?_) | (refine upd_none n2 ?_) | (refine upd_none n3 ?_) | (refine upd_none n5 ?_) | (refine upd_none n800 ?_) | (refine upd_none n900 ?_) | (refine upd_none n1005 ?_) | (refine upd_none n1036 ?_) | (refine upd_none (show s ≠ 1009 by omega) ?_) | (refine cut_none' fun _ => ?_) | (refine eb_none fun _ => ?_)
            · have hk2 : k = t.n := by
                have : ¬ ((k : Int) < t.n) := of_decide_eq_false h3
                omega
              subst hk2
              clear h3
              have hlen2 : ∀ x, x < t.n + 1 → (rngL (roomsM t (t.b.lo + (i : Nat)) (t.c.lo + (j : Nat)) x)).length = ti32.size := fun _ _ => rfl
              have hlen3 : ∀ x, x < l.length → (getP l x).length = ti67.size := fun _ _ => rfl
              repeat' first | (exact PLe.refl _) | (exact BLe.refl _) | (exact PLeL.nil) | (exact BLeL.nil) | (refine ⟨?_, ?_⟩) | (refine PLeL.cons ?_ ?_) | (refine BLeL.cons ?_ ?_) | (refine ple_int ?_) | (refine ple_bool ?_) | (refine ple_tt ?_) | (refine ple_ff ?_) | (refine PLe.aggL ?_) | (refine PLe.tupL ?_) | (refine BLe.cellsL ?_) | (refine halt_rngO 2000 (cnt 21) (t.n + 1) [2, 3, 5, 7, 20, 21] [] (fun p => [.ptr 2 0, .ptr 3 0, .ptr 5 0, .slice (some 1036) (t.n + 1) (fun x => rngL (roomsM t (t.b.lo + (i : Nat)) (t.c.lo + (j : Nat)) x)), I ((t.n + 1 : Nat) : Int), I (p : Nat)]) (fun p => [(1, .cells (tstC t)), (2, .cells [.nils]), (3, .cells [I 0]), (5, .cells [.slice (some 800) (l).length (getP (l))]), (800, .grow (l).length 67 2), (900, .jmp .busy)] ++ [(1005, .cells [I 0, I (t.b.lo + (i : Nat)), I (t.c.lo + (j : Nat))]), (1036, .grow (t.n + 1) 32 2)]) (fun p => ∀ k, k < p → decide (0 ≤ rowC t (t.b.lo + (i : Nat)) (t.c.lo + (j : Nat)) k) = false) rfl (.mk ?_ ?_) (fun x hx => absurd hx (Nat.not_lt_zero x)) ?_) | (refine fun h => absurd h (by decide)) | (refine fun (h : @Eq Bool _ _) => ?_)
              all_goals first | trivial | rfl | omega | (exact hlen2) | (exact hlen3) | skip
              · refine bn_all [1, 2, 3, 5, 800, 900, 1005, 1036] ⟨.refl _, .refl _, .refl _, .refl _, .refl _, .refl _, .refl _, .refl _, trivial⟩ ?_
                intro s hO
                obtain ⟨n1, n2, n3, n5, n800, n900, n1005, n1036, _⟩ := hO
                refine ble_none (eb_none fun hk => ?_) (look_none n1 (look_none n2 (look_none n3 (look_none n5 (look_none n800 (look_none n900 (look_none n1005 (look_none n1036 (rfl)))))))))
                have hs : s < 2000 := keepQ_lt hk
                repeat' first | (exact rfl) | (exact look_none n1 (look_none n2 (look_none n3 (look_none n5 (look_none n800 (look_none n900 (rfl))))))) | (exact look_none n1 (look_none n2 (look_none n3 (look_none n5 (look_none n800 (look_none n900 (look_none n1005 (look_none n1036 (rfl))))))))) | (refine upd_none n1 ?_) | (refine upd_none n2 ?_) | (refine upd_none n3 ?_) | (refine upd_none n5 ?_) | (refine upd_none n800 ?_) | (refine upd_none n900 ?_) | (refine upd_none n1005 ?_) | (refine upd_none n1036 ?_) | (refine cut_none' fun _ => ?_) | (refine eb_none fun _ => ?_)
              · intro p hp hQ3
                refine ⟨fun h4 => ?_, fun h4 => ?_⟩
                · have hpn : p < t.n + 1 := by
                    have : (p : Int) < ((t.n + 1 : Nat) : Int) := of_decide_eq_true h4
                    omega
                  have e4 := succ_w (m := p) (n := t.n + 1) hpn (by omega)
                  clear h4
                  repeat' first | (exact PLe.refl _) | (exact BLe.refl _) | (exact PLeL.nil) | (exact BLeL.nil) | (refine ⟨?_, ?_⟩) | (refine PLeL.cons ?_ ?_) | (refine BLeL.cons ?_ ?_) | (refine ple_int ?_) | (refine ple_bool ?_) | (refine ple_tt ?_) | (refine ple_ff ?_) | (refine PLe.aggL ?_) | (refine PLe.tupL ?_) | (refine BLe.cellsL ?_) | (refine halt_rngO 2000 (cnt 26) (t.n + 1) [2, 3, 5, 7, 8, 20, 21, 25, 26] [] (fun q => [.ptr 2 0, .ptr 3 0, .ptr 5 0, .slice (some 1036) (t.n + 1) (fun x => rngL (roomsM t (t.b.lo + (i : Nat)) (t.c.lo + (j : Nat)) x)), I (p : Nat), I ((t.n + 1 : Nat) : Int), I (p : Nat), I ((t.n + 1 : Nat) : Int), I (q : Nat)]) (fun q => [(1, .cells (tstC t)), (2, .cells [.nils]), (3, .cells [I 0]), (5, .cells [.slice (some 800) (l).length (getP (l))]), (800, .grow (l).length 67 2), (900, .jmp .busy)] ++ [(1005, .cells [I 0, I (t.b.lo + (i : Nat)), I (t.c.lo + (j : Nat))]), (1036, .grow (t.n + 1) 32 2)]) (fun q => ∀ k, k < q → conAt t (t.b.lo + (i : Nat)) (t.c.lo + (j : Nat)) p k = false) rfl (.mk ?_ ?_) (fun x hx => absurd hx (Nat.not_lt_zero x)) ?_) | (refine fun h => absurd h (by decide)) | (refine fun (h : @Eq Bool _ _) => ?_)
                  all_goals first | trivial | rfl | omega | skip
                  · refine bn_all [1, 2, 3, 5, 800, 900, 1005, 1036] ⟨.refl _, .refl _, .refl _, .refl _, .refl _, .refl _, .refl _, .refl _, trivial⟩ ?_
                    intro s hO
                    obtain ⟨n1, n2, n3, n5, n800, n900, n1005, n1036, _⟩ := hO
                    refine ble_none (eb_none fun hk => ?_) (look_none n1 (look_none n2 (look_none n3 (look_none n5 (look_none n800 (look_none n900 (look_none n1005 (look_none n1036 (rfl)))))))))
                    have hs : s < 2000 := keepQ_lt hk
                    repeat' first | (exact rfl) | (exact look_none n1 (look_none n2 (look_none n3 (look_none n5 (look_none n800 (look_none n900 (look_none n1005 (look_none n1036 (rfl))))))))) | (refine upd_none n1 ?_) | (refine upd_none n2 ?_) | (refine upd_none n3 ?_) | (refine upd_none n5 ?_) | (refine upd_none n800 ?_) | (refine upd_none n900 ?_) | (refine upd_none n1005 ?_) | (refine upd_none n1036 ?_) | (refine cut_none' fun _ => ?_) | (refine eb_none fun _ => ?_)
                  · intro q hq hQ4
                    refine ⟨fun h5 => ?_, fun h5 => ?_⟩
                    · have hqn : q < t.n + 1 := by
                        have : (q : Int) < ((t.n + 1 : Nat) : Int) := of_decide_eq_true h5
                        omega
                      have e5 := succ_w (m := q) (n := t.n + 1) hqn (by omega)
                      clear h5
                      have e6 := conAt_rooms (t := t) hn (b := t.b.lo + (i : Nat)) (c := t.c.lo + (j : Nat)) hpn hqn
                      refine (Bool.eq_false_or_eq_true (decide ((roomsM t (t.b.lo + (i : Nat)) (t.c.lo + (j : Nat)) q).hi < (roomsM t (t.b.lo + (i : Nat)) (t.c.lo + (j : Nat)) p).lo))).elim (fun hd => ?_) fun hd => ?_
                      · have hd2 := e6.trans hd
                        have hf := fstP_t hpn hqn hQ3 hQ4 hd2
                        have hh := fstC_t hpn hqn hQ3 hQ4 hd2
                        have e7 : IntKind.i64.wrap ((p : Int) - 1) = -1 + (p : Int) := by rw [w64 (by omega) (by omega)]; omega
                        have e8 : IntKind.i64.wrap ((q : Int) - 1) = -1 + (q : Int) := by rw [w64 (by omega) (by omega)]; omega
                        have hadd : rowP t (t.b.lo + (i : Nat)) (allP t i) (j + 1) = l ++ [fstP t (t.b.lo + (i : Nat)) (t.c.lo + (j : Nat))] := by
                          show rowP t (t.b.lo + (i : Nat)) (allP t i) j ++ _ = _
                          rw [hl]
                        have hQ5 : ∀ x, x < j + 1 → conH t (t.b.lo + (i : Nat)) (t.c.lo + (x : Nat)) = true := fun x hx => by
                          rcases Nat.lt_succ_iff_lt_or_eq.1 hx with h | rfl
                          · exact hQ2 x h
                          · exact hh
                        repeat' first | (exact PLe.refl _) | (exact BLe.refl _) | (exact PLeL.nil) | (exact BLeL.nil) | (refine ⟨?_, ?_⟩) | (refine PLeL.cons ?_ ?_) | (refine BLeL.cons ?_ ?_) | (refine ple_int ?_) | (refine ple_bool ?_) | (refine ple_tt ?_) | (refine ple_ff ?_) | (refine PLe.aggL ?_) | (refine PLe.tupL ?_) | (refine BLe.cellsL ?_) | (refine next_rngO (off := 1000) (cn := cntF 4 t.c.lo) rfl (fun m => by show (t.c.lo + (m : Int) - t.c.lo).toNat = m; omega) hjc hQ5 (.mk ?_ ?_)) | (refine fun h => absurd h (by decide)) | (refine fun h => ?_; exfalso; simp only [hd, Int.toNat_natCast, Bool.cond_true_left, Bool.cond_false_right, Bool.cond_true_right, Bool.cond_false_left, cond_true, cond_false, Bool.not_true, Bool.not_false, Bool.not_not, Bool.and_true, Bool.true_and, Bool.and_false, Bool.false_and, Bool.or_true, Bool.true_or, Bool.or_false, Bool.false_or, beq_self_eq_true, bne_self_eq_false, Bool.true_eq_false, Bool.false_eq_true, reduceCtorEq, Bool.and_self, Bool.or_self, Int.reduceBEq, Int.reduceBNe, Int.reduceNeg, decide_true, decide_false, Int.reduceLT, Int.reduceLE, Int.reduceGT] at h; done) | (refine fun (h : @Eq Bool _ _) => ?_)
                        all_goals first | trivial | rfl | omega | (exact e2) | (exact hlen2) | (exact hlen3) | (show (0 : Int) ≤ (p : Int); omega) | (show (0 : Int) ≤ (q : Int); omega) | (show (p : Int) < ((t.n + 1 : Nat) : Int); omega) | (show (q : Int) < ((t.n + 1 : Nat) : Int); omega) | (show (l.length + 1) * 16 ≤ 140737488355328; omega) | (intro x hx; obtain rfl : x = 0 := (by omega); exact ⟨rfl, rfl⟩) | (simp only [hd, Int.toNat_natCast, Bool.cond_true_left, Bool.cond_false_right, Bool.cond_true_right, Bool.cond_false_left, cond_true, cond_false, Bool.not_true, Bool.not_false, Bool.not_not, Bool.and_true, Bool.true_and, Bool.and_false, Bool.false_and, Bool.or_true, Bool.true_or, Bool.or_false, Bool.false_or, beq_self_eq_true, bne_self_eq_false, Bool.true_eq_false, Bool.false_eq_true, reduceCtorEq, Bool.and_self, Bool.or_self, Int.reduceBEq, Int.reduceBNe, Int.reduceNeg, decide_true, decide_false, Int.reduceLT, Int.reduceLE, Int.reduceGT]; done) | (show @Eq Bool _ _; simp only [hd, Int.toNat_natCast, Bool.cond_true_left, Bool.cond_false_right, Bool.cond_true_right, Bool.cond_false_left, cond_true, cond_false, Bool.not_true, Bool.not_false, Bool.not_not, Bool.and_true, Bool.true_and, Bool.and_false, Bool.false_and, Bool.or_true, Bool.true_or, Bool.or_false, Bool.false_or, beq_self_eq_true, bne_self_eq_false, Bool.true_eq_false, Bool.false_eq_true, reduceCtorEq, Bool.and_self, Bool.or_self, Int.reduceBEq, Int.reduceBNe, Int.reduceNeg, decide_true, decide_false, Int.reduceLT, Int.reduceLE, Int.reduceGT]; done) | skip
                        refine bn_all [1, 2, 3, 5, 800, 900] ⟨.refl _, .refl _, .refl _, ?_, ?_, .refl _, trivial⟩ ?_
                        · show BLe (.cells [.slice (some 800) (l.length + 1) _]) (.cells [.slice (some 800) (rowP t (t.b.lo + (i : Nat)) (allP t i) (j + 1)).length (getP (rowP t (t.b.lo + (i : Nat)) (allP t i) (j + 1)))])
                          rw [hadd]
                          refine .cellsL (.cons (ple_slice (by simp) fun x hx => ?_) .nil)
                          by_cases hxl : x < l.length
                          · rw [blt_t hxl]; exact getP_old hxl
                          · obtain rfl : x = l.length := by
                              have hx : x < l.length + 1 := hx
                              omega
                            rw [blt_f hxl, Nat.sub_self]
                            refine Eq.trans ?_ (getP_new (l := l) (y := fstP t (t.b.lo + (i : Nat)) (t.c.lo + (j : Nat))))
                            rw [hf]
                            show [I (IntKind.i64.wrap ((p : Int) - 1)), I (IntKind.i64.wrap ((q : Int) - 1))] = [I (-1 + (p : Int)), I (-1 + (q : Int))]
                            rw [e7, e8]
                        · show BLe (.grow (l.length + 1) 67 2) (.grow (rowP t (t.b.lo + (i : Nat)) (allP t i) (j + 1)).length 67 2)
                          rw [hadd]
                          exact ble_grow (by simp)
                        intro s hO
                        obtain ⟨n1, n2, n3, n5, n800, n900, _⟩ := hO
                        refine ble_none (eb_none fun hk => ?_) (look_none n1 (look_none n2 (look_none n3 (look_none n5 (look_none n800 (look_none n900 (rfl)))))))
                        have hs : s < 1000 := keepQ_lt hk
                        repeat' first | (exact rfl) | (exact look_none n1 (look_none n2 (look_none n3 (look_none n5 (look_none n800 (look_none n900 (look_none (show s ≠ 1005 by omega) (look_none (show s ≠ 1036 by omega) (rfl))))))))) | (exact look_none n1 (look_none n2 (look_none n3 (look_none n5 (look_none n800 (look_none n900 (rfl))))))) | (refine upd_none n1 ?_) | (refine upd_none n2 ?_) | (refine upd_none n3 ?_) | (refine upd_none n5 ?_) | (refine upd_none n800 ?_) | (refine upd_none n900 ?_) | (refine upd_none (show s ≠ 1005 by omega) ?_) | (refine upd_none (show s ≠ 1036 by omega) ?_) | (refine cut_none' fun _ => ?_) | (refine eb_none fun _ => ?_)
                      · have hd2 := e6.trans hd
                        have hQ5 : ∀ x, x < q + 1 → conAt t (t.b.lo + (i : Nat)) (t.c.lo + (j : Nat)) p x = false := fun x hx => by
                          rcases Nat.lt_succ_iff_lt_or_eq.1 hx with h | rfl
                          · exact hQ4 x h
                          · exact hd2
                        repeat' first | (exact PLe.refl _) | (exact BLe.refl _) | (exact PLeL.nil) | (exact BLeL.nil) | (refine ⟨?_, ?_⟩) | (refine PLeL.cons ?_ ?_) | (refine BLeL.cons ?_ ?_) | (refine ple_int ?_) | (refine ple_bool ?_) | (refine ple_tt ?_) | (refine ple_ff ?_) | (refine PLe.aggL ?_) | (refine PLe.tupL ?_) | (refine BLe.cellsL ?_) | (refine next_rngO (off := 2000) (cn := cnt 26) rfl (fun _ => rfl) hqn hQ5 (.mk ?_ ?_)) | (refine fun h => absurd h (by decide)) | (refine fun h => ?_; exfalso; simp only [hd, Int.toNat_natCast, Bool.cond_true_left, Bool.cond_false_right, Bool.cond_true_right, Bool.cond_false_left, cond_true, cond_false, Bool.not_true, Bool.not_false, Bool.not_not, Bool.and_true, Bool.true_and, Bool.and_false, Bool.false_and, Bool.or_true, Bool.true_or, Bool.or_false, Bool.false_or, beq_self_eq_true, bne_self_eq_false, Bool.true_eq_false, Bool.false_eq_true, reduceCtorEq, Bool.and_self, Bool.or_self, Int.reduceBEq, Int.reduceBNe, Int.reduceNeg, decide_true, decide_false, Int.reduceLT, Int.reduceLE, Int.reduceGT] at h; done) | (refine fun (h : @Eq Bool _ _) => ?_)
                        all_goals first | trivial | rfl | omega | (exact hlen2) | (exact hlen3) | (exact e4) | (exact e5) | (show (0 : Int) ≤ (p : Int); omega) | (show (0 : Int) ≤ (q : Int); omega) | (show (p : Int) < ((t.n + 1 : Nat) : Int); omega) | (show (q : Int) < ((t.n + 1 : Nat) : Int); omega) | (simp only [hd, Int.toNat_natCast, Bool.cond_true_left, Bool.cond_false_right, Bool.cond_true_right, Bool.cond_false_left, cond_true, cond_false, Bool.not_true, Bool.not_false, Bool.not_not, Bool.and_true, Bool.true_and, Bool.and_false, Bool.false_and, Bool.or_true, Bool.true_or, Bool.or_false, Bool.false_or, beq_self_eq_true, bne_self_eq_false, Bool.true_eq_false, Bool.false_eq_true, reduceCtorEq, Bool.and_self, Bool.or_self, Int.reduceBEq, Int.reduceBNe, Int.reduceNeg, decide_true, decide_false, Int.reduceLT, Int.reduceLE, Int.reduceGT]; done) | (show @Eq Bool _ _; simp only [hd, Int.toNat_natCast, Bool.cond_true_left, Bool.cond_false_right, Bool.cond_true_right, Bool.cond_false_left, cond_true, cond_false, Bool.not_true, Bool.not_false, Bool.not_not, Bool.and_true, Bool.true_and, Bool.and_false, Bool.false_and, Bool.or_true, Bool.true_or, Bool.or_false, Bool.false_or, beq_self_eq_true, bne_self_eq_false, Bool.true_eq_false, Bool.false_eq_true, reduceCtorEq, Bool.and_self, Bool.or_self, Int.reduceBEq, Int.reduceBNe, Int.reduceNeg, decide_true, decide_false, Int.reduceLT, Int.reduceLE, Int.reduceGT]; done) | skip
                        refine bn_all [1, 2, 3, 5, 800, 900, 1005, 1036] ⟨.refl _, .refl _, .refl _, .refl _, .refl _, .refl _, .refl _, .refl _, trivial⟩ ?_
                        intro s hO
                        obtain ⟨n1, n2, n3, n5, n800, n900, n1005, n1036, _⟩ := hO
                        refine ble_none (eb_none fun hk => ?_) (look_none n1 (look_none n2 (look_none n3 (look_none n5 (look_none n800 (look_none n900 (look_none n1005 (look_none n1036 (rfl)))))))))
                        have hs : s < 2000 := keepQ_lt hk
                        repeat' first | (exact rfl) | (exact look_none n1 (look_none n2 (look_none n3 (look_none n5 (look_none n800 (look_none n900 (look_none n1005 (look_none n1036 (rfl))))))))) | (refine upd_none n1 ?_) | (refine upd_none n2 ?_) | (refine upd_none n3 ?_) | (refine upd_none n5 ?_) | (refine upd_none n800 ?_) | (refine upd_none n900 ?_) | (refine upd_none n1005 ?_) | (refine upd_none n1036 ?_) | (refine cut_none' fun _ => ?_) | (refine eb_none fun _ => ?_)
                    · have hq2 : q = t.n + 1 := by
                        have : ¬ ((q : Int) < ((t.n + 1 : Nat) : Int)) := of_decide_eq_false h5
                        omega
                      subst hq2
                      clear h5
                      have hr := rowC_f hQ4
                      have hQ5 : ∀ x, x < p + 1 → decide (0 ≤ rowC t (t.b.lo + (i : Nat)) (t.c.lo + (j : Nat)) x) = false := fun x hx => by
                        rcases Nat.lt_succ_iff_lt_or_eq.1 hx with h | rfl
                        · exact hQ3 x h
                        · exact hr
                      repeat' first | (exact PLe.refl _) | (exact BLe.refl _) | (exact PLeL.nil) | (exact BLeL.nil) | (refine ⟨?_, ?_⟩) | (refine PLeL.cons ?_ ?_) | (refine BLeL.cons ?_ ?_) | (refine ple_int ?_) | (refine ple_bool ?_) | (refine ple_tt ?_) | (refine ple_ff ?_) | (refine PLe.aggL ?_) | (refine PLe.tupL ?_) | (refine BLe.cellsL ?_) | (refine next_rngO (off := 2000) (cn := cnt 21) rfl (fun _ => rfl) hpn hQ5 (.mk ?_ ?_)) | (refine fun h => absurd h (by decide)) | (refine fun (h : @Eq Bool _ _) => ?_)
                      all_goals first | trivial | rfl | omega | (exact hlen2) | (exact hlen3) | (exact e4) | (exact e5) | (show (0 : Int) ≤ (p : Int); omega) | (show (0 : Int) ≤ (q : Int); omega) | (show (p : Int) < ((t.n + 1 : Nat) : Int); omega) | (show (q : Int) < ((t.n + 1 : Nat) : Int); omega) | skip
                      refine bn_all [1, 2, 3, 5, 800, 900, 1005, 1036] ⟨.refl _, .refl _, .refl _, .refl _, .refl _, .refl _, .refl _, .refl _, trivial⟩ ?_
                      intro s hO
                      obtain ⟨n1, n2, n3, n5, n800, n900, n1005, n1036, _⟩ := hO
                      refine ble_none (eb_none fun hk => ?_) (look_none n1 (look_none n2 (look_none n3 (look_none n5 (look_none n800 (look_none n900 (look_none n1005 (look_none n1036 (rfl)))))))))
                      have hs : s < 2000 := keepQ_lt hk
                      repeat' first | (exact rfl) | (exact look_none n1 (look_none n2 (look_none n3 (look_none n5 (look_none n800 (look_none n900 (look_none n1005 (look_none n1036 (rfl))))))))) | (refine upd_none n1 ?_) | (refine upd_none n2 ?_) | (refine upd_none n3 ?_) | (refine upd_none n5 ?_) | (refine upd_none n800 ?_) | (refine upd_none n900 ?_) | (refine upd_none n1005 ?_) | (refine upd_none n1036 ?_) | (refine cut_none' fun _ => ?_) | (refine eb_none fun _ => ?_)
                · have hp2 : p = t.n + 1 := by
                    have : ¬ ((p : Int) < ((t.n + 1 : Nat) : Int)) := of_decide_eq_false h4
                    omega
                  subst hp2
                  clear h4
                  have hf := fstC_f hQ3
                  have hA2 : allH t = false := allN_f hib (allN_f hjc hf)
                  repeat' first | (exact PLe.refl _) | (exact BLe.refl _) | (exact PLeL.nil) | (exact BLeL.nil) | (refine ⟨?_, ?_⟩) | (refine PLeL.cons ?_ ?_) | (refine BLeL.cons ?_ ?_) | (refine ple_int ?_) | (refine ple_bool ?_) | (refine ple_tt ?_) | (refine ple_ff ?_) | (refine PLe.aggL ?_) | (refine PLe.tupL ?_) | (refine BLe.cellsL ?_) | (refine fun h => absurd h (by decide)) | (refine fun (h : @Eq Bool _ _) => ?_)
                  all_goals first | trivial | rfl | omega | (exact hlen2) | (exact hlen3) | (exact e4) | (exact e5) | (show (0 : Int) ≤ (p : Int); omega) | (show (0 : Int) ≤ (q : Int); omega) | (show (p : Int) < ((t.n + 1 : Nat) : Int); omega) | (show (q : Int) < ((t.n + 1 : Nat) : Int); omega) | skip
        · have hjc : j = t.nc := by
            have : ¬ (t.c.lo + (j : Int) ≤ t.c.hi) := of_decide_eq_false h2
            omega
          subst hjc
          have hall2 : allP t (i + 1) = rowP t (t.b.lo + (i : Nat)) (allP t i) t.nc := rfl
          have hQ5 : ∀ x, x < i + 1 → conHr t x = true := fun x hx => by
            rcases Nat.lt_succ_iff_lt_or_eq.1 hx with h | rfl
            · exact hQ x h
            · exact allN_t hQ2
          repeat' first | (exact PLe.refl _) | (exact BLe.refl _) | (exact PLeL.nil) | (exact BLeL.nil) | (refine ⟨?_, ?_⟩) | (refine PLeL.cons ?_ ?_) | (refine BLeL.cons ?_ ?_) | (refine ple_int ?_) | (refine ple_bool ?_) | (refine ple_tt ?_) | (refine ple_ff ?_) | (refine PLe.aggL ?_) | (refine PLe.tupL ?_) | (refine BLe.cellsL ?_) | (refine next_rngO (off := 1000) (cn := cntF 3 t.b.lo) rfl (fun m => by show (t.b.lo + (m : Int) - t.b.lo).toNat = m; omega) hib hQ5 (.mk ?_ ?_)) | (refine fun h => absurd h (by decide)) | (refine fun (h : @Eq Bool _ _) => ?_)
          all_goals first | trivial | rfl | omega | (exact e1) | skip
          refine bn_all [1, 2, 3, 5, 800, 900] ⟨.refl _, .refl _, .refl _, .refl _, .refl _, .refl _, trivial⟩ ?_
          intro s hO
          obtain ⟨n1, n2, n3, n5, n800, n900, _⟩ := hO
          refine ble_none (eb_none fun hk => ?_) (look_none n1 (look_none n2 (look_none n3 (look_none n5 (look_none n800 (look_none n900 (rfl)))))))
          have hs : s < 1000 := keepQ_lt hk
          repeat' first | (exact rfl) | (exact look_none n1 (look_none n2 (look_none n3 (look_none n5 (look_none n800 (look_none n900 (rfl))))))) | (refine upd_none n1 ?_) | (refine upd_none n2 ?_) | (refine upd_none n3 ?_) | (refine upd_none n5 ?_) | (refine upd_none n800 ?_) | (refine upd_none n900 ?_) | (refine cut_none' fun _ => ?_) | (refine eb_none fun _ => ?_)
    · have hib : i = t.nb := by
        have : ¬ (t.b.lo + (i : Int) ≤ t.b.hi) := of_decide_eq_false h1
        omega
      subst hib
      have hA2 : allH t = true := allN_t hQ
      exact absurd (hA.symm.trans hA2) (by decide)
end Go.Proofs.Ytnjhbmcambofgaa
