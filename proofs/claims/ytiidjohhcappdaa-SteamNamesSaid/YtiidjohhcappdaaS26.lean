/- Layer 1: Train. -/
import Derived.Test.YtiidjohhcappdaaS25
namespace Go.Proofs.Ytiidjohhcappdaa
open Go.V
set_option linter.unusedSimpArgs false

noncomputable def trE (n : Nat) (t : Nat → Row) (m : Nat) (l : Nat → Int) (x : Stream) : Int := if chkLE n t m l = 0 then (bif trB m l then (if okS x then 0 else 1) else 2) else chkLE n t m l
noncomputable def trN (n : Nat) (t : Nat → Row) (m : Nat) (l : Nat → Int) (x : Stream) : Nat := if trE n t m l x = 0 then m else 0
noncomputable def trainS0 : V.Spec
  | [.slice none n get, .slice none m lget, .agg [.int .i64 a, .int .i64 b, .int .i64 c, .int .i64 d]] => (some (isTLs n get m lget), .tup [.slice none (trN n (fun i => rowOf (get i)) m (fun i => intOf (lget i)) ⟨a, b, c, d⟩) (fun i => partL (trP (fun i => rowOf (get i)) (fun i => intOf (lget i)) ⟨a, b, c, d⟩ i)), I (trE n (fun i => rowOf (get i)) m (fun i => intOf (lget i)) ⟨a, b, c, d⟩)])
  | _ => bad
theorem chkLE_0 {n : Nat} {t : Nat → Row} {m : Nat} {l : Nat → Int} (h : chkLE n t m l = 0) : okT n t ∧ Upto (fun i => 0 ≤ l i ∧ l i ≤ (n : Int) - 1) m := by
  unfold chkLE at h
  cases hT : okTb n t with
  | false => rw [hT] at h; exact absurd (show (1 : Int) = 0 from h) (by decide)
  | true =>
    rw [hT] at h
    cases hL : allB m fun i => 0 ≤ l i ∧ l i ≤ (n : Int) - 1 with
    | false => rw [hL] at h; exact absurd (show (2 : Int) = 0 from h) (by decide)
    | true => exact ⟨@of_decide_eq_true _ (Classical.propDecidable _) hT, allB_get hL⟩

set_option maxRecDepth 20000 in
set_option maxHeartbeats 4000000 in
theorem sf40s : SF Try.prog 40 trainS0 := by
  refine sf_ofI types_ok mixed (l := [(67, chkLS), (69, isTrainS), (22, chkS), (70, rowsS), (68, partsS')]) ⟨sf67, sf69, sf22, sf70, sf68', trivial⟩ (es := []) trivial (its := [(84, 900, 1000, 2000, it84)]) ⟨si84, trivial⟩ 3 Try.func40 rfl (by kernel_rfl) fun args h => ?_
  unfold trainS0 at h
  split at h
  · rename_i n get m lget a b c d
    have h : isTLs n get m lget := h
    cases h with
    | no h => exact h.elim
    | mk t l hn hm e e' =>
    subst e e'
    have e : (trainS0 [.slice none n fun i => rowL (t i), .slice none m fun i => intL (l i), .agg [.int .i64 a, .int .i64 b, .int .i64 c, .int .i64 d]]).2 = .tup [.slice none (trN n t m l ⟨a, b, c, d⟩) (fun i => partL (trP t l ⟨a, b, c, d⟩ i)), I (trE n t m l ⟨a, b, c, d⟩)] := rfl
    refine ⟨rfl, ?_⟩
    rw [e]
    clear e
    have ech : (chkLS [.slice none n fun i => rowL (t i), .slice none m fun i => intL (l i)]).2 = I (chkLE n t m l) := rfl
    refine ⟨.mk t l hn hm rfl (fun _ _ => rfl), fun h1 => ?_, fun h1 => ?_⟩
    · have h1 : (chkLE n t m l != 0) = true := h1
      rw [bne_iff_ne] at h1
      have hE : trE n t m l ⟨a, b, c, d⟩ = chkLE n t m l := if_neg h1
      have hN : trN n t m l ⟨a, b, c, d⟩ = 0 := if_neg (by rw [hE]; exact h1)
      rw [hN, hE]
      refine ⟨rfl, ple_ok ⟨⟨rfl, fun i hi => by omega⟩, rfl, trivial⟩⟩
    · have h1 : (chkLE n t m l != 0) = false := h1
      rw [bne_eq_false_iff_eq] at h1
      obtain ⟨hT, hL⟩ := chkLE_0 h1
      refine ⟨.mk l hm rfl, fun h2 => ?_, fun h2 => ?_⟩
      · have h2 : (!trB m l) = true := h2
        rw [Bool.not_eq_true'] at h2
        have hE : trE n t m l ⟨a, b, c, d⟩ = 2 := by unfold trE; rw [if_pos h1, h2]; rfl
        have hN : trN n t m l ⟨a, b, c, d⟩ = 0 := if_neg (by rw [hE]; decide)
        rw [hN, hE]
        refine ⟨rfl, ple_ok ⟨⟨rfl, fun i hi => by omega⟩, rfl, trivial⟩⟩
      · have h2 : (!trB m l) = false := h2
        rw [Bool.not_eq_false'] at h2
        obtain ⟨g1, g2, g3⟩ := trB_len h2
        refine ⟨fun h3 => ?_, fun h3 => ?_⟩
        · have h3 : ((if decide (okS ⟨a, b, c, d⟩) = true then (0 : Int) else 1) != 0) = true := h3
          have hx : ¬ okS ⟨a, b, c, d⟩ := by
            intro hx
            rw [decide_eq_true hx] at h3
            exact absurd h3 (by decide)
          have hE : trE n t m l ⟨a, b, c, d⟩ = 1 := by unfold trE; rw [if_pos h1, h2, if_neg hx]; rfl
          have hN : trN n t m l ⟨a, b, c, d⟩ = 0 := if_neg (by rw [hE]; decide)
          rw [hN, hE]
          refine ⟨rfl, ple_ok ⟨⟨rfl, fun i hi => by omega⟩, ?_, trivial⟩⟩
          show (if decide (okS ⟨a, b, c, d⟩) = true then (0 : Int) else 1) = 1
          rw [decide_eq_false hx]; rfl
        · have h3 : ((if decide (okS ⟨a, b, c, d⟩) = true then (0 : Int) else 1) != 0) = false := h3
          have hx : okS ⟨a, b, c, d⟩ := by
            cases hd : decide (okS ⟨a, b, c, d⟩) with
            | true => exact of_decide_eq_true hd
            | false => rw [hd] at h3; exact absurd h3 (by decide)
          have hE : trE n t m l ⟨a, b, c, d⟩ = 0 := by unfold trE; rw [if_pos h1, h2, if_pos hx]; rfl
          have hN : trN n t m l ⟨a, b, c, d⟩ = m := if_pos hE
          rw [hN, hE]
          have hW : ∀ i, i ≤ m → okS (trW t l ⟨a, b, c, d⟩ i) := by
            intro i
            induction i with
            | zero => exact fun _ => hx
            | succ i ih =>
              intro hi
              have := hL.all i (by omega)
              exact (okS_parts ((hT.2.2.all (l i).toNat (by omega)).1) (ih (by omega))).1
          have hrow : ∀ i, i < m → okR (t (l i).toNat) := fun i hi => (hT.2.2.all (l i).toNat (by have := hL.all i hi; omega)).1
          clear h3
          refine ⟨trivial, ?_⟩
          refine Halt.mk ⟨[(10, 0, 800, 73, 10)], ?_⟩
          refine ⟨rfl, fun L => ⟨rfl, ?_⟩⟩
          refine Halt.mk ⟨[0, 1, 2, 6, 7, 8], [], fun st => ∃ k : Nat, k ≤ m ∧ st = mkSt ([0, 1, 2, 6, 7, 8].zip [.yld L, .cptr [.slice none m fun i => intL (l i)], .cptr [.slice none n fun i => rowL (t i)], .slice none m fun i => intL (l i), I m, I k])
            [(5, .cells [I (trW t l ⟨a, b, c, d⟩ k).m, I (trW t l ⟨a, b, c, d⟩ k).h, I (trW t l ⟨a, b, c, d⟩ k).s, I (trW t l ⟨a, b, c, d⟩ k).g]), (6, .grow 0 73 10), (10, .cells [.slice (some 800) k fun i => partL (trP t l ⟨a, b, c, d⟩ i)]), (800, .grow k 73 10), (900, .jmp .ready)],
            fun st => m - (match st.slots 8 with | .int _ k => k.toNat | _ => 0), ?_, ?_⟩
          · refine ⟨_, sle_headO 1000 (live := [0, 1, 2, 6, 7, 8]) [.yld L, .cptr [.slice none m fun i => intL (l i)], .cptr [.slice none n fun i => rowL (t i)], .slice none m fun i => intL (l i), I m, I (0 : Nat)] _ (.cons (.refl _) (.cons (.refl _) (.cons (.refl _) (.cons (.refl _) (.cons (.refl _) (.cons (.refl _) .nil)))))) (bn_all [5, 6, 10, 800, 900] ⟨.refl _, .refl _, ?_, .refl _, .refl _, trivial⟩ ?_), 0, Nat.zero_le _, rfl⟩
            · show BLe (.cells [.slice (some 800) 0 fun _ => []]) (.cells [.slice (some 800) 0 fun i => partL (trP t l ⟨a, b, c, d⟩ i)])
              exact .cellsL (.cons (.slice _ _ _ _ fun i hi => by omega) .nil)
            rintro s ⟨h5, h6, h10, h800, h900, _⟩
            refine ble_none (cl_none (upd_none h900 (upd_none h10 (upd_none h800 (upd_none h10 (upd_none h6 (upd_none h5 rfl))))))) (look_none h5 (look_none h6 (look_none h10 (look_none h800 (look_none h900 rfl)))))
          · rintro st ⟨k, hk, rfl⟩
            refine ⟨fun h4 => ?_, fun h4 => ?_⟩
            · have hlt : k < m := by simpa using h4
              clear h4
              have hLk := hL.all k hlt
              have okx : okRX (t (l ((k : Int)).toNat).toNat) (trW t l ⟨a, b, c, d⟩ k) := .mk (hrow k hlt) (hW k hk)
              repeat' first
                | refine ⟨?_, ?_⟩
                | refine fun h => absurd h (by decide)
                | refine fun _ => ?_
                | refine Halt.mk ⟨_, sle_headO 1000 (live := [0, 1, 2, 6, 7, 8]) [.yld L, .cptr [.slice none m fun i => intL (l i)], .cptr [.slice none n fun i => rowL (t i)], .slice none m fun i => intL (l i), I m, I (k + 1 : Nat)]
                    [(5, .cells [I (trW t l ⟨a, b, c, d⟩ (k + 1)).m, I (trW t l ⟨a, b, c, d⟩ (k + 1)).h, I (trW t l ⟨a, b, c, d⟩ (k + 1)).s, I (trW t l ⟨a, b, c, d⟩ (k + 1)).g]), (6, .grow 0 73 10), (10, .cells [.slice (some 800) (k + 1) fun i => partL (trP t l ⟨a, b, c, d⟩ i)]), (800, .grow (k + 1) 73 10), (900, .jmp .ready)]
                    (.cons (.refl _) (.cons (.refl _) (.cons (.refl _) (.cons (.refl _) (.cons (.refl _) (.cons (ple_ok ?_) .nil)))))) (bn_all [5, 6, 10, 800, 900] ⟨.refl _, .refl _, ?_, .refl _, .refl _, trivial⟩ ?_), ⟨k + 1, ?_, rfl⟩, ?_⟩
              all_goals first
                | trivial
                | rfl
                | omega
                | exact okx
                | exact hLk.1
                | (show l k < (n : Int); omega)
                | (show (k + 1) * 80 ≤ 140737488355328; omega)
                | (rename_i i hi; obtain rfl : i = 0 := (by omega); rfl)
                | (show IntKind.i64.wrap ((k : Int) + 1) = ((k + 1 : Nat) : Int); rw [w64 (by omega) (by omega)]; omega)
                | (show m - (k + 1) < m - k; omega)
                | skip
              · refine .cells _ _ rfl fun j hj => ?_
                obtain rfl : j = 0 := by
                  have hj : j < 1 := hj
                  omega
                refine .slice _ _ _ _ fun i hi => ?_
                by_cases hl : i < k
                · show (bif Nat.blt i k then _ else _) = _
                  rw [blt_t hl]
                  rfl
                · obtain rfl : i = k := by omega
                  show (bif Nat.blt i i then _ else _) = _
                  rw [blt_f hl, Nat.sub_self]
                  rfl
              · rename_i s hO
                obtain ⟨h5, h6, h10, h800, h900, _⟩ := hO
                refine ble_none (cl_none ?_) (look_none h5 (look_none h6 (look_none h10 (look_none h800 (look_none h900 rfl)))))
                refine cut_none' fun hs => ?_
                repeat first
                  | refine upd_none h900 ?_
                  | refine upd_none h5 ?_
                  | refine upd_none h10 ?_
                  | refine upd_none h800 ?_
                  | refine upd_none (show s ≠ 2012 by omega) ?_
                  | refine upd_none (show s ≠ 2011 by omega) ?_
                exact look_none h5 (look_none h6 (look_none h10 (look_none h800 (look_none h900 rfl))))
            · have : k = m := by
                have h4 : ¬ ((k : Int) < m) := of_decide_eq_false h4
                omega
              subst this
              exact ⟨rfl, rfl, ple_ok ⟨⟨rfl, fun i hi => rfl⟩, rfl, trivial⟩⟩
  · exact h.elim
end Go.Proofs.Ytiidjohhcappdaa
