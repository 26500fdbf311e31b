/- Layer 1: Share by the document's words. -/
import Derived.Test.YtiidjohhcappdaaS39
import Derived.Test.YtiidjohhcappdaaS38
import Derived.Test.YtiidjohhcappdaaM20
namespace Go.Proofs.Ytiidjohhcappdaa
open Go.V
set_option linter.unusedSimpArgs false

inductive isRs (x : Stream) (n : Nat) (get : Nat → List PV) : Prop
  | mk (w : Nat → Int) (hx : okS x) (hw : okW n w) (e : get = fun i => intL (w i))
  | no (h : False)
def lossR (x : Stream) (l : Nat → Stream) (k : Nat) : List PV := [I (x.h - (sumS l k).h), I (x.s - (sumS l k).s), I (x.g - (sumS l k).g)]
noncomputable def refShS : V.Spec
  | [.agg [.int .i64 a, .int .i64 b, .int .i64 c, .int .i64 d], .slice none n get] => (some (isRs ⟨a, b, c, d⟩ n get), .tup [.slice none n (fun i => strL (shP ⟨a, b, c, d⟩ n (fun i => intOf (get i)) i)), .agg (lossR ⟨a, b, c, d⟩ (shP ⟨a, b, c, d⟩ n fun i => intOf (get i)) n)])
  | _ => bad
def dnL (o : Nat → Nat) (t : Nat) (i : Nat) : List PV := bif dn o t i then [.tt] else [.ff]
theorem bs_dn {r : Nat → Int} {d : Nat → Bool} {k : Nat} (h : d k = true) : bs r d (k + 1) = bs r d k := by
  show (bif d k then _ else _) = _
  rw [h]; rfl
theorem bs_hi {r : Nat → Int} {d : Nat → Bool} {k : Nat} (h : d k = false) (hc : bs r d k < 0 ∨ r (bs r d k).toNat < r k) : bs r d (k + 1) = (k : Int) := by
  show (bif d k then _ else _) = _
  rw [h]; exact if_pos hc
theorem bs_lo {r : Nat → Int} {d : Nat → Bool} {k : Nat} (h : d k = false) (h0 : ¬ bs r d k < 0) (hc : ¬ r (bs r d k).toNat < r k) : bs r d (k + 1) = bs r d k := by
  show (bif d k then _ else _) = _
  rw [h]; exact if_neg fun h => h.elim h0 hc
theorem put_dn {o : Nat → Nat} {t x : Nat} : (bif Nat.beq x (((o t : Nat) : Int)).toNat then fillL (dnL o t (((o t : Nat) : Int)).toNat) 0 [.tt] else dnL o t x) = dnL o (t + 1) x := by
  rw [Int.toNat_natCast]
  unfold dnL
  show _ = (bif (bif Nat.beq x (o t) then true else dn o t x) then [PV.tt] else [.ff])
  cases Nat.beq x (o t) with
  | true => cases dn o t (o t) <;> rfl
  | false => rfl
theorem prt_eq {x : Stream} {m : Int} (hm : 0 ≤ m ∧ m ≤ x.m) : (⟨m, if x.m = 0 then 0 else x.h * m / x.m, if x.m = 0 then 0 else x.s * m / x.m, if x.m = 0 then 0 else x.g * m / x.m⟩ : Stream) = prtS x m := by
  by_cases hz : x.m = 0
  · have e : prtS x m = zeroS := if_pos hz
    obtain rfl : m = 0 := by omega
    rw [e, if_pos hz, if_pos hz, if_pos hz]; rfl
  · have e : prtS x m = ⟨x.m * m / x.m, x.h * m / x.m, x.s * m / x.m, x.g * m / x.m⟩ := if_neg hz
    rw [e, if_neg hz, if_neg hz, if_neg hz, Int.mul_ediv_cancel_left _ hz]
set_option maxRecDepth 20000 in
set_option maxHeartbeats 2500000 in
theorem sf35 : SF Try.prog 35 refShS := by
  refine sf_of types_ok mixed (l := [(65, rpS)]) ⟨sf65, trivial⟩ (es := []) trivial 2 Try.func35 rfl (by kernel_rfl) fun args h => ?_
  unfold refShS at h
  split at h
  · rename_i a b c d n get
    have h : isRs ⟨a, b, c, d⟩ n get := h
    cases h with
    | no h => exact h.elim
    | mk w hx hw e =>
    subst e
    have e : (refShS [.agg [.int .i64 a, .int .i64 b, .int .i64 c, .int .i64 d], .slice none n fun i => intL (w i)]).2 = .tup [.slice none n (fun i => strL (shP ⟨a, b, c, d⟩ n w i)), .agg (lossR ⟨a, b, c, d⟩ (shP ⟨a, b, c, d⟩ n w) n)] := rfl
    refine ⟨rfl, ?_⟩
    rw [e]
    clear e
    have h1 := hw.h1
    have h2 := hw.h2
    have hM : 0 ≤ a ∧ a ≤ 1000000 := ⟨hx.1, hx.2.1⟩
    have hW : ¬ sumZ w n = 0 := by have := hw.pos; omega
    have hWb := (hw.le (Nat.le_refl n)).2
    refine ⟨rfl, Halt.mk ⟨[1, 2, 5, 6, 7, 8], [2, 5], fun st => ∃ m : Nat, m ≤ n ∧ st = mkSt ([1, 2, 5, 6, 7, 8].zip [.slice none n fun i => intL (w i), .ptr 2 0, .ptr 5 0, I (sumZ w m), I a, I m]) ([2, 5].zip [.cells [I a, I b, I c, I d], .cells [I 0, I 0, I 0]]),
      fun st => n - (match st.slots 8 with | .int _ k => k.toNat | _ => 0), ?_, ?_⟩⟩
    · exact ⟨_, sle_head (live := [1, 2, 5, 6, 7, 8]) (keep := [2, 5]) [.slice none n fun i => intL (w i), .ptr 2 0, .ptr 5 0, I 0, I a, I (0 : Nat)] [.cells [I a, I b, I c, I d], .cells [I 0, I 0, I 0]] (.cons (.refl _) (.cons (.refl _) (.cons (.refl _) (.cons (.refl _) (.cons (.refl _) (.cons (.refl _) .nil)))))) (.cons (.refl _) (.cons (.refl _) .nil)), 0, Nat.zero_le _, rfl⟩
    · rintro st ⟨m, hm, rfl⟩
      refine ⟨fun h4 => ?_, fun h4 => ?_⟩
      · have hlt : m < n := by simpa using h4
        clear h4
        have em : IntKind.i64.wrap ((m : Int) + 1) = ((m + 1 : Nat) : Int) := by rw [w64 (by omega) (by omega)]; omega
        have hs := hw.le hm
        have hx := hw.w0 m hlt
        have es : IntKind.i64.wrap (sumZ w m + w m) = sumZ w (m + 1) := w64 (by omega) (by omega)
        repeat' first
          | refine ⟨?_, ?_⟩
          | refine Halt.mk ⟨_, sle_head (live := [1, 2, 5, 6, 7, 8]) (keep := [2, 5]) [.slice none n fun i => intL (w i), .ptr 2 0, .ptr 5 0, I (sumZ w (m + 1)), I a, I (m + 1 : Nat)] [.cells [I a, I b, I c, I d], .cells [I 0, I 0, I 0]] (.cons (.refl _) (.cons (.refl _) (.cons (.refl _) (.cons (ple_ok es) (.cons (.refl _) (.cons (ple_ok em) .nil)))))) (.cons (.refl _) (.cons (.refl _) .nil)), ⟨m + 1, by omega, rfl⟩, ?_⟩
        all_goals first
          | trivial
          | rfl
          | omega
          | exact Nat.le_refl 1
          | skip
        show n - ((m + 1 : Nat) : Int).toNat < n - ((m : Nat) : Int).toNat
        omega
      · obtain rfl : n = m := by
          have h4 : ¬ ((m : Int) < n) := of_decide_eq_false h4
          omega
        clear h4
        repeat' first
          | refine ⟨?_, ?_⟩
          | refine Halt.mk ⟨[1, 2, 5, 6, 7, 9, 10], [2, 5, 35], fun st => ∃ m : Nat, m ≤ n ∧ st = mkSt ([1, 2, 5, 6, 7, 9, 10].zip [.slice none n fun i => intL (w i), .ptr 2 0, .ptr 5 0, I (sumZ w n), I (a - sq (sumZ w n) a w m), .own 35 n, I m])
                ([2, 5, 35].zip [.cells [I a, I b, I c, I d], .cells [I 0, I 0, I 0], .arr n 1 fun i => [I (qF (sumZ w n) a w m i)]]),
              fun st => n - (match st.slots 10 with | .int _ k => k.toNat | _ => 0),
              ⟨_, sle_head (live := [1, 2, 5, 6, 7, 9, 10]) (keep := [2, 5, 35]) [.slice none n fun i => intL (w i), .ptr 2 0, .ptr 5 0, I (sumZ w n), I (a - sq (sumZ w n) a w 0), .own 35 n, I (0 : Nat)] [.cells [I a, I b, I c, I d], .cells [I 0, I 0, I 0], .arr n 1 fun i => [I (qF (sumZ w n) a w 0 i)]]
                (.cons (.refl _) (.cons (.refl _) (.cons (.refl _) (.cons (.refl _) (.cons (ple_ok ?_) (.cons (.refl _) (.cons (.refl _) .nil))))))) (.cons (.refl _) (.cons (.refl _) (.cons (.arr _ _ _ _ fun x hx => ?_) .nil))), 0, Nat.zero_le _, rfl⟩, ?_⟩
        all_goals first
          | trivial
          | rfl
          | omega
          | (show (8 : Int) * (n : Int) ≤ 140737488355328; omega)
          | exact Nat.le_refl 1
          | (show a = a - 0; omega)
          | skip
        rintro st ⟨m, hm, rfl⟩
        refine ⟨fun h4 => ?_, fun h4 => ?_⟩
        · have hlt : m < n := by simpa using h4
          clear h4
          have em : IntKind.i64.wrap ((m : Int) + 1) = ((m + 1 : Nat) : Int) := by rw [w64 (by omega) (by omega)]; omega
          have hx := hw.w0 m hlt
          have hp : 0 ≤ a * w m := Int.mul_nonneg hM.1 hx.1
          have hp2 : a * w m ≤ 1000000 * 1000 := Int.mul_le_mul hM.2 hx.2 hx.1 (by decide)
          have eA : IntKind.i64.wrap (a * w m) = a * w m := w64 (by omega) (by omega)
          have hq0 : 0 ≤ a * w m / sumZ w n := Int.ediv_nonneg hp (Int.le_of_lt hw.pos)
          have hq1 : a * w m / sumZ w n ≤ a * w m := Int.ediv_le_self _ hp
          have eQ : IntKind.i64.wrap ((IntKind.i64.wrap (a * w m)).tdiv (sumZ w n)) = a * w m / sumZ w n := by rw [eA, Int.tdiv_eq_ediv_of_nonneg hp]; exact w64 (by omega) (by omega)
          have hs := sq_bd hw hM hm
          have hs' := sq_bd hw hM (show m + 1 ≤ n by omega)
          have eS : IntKind.i64.wrap (a - sq (sumZ w n) a w m - a * w m / sumZ w n) = a - sq (sumZ w n) a w (m + 1) := by
            have e : sq (sumZ w n) a w (m + 1) = sq (sumZ w n) a w m + a * w m / sumZ w n := rfl
            rw [e] at hs' ⊢
            rw [w64 (by omega) (by omega)]; omega
          repeat' first
            | refine ⟨?_, ?_⟩
            | refine frc3_of (V' := I (a * w m / sumZ w n)) (show unc ti3.agg (((bif Nat.beq m m then fillL [I (qF (sumZ w n) a w m m)] 0 [I (IntKind.i64.wrap ((IntKind.i64.wrap (a * w m)).tdiv (sumZ w n)))] else [I (qF (sumZ w n) a w m m)]).drop 0).take ti3.size) = I (a * w m / sumZ w n) by rw [show Nat.beq m m = true from Nat.beq_refl m, eQ]; rfl) ?_
            | refine Halt.mk ⟨_, sle_head (live := [1, 2, 5, 6, 7, 9, 10]) (keep := [2, 5, 35]) [.slice none n fun i => intL (w i), .ptr 2 0, .ptr 5 0, I (sumZ w n), I (a - sq (sumZ w n) a w (m + 1)), .own 35 n, I (m + 1 : Nat)] [.cells [I a, I b, I c, I d], .cells [I 0, I 0, I 0], .arr n 1 fun i => [I (qF (sumZ w n) a w (m + 1) i)]]
                (.cons (.refl _) (.cons (.refl _) (.cons (.refl _) (.cons (.refl _) (.cons (ple_ok eS) (.cons (.refl _) (.cons (ple_ok em) .nil))))))) (.cons (.refl _) (.cons (.refl _) (.cons (.arr _ _ _ _ fun x hx => ?_) .nil))), ⟨m + 1, by omega, rfl⟩, ?_⟩
          all_goals first
            | trivial
            | rfl
            | omega
            | exact hW
            | exact Nat.le_refl 1
            | (show 0 + 1 ≤ (cond (Nat.beq m m) [_] [_] : List PV).length; cases Nat.beq m m <;> exact Nat.le_refl 1)
            | exact put_get (f := qF (sumZ w n) a w m) (g := qF (sumZ w n) a w (m + 1)) (eQ.trans (qF_lt (by omega)).symm) (fun x hx => qF_step hx)
            | (show n - ((m + 1 : Nat) : Int).toNat < n - ((m : Nat) : Int).toNat; omega)
            | skip
        · obtain rfl : n = m := by
            have h4 : ¬ ((m : Int) < n) := of_decide_eq_false h4
            omega
          clear h4
          have hl := left_bd hw hM
          have hS := ordR_srt (rF (sumZ w n) a w n) n
          generalize ho : ordR (rF (sumZ w n) a w n) n = o at hS
          repeat' first
            | refine ⟨?_, ?_⟩
            | refine Halt.mk ⟨[1, 2, 5, 6, 7, 9, 11], [2, 5, 35, 62], fun st => ∃ t : Nat, t ≤ (leftM a w n).toNat ∧ st = mkSt ([1, 2, 5, 6, 7, 9, 11].zip [.slice none n fun i => intL (w i), .ptr 2 0, .ptr 5 0, I (sumZ w n), I (leftM a w n - t), .own 35 n, .own 62 n])
                  ([2, 5, 35, 62].zip [.cells [I a, I b, I c, I d], .cells [I 0, I 0, I 0], .arr n 1 fun i => [I (shM a w n t i)], .arr n 1 (dnL o t)]),
                fun st => (match st.slots 7 with | .int _ k => k.toNat | _ => 0), ⟨_, sle_head (live := [1, 2, 5, 6, 7, 9, 11]) (keep := [2, 5, 35, 62]) [.slice none n fun i => intL (w i), .ptr 2 0, .ptr 5 0, I (sumZ w n), I (leftM a w n - (0 : Nat)), .own 35 n, .own 62 n] [.cells [I a, I b, I c, I d], .cells [I 0, I 0, I 0], .arr n 1 fun i => [I (shM a w n 0 i)], .arr n 1 (dnL o 0)]
                  (.cons (.refl _) (.cons (.refl _) (.cons (.refl _) (.cons (.refl _) (.cons (ple_ok ?_) (.cons (.refl _) (.cons (.refl _) .nil))))))) (.cons (.refl _) (.cons (.refl _) (.cons (.arr _ _ _ _ fun x hx => ?_) (.cons (.arr _ _ _ _ fun x hx => ?_) .nil)))), 0, Nat.zero_le _, rfl⟩, ?_⟩
          all_goals first
            | trivial
            | rfl
            | omega
            | (show (1 : Int) * (n : Int) ≤ 140737488355328; omega)
            | (show a - sq (sumZ w n) a w n = leftM a w n - (0 : Nat); unfold leftM; omega)
            | (show [I (qF (sumZ w n) a w n x)] = [I (qF (sumZ w n) a w n x + 0)]; rw [Int.add_zero])
            | skip
          have hR : ∀ i, i < n → (IntKind.i64.wrap (a * w i)).tmod (sumZ w n) = rF (sumZ w n) a w n i := by
            intro i hi
            have hx := hw.w0 i hi
            have hp : 0 ≤ a * w i := Int.mul_nonneg hM.1 hx.1
            have hp2 : a * w i ≤ 1000000 * 1000 := Int.mul_le_mul hM.2 hx.2 hx.1 (by decide)
            rw [w64 (by omega) (by omega), Int.tmod_eq_emod_of_nonneg hp, rF_lt hi]
          rintro st ⟨t, ht, rfl⟩
          refine ⟨fun h4 => ?_, fun h4 => ?_⟩
          · have hlt : t < (leftM a w n).toNat := by
              have h4 : (0 < leftM a w n - (t : Int)) := of_decide_eq_true h4
              omega
            clear h4
            refine Halt.mk ⟨[1, 2, 5, 6, 7, 9, 11, 12, 13], [2, 5, 35, 62], fun st => ∃ k : Nat, k ≤ n ∧ st = mkSt (List.zip [1, 2, 5, 6, 7, 9, 11, 12, 13] [.slice none n fun i => intL (w i), .ptr 2 0, .ptr 5 0, I (sumZ w n), I (leftM a w n - t), .own 35 n, .own 62 n, I (bs (rF (sumZ w n) a w n) (dn o t) k), I (k : Nat)]) ([2, 5, 35, 62].zip [.cells [I a, I b, I c, I d], .cells [I 0, I 0, I 0], .arr n 1 fun i => [I (shM a w n t i)], .arr n 1 (dnL o t)]),
              fun st => n - (match st.slots 13 with | .int _ k => k.toNat | _ => 0), ⟨_, sle_head (live := [1, 2, 5, 6, 7, 9, 11, 12, 13]) (keep := [2, 5, 35, 62]) [.slice none n fun i => intL (w i), .ptr 2 0, .ptr 5 0, I (sumZ w n), I (leftM a w n - t), .own 35 n, .own 62 n, I (bs (rF (sumZ w n) a w n) (dn o t) 0), I (0 : Nat)] [.cells [I a, I b, I c, I d], .cells [I 0, I 0, I 0], .arr n 1 fun i => [I (shM a w n t i)], .arr n 1 (dnL o t)]
                (.cons (.refl _) (.cons (.refl _) (.cons (.refl _) (.cons (.refl _) (.cons (.refl _) (.cons (.refl _) (.cons (.refl _) (.cons (.refl _) (.cons (.refl _) .nil))))))))) (.cons (.refl _) (.cons (.refl _) (.cons (.refl _) (.cons (.refl _) .nil)))), 0, Nat.zero_le _, rfl⟩, ?_⟩
            rintro st ⟨k, hk, rfl⟩
            refine ⟨fun h4 => ?_, fun h4 => ?_⟩
            · have hlk : k < n := by simpa using h4
              clear h4
              have ek : IntKind.i64.wrap ((k : Int) + 1) = ((k + 1 : Nat) : Int) := by rw [w64 (by omega) (by omega)]; omega
              have hbd := bs_bd (r := rF (sumZ w n) a w n) (d := dn o t) k
              cases hd : dn o t k with
              | true =>
                refine ⟨⟨by omega, by omega, Nat.le_refl _⟩, ⟨by omega, by show 0 + 1 ≤ (dnL o t k).length; unfold dnL; rw [hd]; exact Nat.le_refl 1⟩, frc3_of (V' := .tt) (show unc ti4.agg (((dnL o t k).drop 0).take ti4.size) = .tt by unfold dnL; rw [hd]; rfl) ?_⟩
                repeat' first
                  | refine ⟨?_, ?_⟩
                  | refine fun (h : @Eq Bool _ _) => ?_
                  | refine Halt.mk ⟨_, sle_head (live := [1, 2, 5, 6, 7, 9, 11, 12, 13]) (keep := [2, 5, 35, 62]) [.slice none n fun i => intL (w i), .ptr 2 0, .ptr 5 0, I (sumZ w n), I (leftM a w n - t), .own 35 n, .own 62 n, I (bs (rF (sumZ w n) a w n) (dn o t) (k + 1)), I ((k + 1) : Nat)] [.cells [I a, I b, I c, I d], .cells [I 0, I 0, I 0], .arr n 1 fun i => [I (shM a w n t i)], .arr n 1 (dnL o t)]
                    (.cons (.refl _) (.cons (.refl _) (.cons (.refl _) (.cons (.refl _) (.cons (.refl _) (.cons (.refl _) (.cons (.refl _) (.cons (ple_ok ?_) (.cons (ple_ok ek) .nil))))))))) (.cons (.refl _) (.cons (.refl _) (.cons (.refl _) (.cons (.refl _) .nil)))), ⟨k + 1, by omega, rfl⟩, ?_⟩
                all_goals first
                  | trivial
                  | rfl
                  | omega
                  | exact hW
                  | exact Nat.le_refl 1
                  | (show 0 + 1 ≤ (dnL o t k).length; unfold dnL; rw [hd]; exact Nat.le_refl 1)
                  | exact (bs_dn hd).symm
                  | (show n - ((k + 1 : Nat) : Int).toNat < n - ((k : Nat) : Int).toNat; omega)
                  | skip
              | false =>
                by_cases hb0 : bs (rF (sumZ w n) a w n) (dn o t) k < 0
                · have f1 : decide (bs (rF (sumZ w n) a w n) (dn o t) k < 0) = true := decide_eq_true hb0
                  refine ⟨⟨by omega, by omega, Nat.le_refl _⟩, ⟨by omega, by show 0 + 1 ≤ (dnL o t k).length; unfold dnL; rw [hd]; exact Nat.le_refl 1⟩, frc3_of (V' := .ff) (show unc ti4.agg (((dnL o t k).drop 0).take ti4.size) = .ff by unfold dnL; rw [hd]; rfl) ?_⟩
                  repeat' first
                    | refine ⟨?_, ?_⟩
                    | (refine fun (h : @Eq Bool _ _) => ?_; exfalso; simp only [f1, Int.toNat_natCast, cond_true, cond_false, Bool.not_false, Bool.not_true, Bool.true_eq_false, Bool.false_eq_true, reduceCtorEq] at h; done)
                    | refine fun (h : @Eq Bool _ _) => ?_
                    | refine Halt.mk ⟨_, sle_head (live := [1, 2, 5, 6, 7, 9, 11, 12, 13]) (keep := [2, 5, 35, 62]) [.slice none n fun i => intL (w i), .ptr 2 0, .ptr 5 0, I (sumZ w n), I (leftM a w n - t), .own 35 n, .own 62 n, I (bs (rF (sumZ w n) a w n) (dn o t) (k + 1)), I ((k + 1) : Nat)] [.cells [I a, I b, I c, I d], .cells [I 0, I 0, I 0], .arr n 1 fun i => [I (shM a w n t i)], .arr n 1 (dnL o t)]
                      (.cons (.refl _) (.cons (.refl _) (.cons (.refl _) (.cons (.refl _) (.cons (.refl _) (.cons (.refl _) (.cons (.refl _) (.cons (ple_ok ?_) (.cons (ple_ok ek) .nil))))))))) (.cons (.refl _) (.cons (.refl _) (.cons (.refl _) (.cons (.refl _) .nil)))), ⟨k + 1, by omega, rfl⟩, ?_⟩
                  all_goals first
                    | trivial
                    | rfl
                    | omega
                    | exact hW
                    | exact Nat.le_refl 1
                    | (show 0 + 1 ≤ (dnL o t k).length; unfold dnL; rw [hd]; exact Nat.le_refl 1)
                    | exact (bs_hi hd (.inl hb0)).symm
                    | (show n - ((k + 1 : Nat) : Int).toNat < n - ((k : Nat) : Int).toNat; omega)
                    | skip
                · have f1 : decide (bs (rF (sumZ w n) a w n) (dn o t) k < 0) = false := decide_eq_false hb0
                  have hRb := hR (bs (rF (sumZ w n) a w n) (dn o t) k).toNat (by omega)
                  have hRk := hR k hlk
                  by_cases hc : rF (sumZ w n) a w n (bs (rF (sumZ w n) a w n) (dn o t) k).toNat < rF (sumZ w n) a w n k
                  · have f2 : decide ((IntKind.i64.wrap (a * w (bs (rF (sumZ w n) a w n) (dn o t) k).toNat)).tmod (sumZ w n) < (IntKind.i64.wrap (a * w k)).tmod (sumZ w n)) = true := decide_eq_true (by rw [hRb, hRk]; exact hc)
                    refine ⟨⟨by omega, by omega, Nat.le_refl _⟩, ⟨by omega, by show 0 + 1 ≤ (dnL o t k).length; unfold dnL; rw [hd]; exact Nat.le_refl 1⟩, frc3_of (V' := .ff) (show unc ti4.agg (((dnL o t k).drop 0).take ti4.size) = .ff by unfold dnL; rw [hd]; rfl) ?_⟩
                    repeat' first
                      | refine ⟨?_, ?_⟩
                      | (refine fun (h : @Eq Bool _ _) => ?_; exfalso; simp only [f1, f2, Int.toNat_natCast, cond_true, cond_false, Bool.not_false, Bool.not_true, Bool.true_eq_false, Bool.false_eq_true, reduceCtorEq] at h; done)
                      | refine fun (h : @Eq Bool _ _) => ?_
                      | refine Halt.mk ⟨_, sle_head (live := [1, 2, 5, 6, 7, 9, 11, 12, 13]) (keep := [2, 5, 35, 62]) [.slice none n fun i => intL (w i), .ptr 2 0, .ptr 5 0, I (sumZ w n), I (leftM a w n - t), .own 35 n, .own 62 n, I (bs (rF (sumZ w n) a w n) (dn o t) (k + 1)), I ((k + 1) : Nat)] [.cells [I a, I b, I c, I d], .cells [I 0, I 0, I 0], .arr n 1 fun i => [I (shM a w n t i)], .arr n 1 (dnL o t)]
                        (.cons (.refl _) (.cons (.refl _) (.cons (.refl _) (.cons (.refl _) (.cons (.refl _) (.cons (.refl _) (.cons (.refl _) (.cons (ple_ok ?_) (.cons (ple_ok ek) .nil))))))))) (.cons (.refl _) (.cons (.refl _) (.cons (.refl _) (.cons (.refl _) .nil)))), ⟨k + 1, by omega, rfl⟩, ?_⟩
                    all_goals first
                      | trivial
                      | rfl
                      | omega
                      | exact hW
                      | exact Nat.le_refl 1
                      | (show 0 + 1 ≤ (dnL o t k).length; unfold dnL; rw [hd]; exact Nat.le_refl 1)
                      | exact (bs_hi hd (.inr hc)).symm
                      | (show n - ((k + 1 : Nat) : Int).toNat < n - ((k : Nat) : Int).toNat; omega)
                      | skip
                  · have f2 : decide ((IntKind.i64.wrap (a * w (bs (rF (sumZ w n) a w n) (dn o t) k).toNat)).tmod (sumZ w n) < (IntKind.i64.wrap (a * w k)).tmod (sumZ w n)) = false := decide_eq_false (by rw [hRb, hRk]; exact hc)
                    refine ⟨⟨by omega, by omega, Nat.le_refl _⟩, ⟨by omega, by show 0 + 1 ≤ (dnL o t k).length; unfold dnL; rw [hd]; exact Nat.le_refl 1⟩, frc3_of (V' := .ff) (show unc ti4.agg (((dnL o t k).drop 0).take ti4.size) = .ff by unfold dnL; rw [hd]; rfl) ?_⟩
                    repeat' first
                      | refine ⟨?_, ?_⟩
                      | (refine fun (h : @Eq Bool _ _) => ?_; exfalso; simp only [f1, f2, Int.toNat_natCast, cond_true, cond_false, Bool.not_false, Bool.not_true, Bool.true_eq_false, Bool.false_eq_true, reduceCtorEq] at h; done)
                      | refine fun (h : @Eq Bool _ _) => ?_
                      | refine Halt.mk ⟨_, sle_head (live := [1, 2, 5, 6, 7, 9, 11, 12, 13]) (keep := [2, 5, 35, 62]) [.slice none n fun i => intL (w i), .ptr 2 0, .ptr 5 0, I (sumZ w n), I (leftM a w n - t), .own 35 n, .own 62 n, I (bs (rF (sumZ w n) a w n) (dn o t) (k + 1)), I ((k + 1) : Nat)] [.cells [I a, I b, I c, I d], .cells [I 0, I 0, I 0], .arr n 1 fun i => [I (shM a w n t i)], .arr n 1 (dnL o t)]
                        (.cons (.refl _) (.cons (.refl _) (.cons (.refl _) (.cons (.refl _) (.cons (.refl _) (.cons (.refl _) (.cons (.refl _) (.cons (ple_ok ?_) (.cons (ple_ok ek) .nil))))))))) (.cons (.refl _) (.cons (.refl _) (.cons (.refl _) (.cons (.refl _) .nil)))), ⟨k + 1, by omega, rfl⟩, ?_⟩
                    all_goals first
                      | trivial
                      | rfl
                      | omega
                      | exact hW
                      | exact Nat.le_refl 1
                      | (show 0 + 1 ≤ (dnL o t k).length; unfold dnL; rw [hd]; exact Nat.le_refl 1)
                      | exact (bs_lo hd hb0 hc).symm
                      | (show n - ((k + 1 : Nat) : Int).toNat < n - ((k : Nat) : Int).toNat; omega)
                      | skip
            · obtain rfl : n = k := by
                have h4 : ¬ ((k : Int) < n) := of_decide_eq_false h4
                omega
              clear h4
              rw [bs_ord hS (show t < n by omega)]
              have hot := hS.lt t (by omega)
              have eV : IntKind.i64.wrap (shM a w n t (o t) + 1) = shM a w n (t + 1) (o t) := by
                have := qF_bd hw hM (o t)
                have e1 : shM a w n (t + 1) (o t) = shM a w n t (o t) + 1 := by rw [← ho]; exact shM_in
                have e2 : shM a w n t (o t) = qF (sumZ w n) a w n (o t) := by rw [← ho]; exact shM_at (by omega)
                rw [e1, e2]
                exact w64 (by omega) (by omega)
              have eU : ∀ x, x ≠ o t → shM a w n t x = shM a w n (t + 1) x := by
                intro x hx
                rw [← ho] at hx
                exact shM_up hx
              have hla : leftM a w n ≤ 20 := by omega
              have eL : IntKind.i64.wrap (leftM a w n - (t : Int) - 1) = leftM a w n - ((t + 1 : Nat) : Int) := by rw [w64 (by omega) (by omega)]; omega
              repeat' first
                | refine ⟨?_, ?_⟩
                | refine Halt.mk ⟨_, sle_head (live := [1, 2, 5, 6, 7, 9, 11]) (keep := [2, 5, 35, 62]) [.slice none n fun i => intL (w i), .ptr 2 0, .ptr 5 0, I (sumZ w n), I (leftM a w n - (t + 1 : Nat)), .own 35 n, .own 62 n] [.cells [I a, I b, I c, I d], .cells [I 0, I 0, I 0], .arr n 1 fun i => [I (shM a w n (t + 1) i)], .arr n 1 (dnL o (t + 1))]
                    (.cons (.refl _) (.cons (.refl _) (.cons (.refl _) (.cons (.refl _) (.cons (ple_ok eL) (.cons (.refl _) (.cons (.refl _) .nil))))))) (.cons (.refl _) (.cons (.refl _) (.cons (.arr _ _ _ _ fun x hx => ?_) (.cons (.arr _ _ _ _ fun x hx => ?_) .nil)))), ⟨t + 1, by omega, rfl⟩, ?_⟩
              all_goals first
                | trivial
                | rfl
                | omega
                | exact Nat.le_refl 1
                | (show 0 + 1 ≤ (dnL o t (o t)).length; unfold dnL; cases dn o t (o t) <;> exact Nat.le_refl 1)
                | exact put_get (m := o t) (f := shM a w n t) (g := shM a w n (t + 1)) eV eU
                | exact put_dn
                | (show (leftM a w n - ((t + 1 : Nat) : Int)).toNat < (leftM a w n - (t : Int)).toNat; omega)
                | skip
          · have het : (leftM a w n).toNat = t := by
              have h4 : ¬ (0 < leftM a w n - (t : Int)) := of_decide_eq_false h4
              omega
            clear h4
            have eM : ∀ i, shM a w n t i = shMass a w n i := fun i => by rw [← het]; rfl
            have hp : ∀ i, i < n → okS (shP ⟨a, b, c, d⟩ n w i) := fun i hi => okS_prt hx (sh_bd hw hM hi)
            have hbig := sumS_big hp
            have hP : ∀ i, i < n → (⟨shM a w n t i, if a = 0 then 0 else b * shM a w n t i / a, if a = 0 then 0 else c * shM a w n t i / a, if a = 0 then 0 else d * shM a w n t i / a⟩ : Stream) = shP ⟨a, b, c, d⟩ n w i := fun i hi => by rw [eM i]; exact prt_eq (x := ⟨a, b, c, d⟩) (sh_bd hw hM hi)
            have hmb : ∀ i, i < n → 0 ≤ shM a w n t i ∧ shM a w n t i ≤ a := fun i hi => by rw [eM i]; exact sh_bd hw hM hi
            generalize shP ⟨a, b, c, d⟩ n w = P at *
            repeat' first
              | refine ⟨?_, ?_⟩
              | refine Halt.mk ⟨[1, 2, 5, 9, 14, 15, 16], [2, 5, 14, 15, 35], fun st => ∃ k : Nat, k ≤ n ∧ st = mkSt ([1, 2, 5, 9, 14, 15, 16].zip [.slice none n fun i => intL (w i), .ptr 2 0, .ptr 5 0, .own 35 n, .ptr 14 0, .slice (some 15) k fun i => strL (P i), I k])
                    ([2, 5, 14, 15, 35].zip [.cells [I a, I b, I c, I d], .cells [I 0, I 0, I 0], .cells (lossR ⟨a, b, c, d⟩ P k), .grow k 25 4, .arr n 1 fun i => [I (shM a w n t i)]]),
                  fun st => n - (match st.slots 16 with | .int _ k => k.toNat | _ => 0), ⟨_, sle_head (live := [1, 2, 5, 9, 14, 15, 16]) (keep := [2, 5, 14, 15, 35]) [.slice none n fun i => intL (w i), .ptr 2 0, .ptr 5 0, .own 35 n, .ptr 14 0, .slice (some 15) 0 fun i => strL (P i), I (0 : Nat)] [.cells [I a, I b, I c, I d], .cells [I 0, I 0, I 0], .cells (lossR ⟨a, b, c, d⟩ P 0), .grow 0 25 4, .arr n 1 fun i => [I (shM a w n t i)]]
                    (.cons (.refl _) (.cons (.refl _) (.cons (.refl _) (.cons (.refl _) (.cons (.refl _) (.cons (.slice _ _ _ _ fun i hi => by omega) (.cons (.refl _) .nil))))))) (.cons (.refl _) (.cons (.refl _) (.cons (.cellsL (.cons (ple_ok (show b = b - 0 by omega)) (.cons (ple_ok (show c = c - 0 by omega)) (.cons (ple_ok (show d = d - 0 by omega)) .nil)))) (.cons (.refl _) (.cons (.refl _) .nil))))), 0, Nat.zero_le _, rfl⟩, ?_⟩
            all_goals first
              | trivial
              | rfl
              | omega
              | skip
            rintro st ⟨k, hk, rfl⟩
            refine ⟨fun h4 => ?_, fun h4 => ?_⟩
            · have hlk : k < n := by simpa using h4
              clear h4
              have ek : IntKind.i64.wrap ((k : Int) + 1) = ((k + 1 : Nat) : Int) := by rw [w64 (by omega) (by omega)]; omega
              have hPk := hP k hlk
              have hmk := hmb k hlk
              have hxx := hx
              simp only [okS] at hxx
              have r1 : isRp b (shM a w n t k) a := .mk (by omega) (by omega) (by omega) (by omega) (by omega)
              have r2 : isRp c (shM a w n t k) a := .mk (by omega) (by omega) (by omega) (by omega) (by omega)
              have r3 : isRp d (shM a w n t k) a := .mk (by omega) (by omega) (by omega) (by omega) (by omega)
              have hb := hbig k (by omega)
              have hpk := hp k hlk
              simp only [bigS] at hb
              simp only [okS] at hpk
              have g1 : (if a = 0 then 0 else b * shM a w n t k / a) = (P k).h := congrArg Stream.h hPk
              have g2 : (if a = 0 then 0 else c * shM a w n t k / a) = (P k).s := congrArg Stream.s hPk
              have g3 : (if a = 0 then 0 else d * shM a w n t k / a) = (P k).g := congrArg Stream.g hPk
              have l1 : IntKind.i64.wrap (b - (sumS P k).h - (if a = 0 then 0 else b * shM a w n t k / a)) = b - (sumS P (k + 1)).h := by
                rw [g1, w64 (by omega) (by omega)]
                show _ = b - ((sumS P k).h + (P k).h)
                omega
              have l2 : IntKind.i64.wrap (c - (sumS P k).s - (if a = 0 then 0 else c * shM a w n t k / a)) = c - (sumS P (k + 1)).s := by
                rw [g2, w64 (by omega) (by omega)]
                show _ = c - ((sumS P k).s + (P k).s)
                omega
              have l3 : IntKind.i64.wrap (d - (sumS P k).g - (if a = 0 then 0 else d * shM a w n t k / a)) = d - (sumS P (k + 1)).g := by
                rw [g3, w64 (by omega) (by omega)]
                show _ = d - ((sumS P k).g + (P k).g)
                omega
              repeat' first
                | refine ⟨?_, ?_⟩
                | refine Halt.mk ⟨_, sle_head (live := [1, 2, 5, 9, 14, 15, 16]) (keep := [2, 5, 14, 15, 35]) [.slice none n fun i => intL (w i), .ptr 2 0, .ptr 5 0, .own 35 n, .ptr 14 0, .slice (some 15) (k + 1) fun i => strL (P i), I (k + 1 : Nat)] [.cells [I a, I b, I c, I d], .cells [I 0, I 0, I 0], .cells (lossR ⟨a, b, c, d⟩ P (k + 1)), .grow (k + 1) 25 4, .arr n 1 fun i => [I (shM a w n t i)]]
                    (.cons (.refl _) (.cons (.refl _) (.cons (.refl _) (.cons (.refl _) (.cons (.refl _) (.cons (.slice _ _ _ _ fun i hi => ?_) (.cons (ple_ok ek) .nil))))))) (.cons (.refl _) (.cons (.refl _) (.cons (.cellsL (.cons (ple_ok l1) (.cons (ple_ok l2) (.cons (ple_ok l3) .nil)))) (.cons (.refl _) (.cons (.refl _) .nil))))), ⟨k + 1, by omega, rfl⟩, ?_⟩
              all_goals first
                | trivial
                | rfl
                | omega
                | exact r1
                | exact r2
                | exact r3
                | exact Nat.le_refl 1
                | (show (k + 1) * 32 ≤ 140737488355328; omega)
                | exact fun _ _ => rfl
                | (intro i hi; have hi : i < 1 := hi; obtain rfl : i = 0 := (by omega); exact rfl)
                | (intro i hi; have hi : i < 1 := hi; obtain rfl : i = 0 := (by omega); exact ⟨rfl, rfl⟩)
                | (show n - ((k + 1 : Nat) : Int).toNat < n - ((k : Nat) : Int).toNat; omega)
                | (rename_i i hi; obtain rfl : i = 0 := (by omega); rfl)
                | (show (bif Nat.blt i k then _ else _) = _; by_cases hl : i < k; (· rw [blt_t hl]; rfl); (· obtain rfl : i = k := (by omega); rw [blt_f hl, Nat.sub_self, ← hPk]; rfl))
                | skip
            · obtain rfl : n = k := by
                have h4 : ¬ ((k : Int) < n) := of_decide_eq_false h4
                omega
              clear h4
              repeat' first
                | refine ⟨?_, ?_⟩
                | refine ple_ok ⟨⟨rfl, fun i hi => rfl⟩, ⟨rfl, rfl, rfl, trivial⟩, trivial⟩
              all_goals first
                | trivial
                | rfl
                | skip
  · exact h.elim
end Go.Proofs.Ytiidjohhcappdaa
