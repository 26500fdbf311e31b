/- Layer 1: the masses of a stream's parts. -/
import Derived.Test.YtiidjohhcappdaaS35
import Derived.Test.YtiidjohhcappdaaM18
namespace Go.Proofs.Ytiidjohhcappdaa
open Go.V
set_option linter.unusedSimpArgs false

def shM (M : Int) (w : Nat → Int) (n : Nat) (t : Nat) (i : Nat) : Int := qF (sumZ w n) M w n i + cnt (ordR (rF (sumZ w n) M w n) n) t i
def shMass (M : Int) (w : Nat → Int) (n : Nat) (i : Nat) : Int := shM M w n (leftM M w n).toNat i
theorem frc3_of {V V' : PV} {K : PV → Prop} (h : V = V') (hk : frc3 V' K) : frc3 V K := by rw [h]; exact hk
theorem put_get {f g : Nat → Int} {m x : Nat} {V : Int} (hv : V = g m) (hf : ∀ x, x ≠ m → f x = g x) : (bif Nat.beq x ((m : Int)).toNat then fillL [I (f ((m : Int)).toNat)] 0 [I V] else [I (f x)]) = [I (g x)] := by
  rw [Int.toNat_natCast]
  by_cases hx : x = m
  · subst hx
    rw [show Nat.beq x x = true from Nat.beq_refl _, hv]; rfl
  · rw [nb hx, hf x hx]; rfl
theorem qF_step {W M : Int} {w : Nat → Int} {m x : Nat} (h : x ≠ m) : qF W M w m x = qF W M w (m + 1) x := by
  by_cases h1 : x < m
  · rw [qF_lt h1, qF_lt (by omega)]
  · rw [qF_ge h1, qF_ge (by omega)]
theorem rF_step {W M : Int} {w : Nat → Int} {m x : Nat} (h : x ≠ m) : rF W M w m x = rF W M w (m + 1) x := by
  by_cases h1 : x < m
  · rw [rF_lt h1, rF_lt (by omega)]
  · rw [rF_ge h1, rF_ge (by omega)]
theorem qF_bd {n : Nat} {w : Nat → Int} {M : Int} (h : okW n w) (hM : 0 ≤ M ∧ M ≤ 1000000) (i : Nat) : 0 ≤ qF (sumZ w n) M w n i ∧ qF (sumZ w n) M w n i ≤ 1000000000 := by
  by_cases hi : i < n
  · rw [qF_lt hi]
    have hx := h.w0 i hi
    have hp : 0 ≤ M * w i := Int.mul_nonneg hM.1 hx.1
    have hp2 : M * w i ≤ 1000000 * 1000 := Int.mul_le_mul hM.2 hx.2 hx.1 (by decide)
    exact ⟨Int.ediv_nonneg hp (Int.le_of_lt h.pos), Int.le_trans (Int.ediv_le_self _ hp) hp2⟩
  · rw [qF_ge hi]; decide
theorem shM_at {n : Nat} {w : Nat → Int} {M : Int} {t : Nat} (ht : t < n) : shM M w n t (ordR (rF (sumZ w n) M w n) n t) = qF (sumZ w n) M w n (ordR (rF (sumZ w n) M w n) n t) := by
  unfold shM
  rw [cnt_of (ordR_srt _ n) t (by omega) t ht, if_neg (by omega), Int.add_zero]
theorem shM_up {n : Nat} {w : Nat → Int} {M : Int} {t x : Nat} (h : x ≠ ordR (rF (sumZ w n) M w n) n t) : shM M w n t x = shM M w n (t + 1) x := by
  show _ + cnt _ t x = _ + (cnt _ t x + (if _ = x then 1 else 0))
  rw [if_neg fun e => h e.symm, Int.add_zero]
theorem shM_in {n : Nat} {w : Nat → Int} {M : Int} {t : Nat} : shM M w n (t + 1) (ordR (rF (sumZ w n) M w n) n t) = shM M w n t (ordR (rF (sumZ w n) M w n) n t) + 1 := by
  show _ + (cnt _ t _ + (if _ = _ then 1 else 0)) = _
  rw [if_pos rfl]
  show _ = _ + cnt _ t _ + 1
  omega
inductive isSh (M : Int) (n : Nat) (get : Nat → List PV) : Prop
  | mk (w : Nat → Int) (hw : okW n w) (hM : 0 ≤ M ∧ M ≤ 1000000) (e : get = fun i => intL (w i))
  | no (h : False)
def shMS : V.Spec
  | [.int .i64 M, .slice none n get] => (some (isSh M n get), .slice none n fun i => [I (shMass M (fun i => intOf (get i)) n i)])
  | _ => bad
set_option maxRecDepth 20000 in
set_option maxHeartbeats 4000000 in
theorem sf63 : SF Try.prog 63 shMS := by
  refine sf_of types_ok mixed (l := []) trivial (es := [(81, 1000, ef81)]) ⟨se81, trivial⟩ 2 Try.func63 rfl (by kernel_rfl) fun args h => ?_
  unfold shMS at h
  split at h
  · rename_i M n get
    have h : isSh M n get := h
    cases h with
    | no h => exact h.elim
    | mk w hw hM e =>
    subst e
    have e : (shMS [.int .i64 M, .slice none n fun i => intL (w i)]).2 = .slice none n fun i => [I (shMass M w n i)] := rfl
    refine ⟨rfl, ?_⟩
    rw [e]
    clear e
    have h1 := hw.h1
    have h2 := hw.h2
    refine .mk ⟨[0, 1, 5, 15, 16, 17], [4], fun st => ∃ m : Nat, m ≤ n ∧ st = mkSt ([0, 1, 5, 15, 16, 17].zip [I M, .slice none n fun i => intL (w i), I (sumZ w m), .slice none n fun i => intL (w i), I n, I m]) ([4].zip [.grow 0 3 1]),
      fun st => n - (match st.slots 17 with | .int _ k => k.toNat | _ => 0), ?_, ?_⟩
    · exact ⟨_, sle_head (live := [0, 1, 5, 15, 16, 17]) (keep := [4]) [I M, .slice none n fun i => intL (w i), I 0, .slice none n fun i => intL (w i), I n, I (0 : Nat)] [.grow 0 3 1] (.cons (.refl _) (.cons (.refl _) (.cons (.refl _) (.cons (.refl _) (.cons (.refl _) (.cons (.refl _) .nil)))))) (.cons (.refl _) .nil), 0, Nat.zero_le _, rfl⟩
    · rintro st ⟨m, hm, rfl⟩
      refine ⟨fun h4 => ?_, fun h4 => ?_⟩
      · have hlt : m < n := by simpa using h4
        clear h4
        have em : IntKind.i64.wrap ((m : Int) + 1) = ((m + 1 : Nat) : Int) := by rw [w64 (by omega) (by omega)]; omega
        have hs := hw.le hm
        have hx := hw.w0 m hlt
        have es : IntKind.i64.wrap (sumZ w m + w m) = sumZ w (m + 1) := w64 (by omega) (by omega)
        repeat' first
          | refine ⟨?_, ?_⟩
          | refine fun h => absurd h (by decide)
        all_goals first
          | trivial
          | rfl
          | omega
          | exact Nat.le_refl 1
          | refine Halt.mk ⟨_, sle_head (live := [0, 1, 5, 15, 16, 17]) (keep := [4]) [I M, .slice none n fun i => intL (w i), I (sumZ w (m + 1)), .slice none n fun i => intL (w i), I n, I (m + 1 : Nat)] [.grow 0 3 1] (.cons (.refl _) (.cons (.refl _) (.cons (ple_ok es) (.cons (.refl _) (.cons (.refl _) (.cons (ple_ok em) .nil)))))) (.cons (.refl _) .nil), ⟨m + 1, by omega, rfl⟩, ?_⟩
          | skip
        show n - ((m + 1 : Nat) : Int).toNat < n - ((m : Nat) : Int).toNat
        omega
      · obtain rfl : n = m := by
          have h4 : ¬ ((m : Int) < n) := of_decide_eq_false h4
          omega
        clear h4
        repeat' first
          | refine ⟨?_, ?_⟩
          | refine fun h => absurd h (by decide)
          | refine Halt.mk ⟨[0, 1, 5, 8, 9, 10, 32, 33, 34], [4, 27, 30], fun st => ∃ m : Nat, m ≤ n ∧ st = mkSt ([0, 1, 5, 8, 9, 10, 32, 33, 34].zip [I M, .slice none n fun i => intL (w i), I (sumZ w n), .own 27 n, .own 30 n, I (M - sq (sumZ w n) M w m), .slice none n fun i => intL (w i), I n, I m])
                ([4, 27, 30].zip [.grow 0 3 1, .arr n 1 fun i => [I (qF (sumZ w n) M w m i)], .arr n 1 fun i => [I (rF (sumZ w n) M w m i)]]),
              fun st => n - (match st.slots 34 with | .int _ k => k.toNat | _ => 0),
              ⟨_, sle_head (live := [0, 1, 5, 8, 9, 10, 32, 33, 34]) (keep := [4, 27, 30]) [I M, .slice none n fun i => intL (w i), I (sumZ w n), .own 27 n, .own 30 n, I (M - sq (sumZ w n) M w 0), .slice none n fun i => intL (w i), I n, I (0 : Nat)] [.grow 0 3 1, .arr n 1 fun i => [I (qF (sumZ w n) M w 0 i)], .arr n 1 fun i => [I (rF (sumZ w n) M w 0 i)]]
                (.cons (.refl _) (.cons (.refl _) (.cons (.refl _) (.cons (.refl _) (.cons (.refl _) (.cons (ple_ok ?_) (.cons (.refl _) (.cons (.refl _) (.cons (.refl _) .nil))))))))) (.cons (.refl _) (.cons (.arr _ _ _ _ fun x hx => ?_) (.cons (.arr _ _ _ _ fun x hx => ?_) .nil))), 0, Nat.zero_le _, rfl⟩, ?_⟩
        all_goals first
          | trivial
          | rfl
          | omega
          | (show (8 : Int) * (n : Int) ≤ 140737488355328; omega)
          | exact Nat.le_refl 1
          | (show M = M - 0; omega)
          | skip
        rintro st ⟨m, hm, rfl⟩
        refine ⟨fun h4 => ?_, fun h4 => ?_⟩
        · have hlt : m < n := by simpa using h4
          clear h4
          have em : IntKind.i64.wrap ((m : Int) + 1) = ((m + 1 : Nat) : Int) := by rw [w64 (by omega) (by omega)]; omega
          have hW : ¬ sumZ w n = 0 := by have := hw.pos; omega
          have hx := hw.w0 m hlt
          have hp : 0 ≤ M * w m := Int.mul_nonneg hM.1 hx.1
          have hp2 : M * w m ≤ 1000000 * 1000 := Int.mul_le_mul hM.2 hx.2 hx.1 (by decide)
          have eA : IntKind.i64.wrap (M * w m) = M * w m := w64 (by omega) (by omega)
          have hq0 : 0 ≤ M * w m / sumZ w n := Int.ediv_nonneg hp (Int.le_of_lt hw.pos)
          have hq1 : M * w m / sumZ w n ≤ M * w m := Int.ediv_le_self _ hp
          have hr0 : 0 ≤ M * w m % sumZ w n := Int.emod_nonneg _ hW
          have hr1 : M * w m % sumZ w n < sumZ w n := Int.emod_lt_of_pos _ hw.pos
          have hWb := (hw.le (Nat.le_refl n)).2
          have eQ : IntKind.i64.wrap ((IntKind.i64.wrap (M * w m)).tdiv (sumZ w n)) = M * w m / sumZ w n := by rw [eA, Int.tdiv_eq_ediv_of_nonneg hp]; exact w64 (by omega) (by omega)
          have eR : (IntKind.i64.wrap (M * w m)).tmod (sumZ w n) = M * w m % sumZ w n := by rw [eA, Int.tmod_eq_emod_of_nonneg hp]
          have hs := sq_bd hw hM hm
          have hs' := sq_bd hw hM (show m + 1 ≤ n by omega)
          have eS : IntKind.i64.wrap (M - sq (sumZ w n) M w m - M * w m / sumZ w n) = M - sq (sumZ w n) M w (m + 1) := by
            have e : sq (sumZ w n) M w (m + 1) = sq (sumZ w n) M w m + M * w m / sumZ w n := rfl
            rw [e] at hs' ⊢
            rw [w64 (by omega) (by omega)]; omega
          repeat' first
            | refine ⟨?_, ?_⟩
            | refine frc3_of (V' := I (M * w m / sumZ w n)) (show unc ti3.agg (((bif Nat.beq m m then fillL [I (qF (sumZ w n) M w m m)] 0 [I (IntKind.i64.wrap ((IntKind.i64.wrap (M * w m)).tdiv (sumZ w n)))] else [I (qF (sumZ w n) M w m m)]).drop 0).take ti3.size) = I (M * w m / sumZ w n) by rw [show Nat.beq m m = true from Nat.beq_refl m, eQ]; rfl) ?_
            | refine Halt.mk ⟨_, sle_head (live := [0, 1, 5, 8, 9, 10, 32, 33, 34]) (keep := [4, 27, 30]) [I M, .slice none n fun i => intL (w i), I (sumZ w n), .own 27 n, .own 30 n, I (M - sq (sumZ w n) M w (m + 1)), .slice none n fun i => intL (w i), I n, I (m + 1 : Nat)] [.grow 0 3 1, .arr n 1 fun i => [I (qF (sumZ w n) M w (m + 1) i)], .arr n 1 fun i => [I (rF (sumZ w n) M w (m + 1) i)]]
                (.cons (.refl _) (.cons (.refl _) (.cons (.refl _) (.cons (.refl _) (.cons (.refl _) (.cons (ple_ok eS) (.cons (.refl _) (.cons (.refl _) (.cons (ple_ok em) .nil))))))))) (.cons (.refl _) (.cons (.arr _ _ _ _ fun x hx => ?_) (.cons (.arr _ _ _ _ fun x hx => ?_) .nil))), ⟨m + 1, by omega, rfl⟩, ?_⟩
          all_goals first
            | trivial
            | rfl
            | omega
            | exact hW
            | exact Nat.le_refl 1
            | (show 0 + 1 ≤ (cond (Nat.beq m m) [_] [_] : List PV).length; cases Nat.beq m m <;> exact Nat.le_refl 1)
            | exact put_get (f := qF (sumZ w n) M w m) (g := qF (sumZ w n) M w (m + 1)) (eQ.trans (qF_lt (by omega)).symm) (fun x hx => qF_step hx)
            | exact put_get (f := rF (sumZ w n) M w m) (g := rF (sumZ w n) M w (m + 1)) (eR.trans (rF_lt (by omega)).symm) (fun x hx => rF_step hx)
            | (show n - ((m + 1 : Nat) : Int).toNat < n - ((m : Nat) : Int).toNat; omega)
            | skip
        · obtain rfl : n = m := by
            have h4 : ¬ ((m : Int) < n) := of_decide_eq_false h4
            omega
          clear h4
          have hl := left_bd hw hM
          refine ⟨rfl, e81 (q := qF (sumZ w n) M w n) (r := rF (sumZ w n) M w n) h2 h1 ?_⟩
          repeat' first
            | refine ⟨?_, ?_⟩
            | refine Halt.mk ⟨[8, 65, 66, 67], [4, 27], fun st => ∃ t : Nat, t ≤ (leftM M w n).toNat ∧ st = mkSt ([8, 65, 66, 67].zip [.own 27 n, .slice none (leftM M w n).toNat fun i => [I (ordR (rF (sumZ w n) M w n) n i)], I (leftM M w n).toNat, I t])
                  ([4, 27].zip [.grow 0 3 1, .arr n 1 fun i => [I (shM M w n t i)]]),
                fun st => (leftM M w n).toNat - (match st.slots 67 with | .int _ k => k.toNat | _ => 0), ⟨_, sle_head (live := [8, 65, 66, 67]) (keep := [4, 27]) [.own 27 n, .slice none (leftM M w n).toNat fun i => [I (ordR (rF (sumZ w n) M w n) n i)], I (leftM M w n).toNat, I (0 : Nat)] [.grow 0 3 1, .arr n 1 fun i => [I (shM M w n 0 i)]] (.cons (.refl _) (.cons (.refl _) (.cons (.refl _) (.cons (.refl _) .nil)))) (.cons (.refl _) (.cons (.arr _ _ _ _ fun x hx => ?_) .nil)), 0, Nat.zero_le _, rfl⟩, ?_⟩
          all_goals first
            | trivial
            | rfl
            | omega
            | (show 0 ≤ leftM M w n; omega)
            | (show leftM M w n ≤ (n : Int); omega)
            | (show (leftM M w n).toNat ≤ n; omega)
            | (show [I (qF (sumZ w n) M w n x)] = [I (qF (sumZ w n) M w n x + 0)]; rw [Int.add_zero])
            | skip
          rintro st ⟨t, ht, rfl⟩
          have hS := ordR_srt (rF (sumZ w n) M w n) n
          refine ⟨fun h4 => ?_, fun h4 => ?_⟩
          · have hlt : t < (leftM M w n).toNat := by
              have h4 : ((t : Int) < ((leftM M w n).toNat : Int)) := of_decide_eq_true h4
              omega
            clear h4
            have et : IntKind.i64.wrap ((t : Int) + 1) = ((t + 1 : Nat) : Int) := by rw [w64 (by omega) (by omega)]; omega
            have ho := hS.lt t (by omega)
            have eV : IntKind.i64.wrap (shM M w n t (ordR (rF (sumZ w n) M w n) n t) + 1) = shM M w n (t + 1) (ordR (rF (sumZ w n) M w n) n t) := by
              have := qF_bd hw hM (ordR (rF (sumZ w n) M w n) n t)
              rw [shM_in, shM_at (by omega)]
              exact w64 (by omega) (by omega)
            repeat' first
              | refine ⟨?_, ?_⟩
              | refine Halt.mk ⟨_, sle_head (live := [8, 65, 66, 67]) (keep := [4, 27]) [.own 27 n, .slice none (leftM M w n).toNat fun i => [I (ordR (rF (sumZ w n) M w n) n i)], I (leftM M w n).toNat, I (t + 1 : Nat)] [.grow 0 3 1, .arr n 1 fun i => [I (shM M w n (t + 1) i)]] (.cons (.refl _) (.cons (.refl _) (.cons (.refl _) (.cons (ple_ok et) .nil)))) (.cons (.refl _) (.cons (.arr _ _ _ _ fun x hx => ?_) .nil)), ⟨t + 1, by omega, rfl⟩, ?_⟩
            all_goals first
              | trivial
              | rfl
              | omega
              | exact Nat.le_refl 1
              | (simp only [Int.toNat_natCast]; omega)
              | exact put_get (m := ordR (rF (sumZ w n) M w n) n t) (f := shM M w n t) (g := shM M w n (t + 1)) eV (fun x hx => shM_up hx)
              | (show (leftM M w n).toNat - ((t + 1 : Nat) : Int).toNat < (leftM M w n).toNat - ((t : Nat) : Int).toNat; omega)
              | skip
          · obtain rfl : (leftM M w n).toNat = t := by
              have h4 : ¬ ((t : Int) < ((leftM M w n).toNat : Int)) := of_decide_eq_false h4
              omega
            clear h4
            have hb : Nat.ble n n = true := Nat.ble_eq_true_of_le (Nat.le_refl n)
            refine ⟨?_, ?_⟩
            · show ([bif Nat.ble n n then PV.slice none n (fun i => [I (shM M w n (leftM M w n).toNat i)]) else .junk].all fun v => plain2 v) = true
              rw [hb]; rfl
            · show PLe (bif Nat.ble n n then PV.slice none n (fun i => [I (shM M w n (leftM M w n).toNat i)]) else .junk) _
              rw [hb]; exact .refl _
  · exact h.elim
end Go.Proofs.Ytiidjohhcappdaa
