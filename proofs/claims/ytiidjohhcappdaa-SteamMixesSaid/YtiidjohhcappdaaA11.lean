/- Layer 1: the law on shares. -/
import Derived.Test.YtiidjohhcappdaaS39
import Derived.Test.YtiidjohhcappdaaM21
import Derived.Test.YtiidjohhcappdaaX2
namespace Go.Proofs.Ytiidjohhcappdaa
open Go.V
set_option linter.unusedSimpArgs false

def awakeF : V.Spec := V.atS [] (.bool true)
theorem sf17f : SF Try.prog 17 awakeF := sf17
def noF : V.Spec := fun _ => (some False, .junk)
theorem sf_noF {f : Nat} (h : HasBody Try.prog f) : SF Try.prog f noF := ⟨fun _ _ _ _ _ _ _ h => h.elim, h⟩
def sw (w : Nat → Int) : Nat → Int
  | 0 => 0
  | k + 1 => IntKind.i64.wrap (sw w k + w k)
theorem sw_eq {w : Nat → Int} : ∀ k, k ≤ 20 → Upto (fun i => 0 ≤ w i ∧ w i ≤ 1000) k → sw w k = sumZ w k
  | 0, _, _ => rfl
  | k + 1, hk, hu => by
    have hs0 : 0 ≤ sumZ w k := sumZ_nn k fun i hi => (hu.all i (by omega)).1
    have hs1 : sumZ w k ≤ 1000 * k := sumZ_le k fun i hi => (hu.all i (by omega)).2
    have hx := hu.all k (by omega)
    show IntKind.i64.wrap (sw w k + w k) = sumZ w k + w k
    rw [sw_eq k (by omega) ⟨fun i hi => hu.all i (by omega)⟩]
    exact w64 (by omega) (by omega)
inductive isIntsB (n : Nat) (get : Nat → List PV) : Prop
  | mk (l : Nat → Int) (hn : n ≤ 9223372036854775807) (e : get = fun i => intL (l i))
  | no (h : False)
noncomputable def wtSB : V.Spec
  | [.slice none n get] => (some (isIntsB n get), .bool (wtB n fun i => intOf (get i)))
  | _ => bad
set_option maxRecDepth 20000 in
set_option maxHeartbeats 4000000 in
theorem sf34b : SF Try.prog 34 wtSB := by
  refine sf_of types_ok mixed (l := [(27, inS)]) ⟨sf27, trivial⟩ (es := []) trivial 1 Try.func34 rfl (by kernel_rfl) fun args h => ?_
  unfold wtSB at h
  split at h
  · rename_i n get
    have h : isIntsB n get := h
    cases h with
    | no h => exact h.elim
    | mk w hn e =>
    subst e
    have e : (wtSB [.slice none n fun i => intL (w i)]).2 = .bool (wtB n w) := rfl
    refine ⟨rfl, ?_⟩
    rw [e]
    clear e
    refine .mk ⟨[0, 3, 4], [], fun st => ∃ k : Nat, k ≤ n ∧ Upto (fun i => 0 ≤ w i ∧ w i ≤ 1000) k ∧ st = mkSt ([0, 3, 4].zip [.slice none n fun i => intL (w i), I (sw w k), I k]) [],
      fun st => n - (match st.slots 4 with | .int _ k => k.toNat | _ => 0), ⟨_, sle_head (live := [0, 3, 4]) [.slice none n fun i => intL (w i), I 0, I (0 : Nat)] [] (.cons (.refl _) (.cons (.refl _) (.cons (.refl _) .nil))) .nil, 0, Nat.zero_le _, .zero _, rfl⟩, ?_⟩
    rintro st ⟨k, hk, hu, rfl⟩
    refine ⟨fun h2 => ?_, fun h2 => ?_⟩
    · have hlt : k < n := by simpa using h2
      clear h2
      have ek : IntKind.i64.wrap ((k : Int) + 1) = ((k + 1 : Nat) : Int) := by rw [w64 (by omega) (by omega)]; omega
      refine ⟨⟨by omega, show (k : Int) < n by omega, rfl⟩, fun h3 => ?_, fun h3 => ?_⟩
      · have h3 : (!decide (0 ≤ w k ∧ w k ≤ 1000)) = true := h3
        have h3 : ¬ (0 ≤ w k ∧ w k ≤ 1000) := by rw [Bool.not_eq_true'] at h3; exact of_decide_eq_false h3
        refine ⟨rfl, ple_ok ?_⟩
        show wtB n w = false
        refine wtB_f fun h => h3 ((wt_ok h).w0 k hlt)
      · have h3 : (!decide (0 ≤ w k ∧ w k ≤ 1000)) = false := h3
        have h3 : (0 ≤ w k ∧ w k ≤ 1000) := by rw [Bool.not_eq_false'] at h3; exact of_decide_eq_true h3
        refine ⟨⟨by omega, show (k : Int) < n by omega, rfl⟩, Halt.mk ⟨_, sle_head (live := [0, 3, 4]) [.slice none n fun i => intL (w i), I (sw w (k + 1)), I (k + 1 : Nat)] [] (.cons (.refl _) (.cons (ple_ok rfl) (.cons (ple_ok ek) .nil))) .nil, ⟨k + 1, by omega, hu.succ h3, rfl⟩, ?_⟩⟩
        show n - ((k + 1 : Nat) : Int).toNat < n - ((k : Nat) : Int).toNat
        omega
    · obtain rfl : n = k := by
        have h2 : ¬ ((k : Int) < n) := of_decide_eq_false h2
        omega
      clear h2
      refine ⟨fun h3 => ?_, fun h3 => ?_⟩
      · have h3 : ((n : Int) ≤ 20) := of_decide_eq_true h3
        refine ⟨rfl, ple_ok ?_⟩
        show decide (0 < sw w n) = wtB n w
        rw [sw_eq n (by omega) hu]
        by_cases hp : 0 < sumZ w n
        · have : 1 ≤ n := by
            rcases Nat.eq_zero_or_pos n with h | h
            · subst h; exact absurd hp (Int.lt_irrefl 0)
            · exact h
          rw [decide_eq_true hp, wtB_t (ok_wt ⟨this, by omega, hu.all, hp⟩)]
        · rw [decide_eq_false hp, wtB_f fun h => hp (wt_ok h).pos]
      · have h3 : ¬ ((n : Int) ≤ 20) := of_decide_eq_false h3
        refine ⟨rfl, ple_ok ?_⟩
        show wtB n w = false
        rw [wtB_f fun h => h3 (by have := (wt_ok h).h2; omega)]
  · exact h.elim
def FARGS (a b c d : Int) (n : Nat) (w : Nat → Int) : List PV := [.agg [.int .i64 a, .int .i64 b, .int .i64 c, .int .i64 d], .slice none n fun i => intL (w i)]
set_option maxRecDepth 20000 in
set_option maxHeartbeats 1000000 in
theorem fairN (a b c d : Int) (n : Nat) (w : Nat → Int) (hn : n ≤ 9223372036854775807) (hv : ¬ (okS ⟨a, b, c, d⟩ ∧ wtB n w = true)) : SF Try.prog 11 (V.atS (FARGS a b c d n w) (.bool true)) := by
  refine sf_of types_ok mixed (l := [(17, awakeF), (21, okSS), (34, wtSB), (23, noF), (31, noF), (22, noF), (53, noF), (27, noF)]) ⟨sf17f, sf21, sf34b, sf_noF sf23.2, sf_noF sf31.2, sf_noF sf22.2, sf_noF sf53.2, sf_noF sf27.2, trivial⟩ (es := []) trivial 2 Try.func11 rfl (by kernel_rfl) fun args h => ?_
  have h : args = FARGS a b c d n w := h
  subst h
  refine ⟨rfl, ?_⟩
  by_cases hx : okS ⟨a, b, c, d⟩
  · have hw : wtB n w = false := by
      cases hw : wtB n w with
      | false => rfl
      | true => exact (hv ⟨hx, hw⟩).elim
    have f1 : decide (okS ⟨a, b, c, d⟩) = true := decide_eq_true hx
    repeat' first
      | refine ⟨?_, ?_⟩
      | refine fun h => absurd h (by decide)
      | (refine fun h => ?_; exfalso; simp only [f1, Bool.not_true, Bool.false_eq_true, reduceCtorEq] at h; done)
      | (refine fun h => ?_; exfalso; have h : (!wtB n w) = false := h; rw [hw] at h; cases h; done)
      | refine fun h => ?_
      | refine ple_ok ?_
    all_goals first
      | trivial
      | rfl
      | exact .mk w hn rfl
      | skip
  · have f1 : decide (okS ⟨a, b, c, d⟩) = false := decide_eq_false hx
    repeat' first
      | refine ⟨?_, ?_⟩
      | refine fun h => absurd h (by decide)
      | (refine fun h => ?_; exfalso; simp only [f1, Bool.not_false, Bool.true_eq_false, reduceCtorEq] at h; done)
      | refine fun h => ?_
      | refine ple_ok ?_
    all_goals first
      | trivial
      | rfl
      | skip
set_option maxRecDepth 20000 in
set_option maxHeartbeats 1000000 in
theorem fairV (a b c d : Int) (n : Nat) (w : Nat → Int) (hx : okS ⟨a, b, c, d⟩) (hwb : wtB n w = true) : SF Try.prog 11 (V.atS (FARGS a b c d n w) (.bool true)) := by
  have hw := wtB_get hwb
  have h1 := hw.h1
  have h2 := hw.h2
  have hM : 0 ≤ a ∧ a ≤ 1000000 := ⟨hx.1, hx.2.1⟩
  have hE : shE ⟨a, b, c, d⟩ n w = 0 := by unfold shE; rw [if_pos hx, hwb]; rfl
  have hN : shN ⟨a, b, c, d⟩ n w = n := if_pos hE
  have hL : shL ⟨a, b, c, d⟩ n w = .agg [I (b - (sumS (shP ⟨a, b, c, d⟩ n w) n).h), I (c - (sumS (shP ⟨a, b, c, d⟩ n w) n).s), I (d - (sumS (shP ⟨a, b, c, d⟩ n w) n).g)] := if_pos hE
  have h31 : SF Try.prog 31 (V.atS (FARGS a b c d n w) (.tup [.slice none n fun i => strL (shP ⟨a, b, c, d⟩ n w i), .agg [I (b - (sumS (shP ⟨a, b, c, d⟩ n w) n).h), I (c - (sumS (shP ⟨a, b, c, d⟩ n w) n).s), I (d - (sumS (shP ⟨a, b, c, d⟩ n w) n).g)], I 0])) := by
    refine sf_at sf31 (.mk w (by omega) rfl) ?_
    show PV.tup [.slice none (shN ⟨a, b, c, d⟩ n w) (fun i => strL (shP ⟨a, b, c, d⟩ n w i)), shL ⟨a, b, c, d⟩ n w, I (shE ⟨a, b, c, d⟩ n w)] = _
    rw [hN, hL, hE]
  have h34 : SF Try.prog 34 (V.atS [.slice none n fun i => intL (w i)] (.bool true)) := by
    refine sf_at sf34b (.mk w (by omega) rfl) ?_
    show PV.bool (wtB n w) = _
    rw [hwb]
  have h21 : SF Try.prog 21 (V.atS [.agg [.int .i64 a, .int .i64 b, .int .i64 c, .int .i64 d]] (.bool true)) := by
    refine sf_at sf21 trivial ?_
    show PV.bool (decide (okS ⟨a, b, c, d⟩)) = _
    rw [decide_eq_true hx]
  have hm := sh_m (x := ⟨a, b, c, d⟩) hw hM
  have hp : ∀ i, i < n → okS (shP ⟨a, b, c, d⟩ n w i) := fun i hi => okS_prt hx (sh_bd hw hM hi)
  have hpm : ∀ i, i < n → (shP ⟨a, b, c, d⟩ n w i).m = shMass a w n i := fun i hi => prt_m (sh_bd hw hM hi)
  have hbig := sumS_big hp
  generalize hLs : shP ⟨a, b, c, d⟩ n w = L at *
  refine sf_of types_ok mixed (l := [(17, awakeF), (21, _), (34, _), (23, strS), (31, _), (22, chkS), (53, plusS), (27, inS)]) ⟨sf17f, h21, h34, sf23, h31, sf22, sf53, sf27, trivial⟩ (es := []) trivial 2 Try.func11 rfl (by kernel_rfl) fun args h => ?_
  have h : args = FARGS a b c d n w := h
  subst h
  refine ⟨rfl, ?_⟩
  have fn : ((n : Int) != (n : Int)) = false := bne_self_eq_false _
  repeat' first
    | refine ⟨?_, ?_⟩
    | refine fun h => absurd h (by decide)
    | (refine fun h => ?_; exfalso; simp only [fn, Bool.false_eq_true, reduceCtorEq] at h; done)
    | refine fun (h : @Eq Bool _ _) => ?_
    | refine Halt.mk ⟨[1, 2, 5, 6, 8, 9, 10], [2, 6, 8], fun st => ∃ m : Nat, m ≤ n ∧ st = mkSt (List.zip [1, 2, 5, 6, 8, 9, 10] [.slice none n fun i => intL (w i), .ptr 2 0, .slice none n fun i => strL (L i), .ptr 6 0, .ptr 8 0, I (sumZ w m), I (m : Nat)]) ([2, 6, 8].zip [.cells [I a, I b, I c, I d], .cells [I (b - (sumS L n).h), I (c - (sumS L n).s), I (d - (sumS L n).g)], .cells [I (sumS L 0).m, I (sumS L 0).h, I (sumS L 0).s, I (sumS L 0).g]]), fun st => n - (match st.slots 10 with | .int _ k => k.toNat | _ => 0),
        ⟨_, sle_head (live := [1, 2, 5, 6, 8, 9, 10]) (keep := [2, 6, 8]) [.slice none n fun i => intL (w i), .ptr 2 0, .slice none n fun i => strL (L i), .ptr 6 0, .ptr 8 0, I (sumZ w 0), I (0 : Nat)] [.cells [I a, I b, I c, I d], .cells [I (b - (sumS L n).h), I (c - (sumS L n).s), I (d - (sumS L n).g)], .cells [I (sumS L 0).m, I (sumS L 0).h, I (sumS L 0).s, I (sumS L 0).g]] (.cons (.refl _) (.cons (.refl _) (.cons (.refl _) (.cons (.refl _) (.cons (.refl _) (.cons (.refl _) (.cons (.refl _) .nil))))))) (.cons (.refl _) (.cons (.refl _) (.cons (.refl _) .nil))), 0, Nat.zero_le _, rfl⟩, ?_⟩
  all_goals first
    | trivial
    | rfl
    | omega
    | (show n * 8 ≤ 140737488355328; omega)
    | exact fun _ _ => ⟨rfl, rfl⟩
    | skip
  rintro st ⟨m, hm', rfl⟩
  refine ⟨fun h4 => ?_, fun h4 => ?_⟩
  · have hlt : m < n := by simpa using h4
    clear h4
    have em : IntKind.i64.wrap ((m : Int) + 1) = ((m + 1 : Nat) : Int) := by rw [w64 (by omega) (by omega)]; omega
    have hs := hw.le hm'
    have hx := hw.w0 m hlt
    have es : IntKind.i64.wrap (sumZ w m + w m) = sumZ w (m + 1) := w64 (by omega) (by omega)
    repeat' first
      | refine ⟨?_, ?_⟩
      | refine Halt.mk ⟨_, sle_head (live := [1, 2, 5, 6, 8, 9, 10]) (keep := [2, 6, 8]) [.slice none n fun i => intL (w i), .ptr 2 0, .slice none n fun i => strL (L i), .ptr 6 0, .ptr 8 0, I (sumZ w (m + 1)), I (m + 1 : Nat)] [.cells [I a, I b, I c, I d], .cells [I (b - (sumS L n).h), I (c - (sumS L n).s), I (d - (sumS L n).g)], .cells [I (sumS L 0).m, I (sumS L 0).h, I (sumS L 0).s, I (sumS L 0).g]] (.cons (.refl _) (.cons (.refl _) (.cons (.refl _) (.cons (.refl _) (.cons (.refl _) (.cons (ple_ok es) (.cons (ple_ok em) .nil))))))) (.cons (.refl _) (.cons (.refl _) (.cons (.refl _) .nil))), ⟨m + 1, by omega, rfl⟩, ?_⟩
    all_goals first
      | trivial
      | rfl
      | omega
      | exact Nat.le_refl 1
      | (show n - ((m + 1 : Nat) : Int).toNat < n - ((m : Nat) : Int).toNat; omega)
      | skip
  · obtain rfl : n = m := by
      have h4 : ¬ ((m : Int) < n) := of_decide_eq_false h4
      omega
    clear h4
    refine Halt.mk ⟨[1, 2, 5, 6, 8, 9, 11], [2, 6, 8], fun st => ∃ m : Nat, m ≤ n ∧ st = mkSt (List.zip [1, 2, 5, 6, 8, 9, 11] [.slice none n fun i => intL (w i), .ptr 2 0, .slice none n fun i => strL (L i), .ptr 6 0, .ptr 8 0, I (sumZ w n), I (m : Nat)]) ([2, 6, 8].zip [.cells [I a, I b, I c, I d], .cells [I (b - (sumS L n).h), I (c - (sumS L n).s), I (d - (sumS L n).g)], .cells [I (sumS L m).m, I (sumS L m).h, I (sumS L m).s, I (sumS L m).g]]), fun st => n - (match st.slots 11 with | .int _ k => k.toNat | _ => 0),
        ⟨_, sle_head (live := [1, 2, 5, 6, 8, 9, 11]) (keep := [2, 6, 8]) [.slice none n fun i => intL (w i), .ptr 2 0, .slice none n fun i => strL (L i), .ptr 6 0, .ptr 8 0, I (sumZ w n), I (0 : Nat)] [.cells [I a, I b, I c, I d], .cells [I (b - (sumS L n).h), I (c - (sumS L n).s), I (d - (sumS L n).g)], .cells [I (sumS L 0).m, I (sumS L 0).h, I (sumS L 0).s, I (sumS L 0).g]] (.cons (.refl _) (.cons (.refl _) (.cons (.refl _) (.cons (.refl _) (.cons (.refl _) (.cons (.refl _) (.cons (.refl _) .nil))))))) (.cons (.refl _) (.cons (.refl _) (.cons (.refl _) .nil))), 0, Nat.zero_le _, rfl⟩, ?_⟩
    rintro st ⟨k, hk, rfl⟩
    refine ⟨fun h4 => ?_, fun h4 => ?_⟩
    · have hlt : k < n := by simpa using h4
      clear h4
      have ek : IntKind.i64.wrap ((k : Int) + 1) = ((k + 1 : Nat) : Int) := by rw [w64 (by omega) (by omega)]; omega
      have hxk := hp k hlt
      have hfa := fair hw hM hlt
      have hWb := (hw.le (Nat.le_refl n)).2
      have hWp := hw.pos
      have hwk := hw.w0 k hlt
      have hmk := sh_bd hw hM hlt
      have hmm := hpm k hlt
      have b1 : 0 ≤ (L k).m * sumZ w n := by rw [hmm]; exact Int.mul_nonneg hmk.1 (by omega)
      have b2 : (L k).m * sumZ w n ≤ 1000000 * 20000 := by rw [hmm]; exact Int.mul_le_mul (by omega) (by omega) (by omega) (by decide)
      have b3 : 0 ≤ a * w k := Int.mul_nonneg hM.1 hwk.1
      have b4 : a * w k ≤ 1000000 * 1000 := Int.mul_le_mul hM.2 hwk.2 hwk.1 (by decide)
      have eF : IntKind.i64.wrap (IntKind.i64.wrap ((L k).m * sumZ w n) - IntKind.i64.wrap (a * w k)) = (L k).m * sumZ w n - a * w k := by
        rw [w64 (n := (L k).m * sumZ w n) (by omega) (by omega), w64 (n := a * w k) (by omega) (by omega)]
        exact w64 (by omega) (by omega)
      have eN : IntKind.i64.wrap (0 - sumZ w n) = 0 - sumZ w n := w64 (by omega) (by omega)
      rw [← hmm] at hfa
      have f1 : decide (IntKind.i64.wrap (IntKind.i64.wrap ((L k).m * sumZ w n) - IntKind.i64.wrap (a * w k)) ≤ IntKind.i64.wrap (0 - sumZ w n)) = false := decide_eq_false (by rw [eF, eN]; omega)
      have f2 : decide (sumZ w n ≤ IntKind.i64.wrap (IntKind.i64.wrap ((L k).m * sumZ w n) - IntKind.i64.wrap (a * w k))) = false := decide_eq_false (by rw [eF]; omega)
      have fC : ((if decide (okS ⟨(L k).m, (L k).h, (L k).s, (L k).g⟩) = true then (0 : Int) else 1) != 0) = false := by
        have : decide (okS ⟨(L k).m, (L k).h, (L k).s, (L k).g⟩) = true := decide_eq_true hxk
        rw [this]; rfl
      have hb := hbig k (by omega)
      have hb' := hbig (k + 1) (by omega)
      simp only [bigS] at hb hb'
      have p1 : IntKind.i64.wrap ((sumS L k).m + (L k).m) = (sumS L (k + 1)).m := w64 (by have : (sumS L (k + 1)).m = (sumS L k).m + (L k).m := rfl; omega) (by have : (sumS L (k + 1)).m = (sumS L k).m + (L k).m := rfl; omega)
      have p2 : IntKind.i64.wrap ((sumS L k).h + (L k).h) = (sumS L (k + 1)).h := w64 (by have : (sumS L (k + 1)).h = (sumS L k).h + (L k).h := rfl; omega) (by have : (sumS L (k + 1)).h = (sumS L k).h + (L k).h := rfl; omega)
      have p3 : IntKind.i64.wrap ((sumS L k).s + (L k).s) = (sumS L (k + 1)).s := w64 (by have : (sumS L (k + 1)).s = (sumS L k).s + (L k).s := rfl; omega) (by have : (sumS L (k + 1)).s = (sumS L k).s + (L k).s := rfl; omega)
      have p4 : IntKind.i64.wrap ((sumS L k).g + (L k).g) = (sumS L (k + 1)).g := w64 (by have : (sumS L (k + 1)).g = (sumS L k).g + (L k).g := rfl; omega) (by have : (sumS L (k + 1)).g = (sumS L k).g + (L k).g := rfl; omega)
      repeat' first
        | refine ⟨?_, ?_⟩
        | (refine fun (h : @Eq Bool _ _) => ?_; exfalso; simp only [fC, f1, f2, Int.toNat_natCast, Bool.not_false, Bool.not_true, Bool.false_eq_true, reduceCtorEq] at h; done)
        | refine fun (h : @Eq Bool _ _) => ?_
        | refine Halt.mk ⟨_, sle_head (live := [1, 2, 5, 6, 8, 9, 11]) (keep := [2, 6, 8]) [.slice none n fun i => intL (w i), .ptr 2 0, .slice none n fun i => strL (L i), .ptr 6 0, .ptr 8 0, I (sumZ w n), I (k + 1 : Nat)] [.cells [I a, I b, I c, I d], .cells [I (b - (sumS L n).h), I (c - (sumS L n).s), I (d - (sumS L n).g)], .cells [I (sumS L (k + 1)).m, I (sumS L (k + 1)).h, I (sumS L (k + 1)).s, I (sumS L (k + 1)).g]] (.cons (.refl _) (.cons (.refl _) (.cons (.refl _) (.cons (.refl _) (.cons (.refl _) (.cons (.refl _) (.cons (ple_ok ek) .nil))))))) (.cons (.refl _) (.cons (.refl _) (.cons (.cellsL (.cons (ple_ok p1) (.cons (ple_ok p2) (.cons (ple_ok p3) (.cons (ple_ok p4) .nil))))) .nil))), ⟨k + 1, by omega, rfl⟩, ?_⟩
      all_goals first
        | trivial
        | rfl
        | omega
        | exact Nat.le_refl 1
        | (show n - ((k + 1 : Nat) : Int).toNat < n - ((k : Nat) : Int).toNat; omega)
        | skip
    · obtain rfl : n = k := by
        have h4 : ¬ ((k : Int) < n) := of_decide_eq_false h4
        omega
      clear h4
      have hb := hbig n (by omega)
      simp only [bigS] at hb
      have hxx := hx
      simp only [okS] at hxx
      have q0 : ((sumS L n).m == a) = true := by rw [hm]; exact beq_self_eq_true a
      have q1 : (IntKind.i64.wrap ((sumS L n).h + (b - (sumS L n).h)) == b) = true := by rw [w64 (by omega) (by omega), beq_iff_eq]; omega
      have q2 : (IntKind.i64.wrap ((sumS L n).s + (c - (sumS L n).s)) == c) = true := by rw [w64 (by omega) (by omega), beq_iff_eq]; omega
      have q3 : (IntKind.i64.wrap ((sumS L n).g + (d - (sumS L n).g)) == d) = true := by rw [w64 (by omega) (by omega), beq_iff_eq]; omega
      have en : IntKind.i64.wrap ((n : Int) - 1) = (n : Int) - 1 := w64 (by omega) (by omega)
      by_cases hz : a = 0
      · have q4 : (a == 0) = true := by rw [beq_iff_eq]; exact hz
        repeat' first
          | refine ⟨?_, ?_⟩
          | (refine fun (h : @Eq Bool _ _) => ?_; exfalso; simp only [q0, q1, q2, q3, q4, cond_true, cond_false, Bool.not_false, Bool.not_true, Bool.true_eq_false, Bool.false_eq_true, reduceCtorEq] at h; done)
          | refine fun (h : @Eq Bool _ _) => ?_
          | refine ple_ok ?_
        all_goals first
          | trivial
          | rfl
          | (show @Eq Bool _ _; simp only [q0, q1, q2, q3, q4, cond_true, cond_false]; done)
          | skip
      · have q4 : (a == 0) = false := by rw [beq_eq_false_iff_ne]; exact hz
        have hl := sh_loss (x := ⟨a, b, c, d⟩) hw hM hz
        rw [hLs] at hl
        obtain ⟨hl1, hl2, hl3⟩ := hl
        have q5 : decide (0 ≤ b - (sumS L n).h ∧ b - (sumS L n).h ≤ IntKind.i64.wrap ((n : Int) - 1)) = true := decide_eq_true (by rw [en]; exact hl1)
        have q6 : decide (0 ≤ c - (sumS L n).s ∧ c - (sumS L n).s ≤ IntKind.i64.wrap ((n : Int) - 1)) = true := decide_eq_true (by rw [en]; exact hl2)
        have q7 : decide (0 ≤ d - (sumS L n).g ∧ d - (sumS L n).g ≤ IntKind.i64.wrap ((n : Int) - 1)) = true := decide_eq_true (by rw [en]; exact hl3)
        repeat' first
          | refine ⟨?_, ?_⟩
          | (refine fun (h : @Eq Bool _ _) => ?_; exfalso; simp only [q0, q1, q2, q3, q4, q5, q6, q7, cond_true, cond_false, Bool.not_false, Bool.not_true, Bool.true_eq_false, Bool.false_eq_true, reduceCtorEq] at h; done)
          | refine fun (h : @Eq Bool _ _) => ?_
          | refine ple_ok ?_
        all_goals first
          | trivial
          | rfl
          | (show @Eq Bool _ _; simp only [q0, q1, q2, q3, q4, q5, q6, q7, cond_true, cond_false]; done)
          | skip
end Go.Proofs.Ytiidjohhcappdaa
