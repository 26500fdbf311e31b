/- Layer 1: Flash. -/
import Derived.Test.YtiidjohhcappdaaS11
namespace Go.Proofs.Ytiidjohhcappdaa
open Go.V
set_option linter.unusedSimpArgs false

structure Parts where
  sm : Int
  sh : Int
  ss : Int
  sg : Int
  wm : Int
  wh : Int
  ws : Int
  wg : Int
  rest : Int
  scale : Int
def encP (p : Parts) : PV := .agg [I p.sm, I p.sh, I p.ss, I p.sg, I p.wm, I p.wh, I p.ws, I p.wg, I p.rest, I p.scale]
def zeroP : Parts := ⟨0, 0, 0, 0, 0, 0, 0, 0, 0, 0⟩
def pMkV (r : Row) (x : Stream) (sm sh sg wm wh wg : Int) : Parts :=
  ⟨sm, sh, 0, sg, wm, wh, if wm * r.S < x.s then wm * r.S else x.s, wg, if wh - wm * r.L > 0 then wh - wm * r.L else 0, x.s - (if wm * r.S < x.s then wm * r.S else x.s)⟩
def partsV (r : Row) (x : Stream) : Parts :=
  if massR r x = 0 then pMkV r x 0 0 0 x.m x.h x.g else if massR r x = x.m then pMkV r x x.m x.h x.g 0 0 0 else pMkV r x (massR r x) (massR r x * r.V) x.g (x.m - massR r x) (x.h - massR r x * r.V) 0
theorem partsR_eq (r : Row) (x : Stream) : partsR r x = encP (partsV r x) := by
  unfold partsR partsV
  split
  · rfl
  · split <;> rfl
inductive okRX (r : Row) (x : Stream) : Prop
  | mk (hr : okR r) (hx : okS x)
  | no (h : False)
def partsS' : V.Spec
  | [.agg [.int .i64 T, .int .i64 P, .int .i64 L, .int .i64 V, .int .i64 S, .int .i64 a, .int .i64 b, .int .i64 c, .int .i64 d]] => (some (okRX ⟨T, P, L, V, S⟩ ⟨a, b, c, d⟩), encP (partsV ⟨T, P, L, V, S⟩ ⟨a, b, c, d⟩))
  | _ => bad
theorem sf68' : SF Try.prog 68 partsS' := by
  refine sf_args sf68 fun args h => ?_
  unfold partsS' at h ⊢
  split at h
  · rename_i T P L V S a b c d
    have h : okRX ⟨T, P, L, V, S⟩ ⟨a, b, c, d⟩ := h
    cases h with
    | no h => exact h.elim
    | mk hr hx =>
    exact ⟨_, rfl, fun i hi => .refl _, ⟨hr, hx⟩, partsR_eq _ _⟩
  · exact h.elim

theorem upto_one (p : Nat → Prop) : Upto p 1 ↔ p 0 := ⟨fun h => h.all 0 (by omega), fun h => ⟨fun i hi => by obtain rfl : i = 0 := (by omega); exact h⟩⟩
noncomputable def err1 (n : Nat) (t : Nat → Row) (lv : Int) : Int := bif okTb n t then (if 0 ≤ lv ∧ lv ≤ (n : Int) - 1 then 0 else 2) else 1
theorem chk1 (n : Nat) (t : Nat → Row) (l : Nat → Int) : chkLE n t 1 l = err1 n t (l 0) := by
  unfold chkLE err1
  by_cases h : 0 ≤ l 0 ∧ l 0 ≤ (n : Int) - 1
  · rw [allB_t ((upto_one _).2 h), if_pos h]; rfl
  · rw [allB_f (k := 0) (by omega) h, if_neg h]; rfl
noncomputable def flE (n : Nat) (t : Nat → Row) (lv : Int) (x : Stream) : Int := if err1 n t lv = 0 then (if okS x then 0 else 1) else err1 n t lv
noncomputable def flV (n : Nat) (t : Nat → Row) (lv : Int) (x : Stream) : Parts := if flE n t lv x = 0 then partsV (t lv.toNat) x else zeroP
noncomputable def flashS : V.Spec
  | [.slice none n get, .int .i64 lv, .agg [.int .i64 a, .int .i64 b, .int .i64 c, .int .i64 d]] => (some (isTab n get), .tup [encP (flV n (fun i => rowOf (get i)) lv ⟨a, b, c, d⟩), I (flE n (fun i => rowOf (get i)) lv ⟨a, b, c, d⟩)])
  | _ => bad

set_option maxRecDepth 20000 in
theorem sf39 : SF Try.prog 39 flashS := by
  refine sf_of types_ok mixed (l := [(22, chkS), (67, chkLS), (68, partsS')]) ⟨sf22, sf67, sf68', trivial⟩ (es := []) trivial 3 Try.func39 rfl (by kernel_rfl) fun args h => ?_
  unfold flashS at h
  split at h
  · rename_i n get lv a b c d
    obtain ⟨hn, t, rfl⟩ := isTab.get h
    clear h
    have e : (flashS [.slice none n fun i => rowL (t i), .int .i64 lv, .agg [.int .i64 a, .int .i64 b, .int .i64 c, .int .i64 d]]).2 = .tup [encP (flV n t lv ⟨a, b, c, d⟩), I (flE n t lv ⟨a, b, c, d⟩)] := rfl
    refine ⟨rfl, ?_⟩
    rw [e]
    clear e
    refine ⟨.mk t (fun _ => lv) hn (by omega) rfl (fun i hi => by obtain rfl : i = 0 := (by omega); rfl), fun h1 => ?_, fun h1 => ?_⟩
    · rw [chk1] at h1
      have h1 : (err1 n t lv != 0) = true := h1
      have h0 : err1 n t lv ≠ 0 := by simpa using h1
      have hE : flE n t lv ⟨a, b, c, d⟩ = err1 n t lv := if_neg h0
      have hV : flV n t lv ⟨a, b, c, d⟩ = zeroP := if_neg (by rw [hE]; exact h0)
      rw [hE, hV]
      refine ⟨rfl, ple_ok ?_⟩
      refine ⟨⟨rfl, rfl, rfl, rfl, rfl, rfl, rfl, rfl, rfl, rfl, trivial⟩, ?_, trivial⟩
      exact chk1 _ _ _
    · rw [chk1] at h1
      have h1 : (err1 n t lv != 0) = false := h1
      have h0 : err1 n t lv = 0 := by simpa using h1
      refine ⟨fun h2 => ?_, fun h2 => ?_⟩
      · have hx : ¬ okS ⟨a, b, c, d⟩ := by
          intro hx
          rw [decide_eq_true hx] at h2
          exact absurd h2 (by decide)
        have hE : flE n t lv ⟨a, b, c, d⟩ = 1 := (if_pos h0).trans (if_neg hx)
        have hV : flV n t lv ⟨a, b, c, d⟩ = zeroP := if_neg (by rw [hE]; decide)
        rw [hE, hV]
        refine ⟨rfl, ple_ok ?_⟩
        refine ⟨⟨rfl, rfl, rfl, rfl, rfl, rfl, rfl, rfl, rfl, rfl, trivial⟩, ?_, trivial⟩
        show (if decide (okS ⟨a, b, c, d⟩) = true then (0 : Int) else 1) = 1
        rw [decide_eq_false hx]; rfl
      · have hx : okS ⟨a, b, c, d⟩ := by
          by_cases hx : okS ⟨a, b, c, d⟩
          · exact hx
          · rw [decide_eq_false hx] at h2
            exact absurd h2 (by decide)
        have hE : flE n t lv ⟨a, b, c, d⟩ = 0 := (if_pos h0).trans (if_pos hx)
        have hV : flV n t lv ⟨a, b, c, d⟩ = partsV (t lv.toNat) ⟨a, b, c, d⟩ := if_pos hE
        rw [hE, hV]
        have hT : okTb n t = true := by
          cases hT : okTb n t with
          | true => rfl
          | false => simp only [err1, hT, cond_false] at h0; exact absurd h0 (by decide)
        have hlv : 0 ≤ lv ∧ lv ≤ (n : Int) - 1 := by
          simp only [err1, hT, cond_true] at h0
          by_cases hl : 0 ≤ lv ∧ lv ≤ (n : Int) - 1
          · exact hl
          · rw [if_neg hl] at h0; exact absurd h0 (by decide)
        have hok : okT n t := @of_decide_eq_true _ (Classical.propDecidable _) hT
        have hr := (hok.2.2.all lv.toNat (by omega)).1
        clear h1 h2 hT h0 hE hV hok
        repeat' first
          | refine ⟨?_, ?_⟩
          | refine fun h => absurd h (by decide)
          | refine fun _ => ?_
          | refine ple_ok ?_
        all_goals first
          | trivial
          | rfl
          | (show @Eq Int _ _)
          | (show @Eq Bool _ _)
          | skip
        all_goals try simp only [toNat_pred, toNat_self, rowOf_rowL, cond_true, cond_false, okS, sel, Bool.not_eq_true', Bool.not_eq_false', decide_eq_true_eq, decide_eq_false_iff_not, bne_iff_ne, bne_eq_false_iff_eq, beq_iff_eq, beq_eq_false_iff_ne, ne_eq, ite_eq_left_iff, Decidable.not_not, Bool.and_eq_true, Bool.or_eq_true, Bool.and_eq_false_iff, Bool.or_eq_false_iff, not_and, Bool.not_true, Bool.not_false] at *
        all_goals try simp (disch := omega) only [w64, if_pos, if_neg] at *
        all_goals try simp only [w64e, toNat_pred, toNat_self, rowOf_rowL] at *
        all_goals first
          | trivial
          | omega
          | (split <;> omega)
          | (rw [if_pos (by omega)]; omega)
          | (rw [if_neg (by omega)]; omega)
          | (refine decide_eq_decide.2 ?_; omega)
          | (refine decide_eq_true ?_; omega)
          | (refine decide_eq_false ?_; omega)
          | exact .mk hr hx
          | skip
  · exact h.elim
end Go.Proofs.Ytiidjohhcappdaa
