/- Layer 4: the widest flow, told twice. -/
import Derived.Test.YtnjhbmcambofgaaS34
import Derived.Test.YtnjhbmcambofgaaS18
import Derived.Test.YtnjhbmcambofgaaS20
namespace Go.Proofs.Ytnjhbmcambofgaa
open Go.V
set_option linter.unusedSimpArgs false
set_option linter.unusedVariables false

theorem wid_rw {d d' : Nat → Int} : ∀ k, (∀ i, i < k → 0 ≤ d i ∧ d' i = d i + 1) → (widN d' k).1 = (rwN d k).1 ∧ (widN d' k).2 = (rwN d k).2 + 1
  | 0, _ => ⟨rfl, rfl⟩
  | k + 1, h => by
    obtain ⟨h1, h2⟩ := wid_rw k fun i hi => h i (by omega)
    obtain ⟨h3, h4⟩ := h k (by omega)
    unfold widN rwN
    have e : decide ((widN d' k).2 < d' k) = decide ((rwN d k).2 < d k) := by rw [h2, h4]; exact decide_eq_decide.2 (by omega)
    rw [e]
    cases decide ((rwN d k).2 < d k) with
    | true => exact ⟨rfl, h4⟩
    | false => exact ⟨h1, h2⟩
theorem qs_of {qs : Nat → Int} {k : Nat} (h : qsB qs k = true) : ∀ i, i < k → inQ (qs i) := fun i hi => by
  have := allN_all h i hi
  exact of_decide_eq_true this
theorem agrE_t {t : Tst} {b : Bool} (h : (agrE t b != 0) = false) : b = true := by
  cases b with
  | true => rfl
  | false => rw [agrE_ff] at h; cases h
theorem wid_eq {t : Tst} {qs : Nat → Int} {k : Nat} (h : (agrE t (okQ qs k) != 0) = false) : widM t qs k = (rwN (fun i => rwD (famsM t) (qs i)) k).1 := by
  obtain ⟨hok, hl, hp⟩ := agrE_ok h
  have hb := agrE_t h
  unfold okQ at hb
  rw [Bool.and_eq_true] at hb
  unfold widM
  rw [h, hl]
  refine (wid_rw (d := fun i => rwD (famsM t) (qs i)) k fun i hi => ?_).1
  have hq := qs_of hb.2 i hi
  have hd := enc_drop hok hp hq
  have e : w ((encL (dropF (qs i)) (famsM t)).hi - (encL (dropF (qs i)) (famsM t)).lo) = (encL (dropF (qs i)) (famsM t)).hi - (encL (dropF (qs i)) (famsM t)).lo := wi (by omega)
  refine ⟨by show 0 ≤ w _; rw [e]; omega, ?_⟩
  show w (w ((encM (dropF (qs i)) (getF (famsM t)) (famsM t).length).hi - (encM (dropF (qs i)) (getF (famsM t)) (famsM t).length).lo) + 1) = w _ + 1
  rw [← encL_pos hp, e, wi (by omega)]
/-- What is called with a test and flows. -/
def ask2S (t : Tst) : V.Spec
  | [.agg x, p, .int .i64 e] => match boolOf p with
    | some d => (some (x = tstC t ∧ e = 2), I (agrE t (!d)))
    | none => bad
  | _ => bad
theorem sf25b (t : Tst) (hn : t.n ≤ 100) : SF Try.prog 25 (ask2S t) := by
  refine sf_le sf25 fun args h => ?_
  unfold ask2S at h ⊢
  split at h
  · rename_i x p e
    split at h
    · rename_i d hd
      obtain ⟨rfl, rfl⟩ : x = tstC t ∧ e = 2 := h
      have e : askS [.agg (tstC t), p, I 2] = (some (isL stpL t.n fun i => stpL (t.s i)), I (askE t d 2)) := by
        unfold askS
        show (match boolOf p with | some b => (some (isL stpL t.n fun i => stpL (t.s i)), I (askE t b 2)) | none => bad) = _
        rw [hd]
      constructor
      · show ((askS [.agg (tstC t), p, I 2]).1).getD True
        rw [e]
        exact isLt t (by omega)
      · show PLe ((askS [.agg (tstC t), p, I 2]).2) _
        rw [e]
        exact ple_int (ask_agr t d)
    · exact h.elim
  · exact h.elim
theorem c29 (t : Tst) (qs : Nat → Int) (m : Nat) (hn : t.n ≤ 100) (hm : m ≤ 100) : SF Try.prog 29 (V.atS [.agg (tstC t), .slice none m fun i => intL (qs i)] (.tup [I (widM t qs m), I (agrE t (okQ qs m))])) := sf_at sf29 (show isL stpL t.n _ ∧ isL intL m _ from ⟨isLt t (by omega), .mk qs (by omega) rfl⟩) rfl
theorem c32 (t : Tst) (qs : Nat → Int) (m : Nat) (h : okT t) (hm : m ≤ 100) : SF Try.prog 32 (V.atS [.agg (tstC t), .slice none m fun i => intL (qs i)] (I (rwN (fun i => rwD (famsM t) (qs i)) m).1)) := sf_at sf32 (show isT t _ ∧ isL intL m _ from ⟨isTt t h, .mk qs (by omega) rfl⟩) rfl
def listS (t : Tst) (qs : Nat → Int) (m : Nat) (v : PV) : V.Spec
  | [.agg x, .slice none k g] => (some (x = tstC t ∧ k = m ∧ ∀ i, i < m → g i = intL (qs i)), v)
  | _ => bad
theorem sf_list {f : Nat} {t : Tst} {qs : Nat → Int} {m : Nat} {v : PV} (h : SF Try.prog f (V.atS [.agg (tstC t), .slice none m fun i => intL (qs i)] v)) : SF Try.prog f (listS t qs m v) := by
  refine sf_args h fun args hx => ?_
  unfold listS at hx ⊢
  split at hx
  · rename_i x k g
    obtain ⟨rfl, rfl, hg⟩ : x = tstC t ∧ k = m ∧ ∀ i, i < m → g i = intL (qs i) := hx
    refine ⟨[.agg (tstC t), .slice none k fun i => intL (qs i)], rfl, fun i hi => ?_, rfl, rfl⟩
    match i, hi with
    | 0, _ => exact .refl _
    | 1, _ => exact .slice _ _ _ _ hg
  · exact hx.elim
end Go.Proofs.Ytnjhbmcambofgaa
