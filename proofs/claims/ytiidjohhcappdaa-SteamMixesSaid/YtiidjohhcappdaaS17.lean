/- Layer 1: the deepest level. -/
import Derived.Test.YtiidjohhcappdaaS16
namespace Go.Proofs.Ytiidjohhcappdaa
open Go.V
set_option linter.unusedSimpArgs false

inductive isStrs (m : Nat) (get : Nat → List PV) : Prop
  | mk (l : Nat → Stream) (hm : m < 1000000) (e : get = fun i => strL (l i))
  | no (h : False)
noncomputable def chkStr (m : Nat) (l : Nat → Stream) : Int := if (m : Int) > 40 then 3 else bif allB m fun i => okS (l i) then 0 else 1
noncomputable def chkStrS : V.Spec
  | [.slice none m get] => (some (isStrs m get), I (chkStr m fun i => strOf (get i)))
  | _ => bad
theorem sf60 : SF Try.prog 60 chkStrS := by
  refine sf_of types_ok mixed (l := [(71, everyVS)]) ⟨sf71v, trivial⟩ (es := []) trivial 1 Try.func60 rfl (by kernel_rfl) fun args h => ?_
  unfold chkStrS at h
  split at h
  · rename_i m get
    have h : isStrs m get := h
    cases h with
    | no h => exact h.elim
    | mk l hm e =>
    subst e
    have e : (chkStrS [.slice none m fun i => strL (l i)]).2 = I (chkStr m l) := rfl
    refine ⟨rfl, ?_⟩
    rw [e]
    clear e
    refine ⟨fun h1 => ?_, fun h1 => ?_⟩
    · have h1 : (m : Int) > 40 := of_decide_eq_true h1
      refine ⟨rfl, ple_ok ?_⟩
      show (_ : Int) = chkStr m l
      unfold chkStr
      rw [if_pos h1]
    · have h1 : ¬ (m : Int) > 40 := of_decide_eq_false h1
      refine ⟨.mk l hm rfl rfl rfl rfl, fun h2 => ?_, fun h2 => ?_⟩
      · have h2 : (!allB m fun i => okS (l i)) = true := h2
        refine ⟨rfl, ple_ok ?_⟩
        show (_ : Int) = chkStr m l
        simp only [Bool.not_eq_true'] at h2
        unfold chkStr
        rw [if_neg h1, h2]; rfl
      · have h2 : (!allB m fun i => okS (l i)) = false := h2
        refine ⟨rfl, ple_ok ?_⟩
        show (_ : Int) = chkStr m l
        simp only [Bool.not_eq_false'] at h2
        unfold chkStr
        rw [if_neg h1, h2]; rfl
  · exact h.elim

noncomputable def dp (t : Nat → Row) (m : Nat) (l : Nat → Stream) : Nat → Nat
  | 0 => 0
  | k + 1 => bif allB m fun i => (partsV (t k) (l i)).scale = 0 then dp t m l k else k + 1
noncomputable def deepE (n : Nat) (t : Nat → Row) (m : Nat) (l : Nat → Stream) : Int :=
  bif okTb n t then (if chkStr m l = 0 then (if m = 0 then 1 else if dp t m l n = n then 7 else 0) else chkStr m l) else 1
noncomputable def deepV (n : Nat) (t : Nat → Row) (m : Nat) (l : Nat → Stream) : Int := if deepE n t m l = 0 then (dp t m l n : Int) else 0
inductive isTS (n : Nat) (get : Nat → List PV) (m : Nat) (lget : Nat → List PV) : Prop
  | mk (t : Nat → Row) (l : Nat → Stream) (hn : n < 1000000) (hm : m < 1000000) (e : get = fun i => rowL (t i)) (e' : lget = fun i => strL (l i))
  | no (h : False)
noncomputable def deepS0 : V.Spec
  | [.slice none n get, .slice none m lget] => (some (isTS n get m lget), .tup [I (deepV n (fun i => rowOf (get i)) m fun i => strOf (lget i)), I (deepE n (fun i => rowOf (get i)) m fun i => strOf (lget i))])
  | _ => bad
theorem dp_le (t : Nat → Row) (m : Nat) (l : Nat → Stream) : ∀ n, dp t m l n ≤ n
  | 0 => Nat.le_refl _
  | n + 1 => by
    have := dp_le t m l n
    unfold dp
    cases (allB m fun i => (partsV (t n) (l i)).scale = 0)
    · exact Nat.le_refl _
    · exact Nat.le_succ_of_le this

set_option maxRecDepth 20000 in
theorem sf45s : SF Try.prog 45 deepS0 := by
  refine sf_of types_ok mixed (l := [(25, chkTS), (60, chkStrS), (71, everySS)]) ⟨sf25, sf60, sf71s, trivial⟩ (es := []) trivial 2 Try.func45 rfl (by kernel_rfl) fun args h => ?_
  unfold deepS0 at h
  split at h
  · rename_i n get m lget
    have h : isTS n get m lget := h
    cases h with
    | no h => exact h.elim
    | mk t l hn hm e e' =>
    subst e e'
    have e : (deepS0 [.slice none n fun i => rowL (t i), .slice none m fun i => strL (l i)]).2 = .tup [I (deepV n t m l), I (deepE n t m l)] := rfl
    refine ⟨rfl, ?_⟩
    rw [e]
    clear e
    refine ⟨.mk t hn rfl, fun h1 => ?_, fun h1 => ?_⟩
    · cases hT : okTb n t with
      | true => simp only [rowOf_rowL, hT] at h1; exact absurd h1 (by decide)
      | false =>
        have hE : deepE n t m l = 1 := by simp only [deepE, hT, cond_false]
        have hV : deepV n t m l = 0 := if_neg (by rw [hE]; decide)
        rw [hE, hV]
        repeat' first
          | refine ⟨?_, ?_⟩
          | refine fun h => absurd h (by decide)
          | refine fun _ => ?_
          | refine ple_ok ?_
        all_goals first
          | trivial
          | rfl
          | (show @Eq Int _ _)
          | (show @Eq Bool _ _)
          | skip
        all_goals try simp only [toNat_pred, toNat_self, rowOf_rowL, toNat_zero, hT, cond_true, cond_false, okS, sel, Bool.not_eq_true', Bool.not_eq_false', decide_eq_true_eq, decide_eq_false_iff_not, bne_iff_ne, bne_eq_false_iff_eq, beq_iff_eq, beq_eq_false_iff_ne, ne_eq, ite_eq_left_iff, Decidable.not_not, Bool.and_eq_true, Bool.or_eq_true, Bool.and_eq_false_iff, Bool.or_eq_false_iff, not_and, Bool.not_true, Bool.not_false] at *
        all_goals try simp (disch := omega) only [w64, if_pos, if_neg] at *
        all_goals try simp only [w64e, toNat_pred, toNat_self, rowOf_rowL, toNat_zero, hT] at *
        all_goals first
          | trivial
          | omega
          | (split <;> omega)
          | (rw [if_pos (by omega)]; omega)
          | (rw [if_neg (by omega)]; omega)
          | (refine decide_eq_decide.2 ?_; omega)
          | (refine decide_eq_true ?_; omega)
          | (refine decide_eq_false ?_; omega)
          | skip
    · cases hT : okTb n t with
      | false => simp only [rowOf_rowL, hT] at h1; exact absurd h1 (by decide)
      | true =>
        clear h1
        have hok : okT n t := @of_decide_eq_true _ (Classical.propDecidable _) hT
        have hn2 := hok.1
        have hn20 := hok.2.1
        refine ⟨.mk l hm rfl, fun h2 => ?_, fun h2 => ?_⟩
        · have h2 : (chkStr m l != 0) = true := h2
          have h0 : chkStr m l ≠ 0 := by simpa using h2
          have hE : deepE n t m l = chkStr m l := by simp only [deepE, hT, cond_true, if_neg h0]
          have hV : deepV n t m l = 0 := if_neg (by rw [hE]; exact h0)
          rw [hE, hV]
          refine ⟨rfl, ple_ok ?_⟩
          exact ⟨rfl, rfl, trivial⟩
        · have h2 : (chkStr m l != 0) = false := h2
          have h0 : chkStr m l = 0 := by simpa using h2
          refine ⟨fun h3 => ?_, fun h3 => ?_⟩
          · have h3 : m = 0 := by
              have : (m : Int) = 0 := by simpa using h3
              omega
            have hE : deepE n t m l = 1 := by simp only [deepE, hT, cond_true, if_pos h0, if_pos h3]
            have hV : deepV n t m l = 0 := if_neg (by rw [hE]; decide)
            rw [hE, hV]
            refine ⟨rfl, ple_ok ?_⟩
            exact ⟨rfl, rfl, trivial⟩
          · have h3 : m ≠ 0 := by
              have : ¬ (m : Int) = 0 := by simpa using h3
              omega
            have hx : ∀ i, i < m → okS (l i) := by
              have h40 : ¬ (m : Int) > 40 := by
                intro hc
                simp only [chkStr, if_pos hc] at h0
                exact absurd h0 (by decide)
              cases hA : (allB m fun i => okS (l i)) with
              | true => exact (allB_get hA).all
              | false => simp only [chkStr, if_neg h40, hA, cond_false] at h0; exact absurd h0 (by decide)
            have hle := dp_le t m l n
            generalize hD : dp t m l n = D at hle
            have hE : deepE n t m l = if D = n then 7 else 0 := by simp only [deepE, hT, cond_true, if_pos h0, if_neg h3, hD]
            have hV : deepV n t m l = if D = n then 0 else (D : Int) := by
              unfold deepV
              rw [hE, hD]
              by_cases hc : D = n
              · rw [if_pos hc, if_pos hc]; rfl
              · rw [if_neg hc, if_neg hc]; rfl
            rw [hE, hV]
            refine .mk ⟨[0, 1, 8], [], fun st => ∃ k : Nat, k ≤ n ∧ dp t m l k = D ∧ st = mkSt [(0, tab n t), (1, .slice none m fun i => strL (l i)), (8, I k)] [],
              fun st => (match st.slots 8 with | .int _ k => k.toNat | _ => 0), ?_, ?_⟩
            · exact ⟨_, sle_head [tab n t, .slice none m fun i => strL (l i), I n] [] (.cons (.refl _) (.cons (.refl _) (.cons (.refl _) .nil))) .nil, n, Nat.le_refl _, hD, rfl⟩
            · rintro st ⟨k, hk, hd, rfl⟩
              cases k with
              | zero =>
                have hd : D = 0 := hd.symm
                subst hd
                repeat' first
                  | refine ⟨?_, ?_⟩
                  | refine fun h => absurd h (by decide)
                  | refine fun _ => ?_
                  | refine ple_ok ?_
                all_goals first
                  | trivial
                  | rfl
                  | (show @Eq Int _ _)
                  | (show @Eq Bool _ _)
                  | skip
                all_goals try simp only [toNat_pred, toNat_self, rowOf_rowL, toNat_zero, cond_true, cond_false, okS, sel, Bool.not_eq_true', Bool.not_eq_false', decide_eq_true_eq, decide_eq_false_iff_not, bne_iff_ne, bne_eq_false_iff_eq, beq_iff_eq, beq_eq_false_iff_ne, ne_eq, ite_eq_left_iff, Decidable.not_not, Bool.and_eq_true, Bool.or_eq_true, Bool.and_eq_false_iff, Bool.or_eq_false_iff, not_and, Bool.not_true, Bool.not_false] at *
                all_goals try simp (disch := omega) only [w64, if_pos, if_neg] at *
                all_goals try simp only [w64e, toNat_pred, toNat_self, rowOf_rowL, toNat_zero] at *
                all_goals first
                  | trivial
                  | omega
                  | (split <;> omega)
                  | (rw [if_pos (by omega)]; omega)
                  | (rw [if_neg (by omega)]; omega)
                  | (refine decide_eq_decide.2 ?_; omega)
                  | (refine decide_eq_true ?_; omega)
                  | (refine decide_eq_false ?_; omega)
                  | skip
              | succ j =>
                have hat := hok.2.2.all j (by omega)
                have ej : ((j + 1 : Nat) : Int) - 1 = j := by omega
                have ew : IntKind.i64.wrap (((j + 1 : Nat) : Int) - 1) = j := by rw [w64 (by omega) (by omega), ej]
                simp only [dp] at hd
                repeat' first
                  | refine ⟨?_, ?_⟩
                  | refine fun h => absurd h (by decide)
                  | refine fun _ => ?_
                  | refine ple_ok ?_
                  | refine Halt.mk ⟨_, sle_head [tab n t, .slice none m fun i => strL (l i), I j] [] (pleL_ok (fun _ _ => ple_ok) ?_) .nil, ⟨j, ?_, ?_, rfl⟩, ?_⟩
                all_goals first
                  | trivial
                  | rfl
                  | (show @Eq Int _ _)
                  | (show @Eq Bool _ _)
                  | skip
                all_goals try simp only [toNat_pred, toNat_self, rowOf_rowL, toNat_zero, ej, ew, cond_true, cond_false, okS, sel, Bool.not_eq_true', Bool.not_eq_false', decide_eq_true_eq, decide_eq_false_iff_not, bne_iff_ne, bne_eq_false_iff_eq, beq_iff_eq, beq_eq_false_iff_ne, ne_eq, ite_eq_left_iff, Decidable.not_not, Bool.and_eq_true, Bool.or_eq_true, Bool.and_eq_false_iff, Bool.or_eq_false_iff, not_and, Bool.not_true, Bool.not_false] at *
                all_goals try simp (disch := omega) only [w64, if_pos, if_neg] at *
                all_goals try simp only [w64e, toNat_pred, toNat_self, rowOf_rowL, toNat_zero, ej, ew] at *
                all_goals first
                  | trivial
                  | omega
                  | (split <;> omega)
                  | (rw [if_pos (by omega)]; omega)
                  | (rw [if_neg (by omega)]; omega)
                  | (refine decide_eq_decide.2 ?_; omega)
                  | (refine decide_eq_true ?_; omega)
                  | (refine decide_eq_false ?_; omega)
                  | (show j < j + 1; omega)
                  | exact .mk l (t j) hm hat.1 hx rfl rfl rfl rfl
                  | (rw [‹allB _ _ = true›] at hd; exact hd)
                  | (rw [‹allB _ _ = false›] at hd; simp only [cond_false] at hd; subst hd; first | omega | (split <;> omega))
                  | skip
  · exact h.elim
end Go.Proofs.Ytiidjohhcappdaa
