/- Layer 1: the saturation by the document's words. -/
import Derived.Test.YtiidjohhcappdaaS15
namespace Go.Proofs.Ytiidjohhcappdaa
open Go.V
set_option linter.unusedSimpArgs false

theorem gcd_mul_self (a d : Nat) : Nat.gcd (a * d) d = d := by
  rw [Nat.gcd_comm]
  exact Nat.gcd_eq_left ⟨a, by rw [Nat.mul_comm]⟩
theorem bet_hi {lo hi : Row} (h : lo.T < hi.T) (hp : 0 ≤ hi.P) : ((betN lo hi hi.T).tdiv (betG lo hi hi.T), (hi.T - lo.T).tdiv (betG lo hi hi.T)) = (hi.P, 1) := by
  have e : betN lo hi hi.T = hi.P * (hi.T - lo.T) := by
    unfold betN
    rw [← Int.add_mul, show lo.P + (hi.P - lo.P) = hi.P by omega]
  have hg : betG lo hi hi.T = hi.T - lo.T := by
    unfold betG
    rw [e]
    obtain ⟨p, hp'⟩ := Int.eq_ofNat_of_zero_le hp
    obtain ⟨d, hd⟩ := Int.eq_ofNat_of_zero_le (show 0 ≤ hi.T - lo.T by omega)
    rw [hp', hd]
    rw [show ((p : Int) * (d : Int)).toNat = p * d by rw [← Int.natCast_mul]; rfl, show (d : Int).toNat = d from rfl, gcd_mul_self]
  rw [hg, e, Int.mul_tdiv_cancel _ (by omega), Int.tdiv_self (by omega)]
theorem bet_lo {lo hi : Row} (h : lo.T < hi.T) (hp : 0 ≤ lo.P) : ((betN lo hi lo.T).tdiv (betG lo hi lo.T), (hi.T - lo.T).tdiv (betG lo hi lo.T)) = (lo.P, 1) := by
  have e : betN lo hi lo.T = lo.P * (hi.T - lo.T) := by
    unfold betN
    rw [Int.sub_self, Int.mul_zero, Int.add_zero]
  have hg : betG lo hi lo.T = hi.T - lo.T := by
    unfold betG
    rw [e]
    obtain ⟨p, hp'⟩ := Int.eq_ofNat_of_zero_le hp
    obtain ⟨d, hd⟩ := Int.eq_ofNat_of_zero_le (show 0 ≤ hi.T - lo.T by omega)
    rw [hp', hd]
    rw [show ((p : Int) * (d : Int)).toNat = p * d by rw [← Int.natCast_mul]; rfl, show (d : Int).toNat = d from rfl, gcd_mul_self]
  rw [hg, e, Int.mul_tdiv_cancel _ (by omega), Int.tdiv_self (by omega)]

theorem T_lt {n : Nat} {t : Nat → Row} (h : okT n t) : ∀ j i, i < j → j < n → (t i).T < (t j).T := by
  intro j
  induction j with
  | zero => intro i hi; omega
  | succ j ih =>
    intro i hi hj
    have hb := (h.2.2.all (j + 1) hj).2 (by omega)
    simp only [belP, Nat.add_sub_cancel] at hb
    by_cases hij : i = j
    · subst hij; omega
    · have := ih i (by omega) (by omega)
      omega
theorem nx_at {n : Nat} {t : Nat → Row} (h : okT n t) {x : Int} {k : Nat} (hk1 : 1 ≤ k) (hk : k < n) (hx : (t k).T = x) : ∀ f j, j ≤ k → k ≤ j + f → nx t x j f = k := by
  intro f
  induction f with
  | zero => intro j h1 h2; have : j = k := by omega
            subst this; rfl
  | succ f ih =>
    intro j h1 h2
    show (if (t j).T < x then nx t x (j + 1) f else j) = k
    by_cases hjk : j = k
    · subst hjk; rw [if_neg (by omega)]
    · have := T_lt h k j (by omega) hk
      rw [if_pos (by omega)]
      exact ih (j + 1) (by omega) (by omega)
theorem sat_at {n : Nat} {t : Nat → Row} (h : okT n t) {x : Int} {k : Nat} (hk : k < n) (hx : (t k).T = x) : satB t x (nx t x 1 (n - 1)) = ((t k).P, 1) := by
  have hr := (h.2.2.all k hk).1
  simp only [okR] at hr
  have h2 := h.1
  cases k with
  | zero =>
    have hlt := T_lt h 1 0 (by omega) (by omega)
    have e : nx t x 1 (n - 1) = 1 := by
      obtain ⟨f, hf⟩ : ∃ f, n - 1 = f + 1 := ⟨n - 2, by omega⟩
      rw [hf]
      show (if (t 1).T < x then nx t x (1 + 1) f else 1) = 1
      rw [if_neg (show ¬ (t 1).T < x by omega)]
    rw [e]
    subst hx
    exact bet_lo (lo := t 0) (hi := t 1) hlt (by omega)
  | succ k =>
    have hlt := T_lt h (k + 1) k (by omega) hk
    rw [nx_at h (by omega) hk hx (n - 1) 1 (by omega) (by omega)]
    subst hx
    exact bet_hi (lo := t k) (hi := t (k + 1)) hlt (by omega)

inductive satP (n : Nat) (get : Nat → List PV) (x : Int) : Prop
  | mk (t : Nat → Row) (hn : n < 1000000) (e : get = fun i => rowL (t i)) (hok : okT n t) (h1 : (t 0).T ≤ x) (h2 : x ≤ (t (n - 1)).T)
  | no (h : False)
def refSatS : V.Spec
  | [.slice none n get, .int .i64 x] => (some (satP n get x), .agg [I (satB (fun i => rowOf (get i)) x (nx (fun i => rowOf (get i)) x 1 (n - 1))).1, I (satB (fun i => rowOf (get i)) x (nx (fun i => rowOf (get i)) x 1 (n - 1))).2])
  | _ => bad

set_option maxRecDepth 20000 in
set_option maxHeartbeats 1000000 in
theorem sf28 : SF Try.prog 28 refSatS := by
  refine sf_of types_ok mixed (l := [(55, gcdS)]) ⟨sf55, trivial⟩ (es := []) trivial 2 Try.func28 rfl (by kernel_rfl) fun args h => ?_
  unfold refSatS at h
  split at h
  · rename_i n get x
    have h : satP n get x := h
    cases h with
    | no h => exact h.elim
    | mk t hn e hok hx1 hx2 =>
    subst e
    have e : (refSatS [.slice none n fun i => rowL (t i), .int .i64 x]).2 = .agg [I (satB t x (nx t x 1 (n - 1))).1, I (satB t x (nx t x 1 (n - 1))).2] := rfl
    refine ⟨rfl, ?_⟩
    rw [e]
    clear e
    have hn2 := hok.1
    have hn20 := hok.2.1
    generalize hB : satB t x (nx t x 1 (n - 1)) = B
    refine .mk ⟨[0, 1, 4, 5], [4], fun st => ∃ k : Nat, k ≤ n ∧ st = mkSt [(0, tab n t), (1, I x), (4, .ptr 4 0), (5, I k)] [(4, .cells [I 0, I 0])],
      fun st => n - (match st.slots 5 with | .int _ k => k.toNat | _ => 0), ?_, ?_⟩
    · exact ⟨_, sle_head [tab n t, I x, .ptr 4 0, I (0 : Nat)] [.cells [I 0, I 0]] (.cons (.refl _) (.cons (.refl _) (.cons (.refl _) (.cons (.refl _) .nil)))) (.cons (.refl _) .nil), 0, by omega, rfl⟩
    · rintro st ⟨k, hk, rfl⟩
      refine ⟨fun h2 => ?_, fun h2 => ?_⟩
      · have hlt : k < n := by simpa using h2
        have hat := hok.2.2.all k hlt
        clear h2
        refine ⟨⟨by omega, by omega, rfl⟩, fun h2 => ?_, fun h2 => ?_⟩
        · have hxk : (t k).T = x := by simpa using h2
          have hB' : B = ((t k).P, 1) := by rw [← hB]; exact sat_at hok hlt hxk
          rw [hB']
          repeat' first
            | refine ⟨?_, ?_⟩
            | refine fun h => absurd h (by decide)
            | refine fun _ => ?_
            | refine ple_ok ?_
          all_goals first
            | trivial
            | rfl
            | (show @Eq Int _ _)
            | (show @Eq Bool _ _)
            | skip
          all_goals try simp only [toNat_pred, toNat_self, rowOf_rowL, toNat_zero, cond_true, cond_false, okS, sel, Bool.not_eq_true', Bool.not_eq_false', decide_eq_true_eq, decide_eq_false_iff_not, bne_iff_ne, bne_eq_false_iff_eq, beq_iff_eq, beq_eq_false_iff_ne, ne_eq, ite_eq_left_iff, Decidable.not_not, Bool.and_eq_true, Bool.or_eq_true, Bool.and_eq_false_iff, Bool.or_eq_false_iff, not_and, Bool.not_true, Bool.not_false] at *
          all_goals try simp (disch := omega) only [w64, if_pos, if_neg] at *
          all_goals try simp only [w64e, toNat_pred, toNat_self, rowOf_rowL, toNat_zero] at *
          all_goals first
            | trivial
            | omega
            | (split <;> omega)
            | (rw [if_pos (by omega)]; omega)
            | (rw [if_neg (by omega)]; omega)
            | (refine decide_eq_decide.2 ?_; omega)
            | (refine decide_eq_true ?_; omega)
            | (refine decide_eq_false ?_; omega)
            | skip
        · clear h2
          repeat' first
            | refine ⟨?_, ?_⟩
            | refine fun h => absurd h (by decide)
            | refine fun _ => ?_
            | refine ple_ok ?_
            | refine Halt.mk ⟨_, sle_head [tab n t, I x, .ptr 4 0, I (k + 1 : Nat)] [.cells [I 0, I 0]] (.cons (.refl _) (.cons (.refl _) (.cons (.refl _) (.cons (ple_ok ?_) .nil)))) (.cons (.refl _) .nil), ⟨k + 1, ?_, rfl⟩, ?_⟩
          all_goals first
            | trivial
            | rfl
            | (show @Eq Int _ _)
            | (show @Eq Bool _ _)
            | skip
          all_goals try simp only [toNat_pred, toNat_self, rowOf_rowL, toNat_zero, cond_true, cond_false, okS, sel, Bool.not_eq_true', Bool.not_eq_false', decide_eq_true_eq, decide_eq_false_iff_not, bne_iff_ne, bne_eq_false_iff_eq, beq_iff_eq, beq_eq_false_iff_ne, ne_eq, ite_eq_left_iff, Decidable.not_not, Bool.and_eq_true, Bool.or_eq_true, Bool.and_eq_false_iff, Bool.or_eq_false_iff, not_and, Bool.not_true, Bool.not_false] at *
          all_goals try simp (disch := omega) only [w64, if_pos, if_neg] at *
          all_goals try simp only [w64e, toNat_pred, toNat_self, rowOf_rowL, toNat_zero] at *
          all_goals first
            | trivial
            | omega
            | (split <;> omega)
            | (rw [if_pos (by omega)]; omega)
            | (rw [if_neg (by omega)]; omega)
            | (refine decide_eq_decide.2 ?_; omega)
            | (refine decide_eq_true ?_; omega)
            | (refine decide_eq_false ?_; omega)
            | (show n - (k + 1) < n - k; omega)
            | skip
      · clear h2
        refine .mk ⟨[0, 1, 4, 6], [4], fun st => ∃ k : Nat, k + 1 ≤ n - 1 ∧ (t k).T ≤ x ∧ nx t x (k + 1) (n - (k + 1)) = nx t x 1 (n - 1) ∧ st = mkSt [(0, tab n t), (1, I x), (4, .ptr 4 0), (6, I k)] [(4, .cells [I 0, I 0])],
          fun st => n - (match st.slots 6 with | .int _ k => k.toNat | _ => 0), ?_, ?_⟩
        · exact ⟨_, sle_head [tab n t, I x, .ptr 4 0, I (0 : Nat)] [.cells [I 0, I 0]] (.cons (.refl _) (.cons (.refl _) (.cons (.refl _) (.cons (.refl _) .nil)))) (.cons (.refl _) .nil), 0, by omega, hx1, rfl, rfl⟩
        · rintro st ⟨k, hk, hlo, hnx, rfl⟩
          have hat := hok.2.2.all (k + 1) (by omega)
          have hat' := hok.2.2.all k (by omega)
          have hbl := hat.2 (by omega)
          have er := hat.1
          have er' := hat'.1
          simp only [Nat.add_sub_cancel, belP] at hbl
          simp only [okR] at er er'
          obtain ⟨f, hf⟩ : ∃ f, n - (k + 1) = f + 1 := ⟨n - (k + 1) - 1, by omega⟩
          have ew : IntKind.i64.wrap ((k : Int) + 1) = ((k + 1 : Nat) : Int) := by rw [w64 (by omega) (by omega)]; omega
          have et : ((k : Int) + 1).toNat = k + 1 := by omega
          refine ⟨⟨?_, ?_, rfl⟩, fun h2 => ?_, fun h2 => ?_⟩
          · show 0 ≤ IntKind.i64.wrap ((k : Int) + 1)
            rw [ew]; omega
          · show IntKind.i64.wrap ((k : Int) + 1) < n
            rw [ew]; omega
          · have h2 : (t (IntKind.i64.wrap ((k : Int) + 1)).toNat).T < x := of_decide_eq_true h2
            rw [ew] at h2
            have h2 : (t (k + 1)).T < x := h2
            have hkn : k + 1 ≠ n - 1 := by
              intro hc
              rw [hc] at h2
              omega
            have hnx' : nx t x (k + 1 + 1) (n - (k + 1 + 1)) = nx t x 1 (n - 1) := by
              rw [← hnx, hf, show n - (k + 1 + 1) = f by omega]
              show _ = if (t (k + 1)).T < x then nx t x (k + 1 + 1) f else k + 1
              rw [if_pos h2]
            repeat' first
              | refine ⟨?_, ?_⟩
              | refine fun h => absurd h (by decide)
              | refine fun _ => ?_
              | refine ple_ok ?_
              | refine Halt.mk ⟨_, sle_head [tab n t, I x, .ptr 4 0, I (k + 1 : Nat)] [.cells [I 0, I 0]] (.cons (.refl _) (.cons (.refl _) (.cons (.refl _) (.cons (ple_ok ?_) .nil)))) (.cons (.refl _) .nil), ⟨k + 1, ?_, ?_, hnx', rfl⟩, ?_⟩
            all_goals first
              | trivial
              | rfl
              | (show @Eq Int _ _)
              | (show @Eq Bool _ _)
              | skip
            all_goals try simp only [toNat_pred, toNat_self, rowOf_rowL, toNat_zero, cond_true, cond_false, okS, sel, Bool.not_eq_true', Bool.not_eq_false', decide_eq_true_eq, decide_eq_false_iff_not, bne_iff_ne, bne_eq_false_iff_eq, beq_iff_eq, beq_eq_false_iff_ne, ne_eq, ite_eq_left_iff, Decidable.not_not, Bool.and_eq_true, Bool.or_eq_true, Bool.and_eq_false_iff, Bool.or_eq_false_iff, not_and, Bool.not_true, Bool.not_false] at *
            all_goals try simp (disch := omega) only [w64, if_pos, if_neg] at *
            all_goals try simp only [w64e, toNat_pred, toNat_self, rowOf_rowL, toNat_zero] at *
            all_goals first
              | trivial
              | omega
              | (split <;> omega)
              | (rw [if_pos (by omega)]; omega)
              | (rw [if_neg (by omega)]; omega)
              | (refine decide_eq_decide.2 ?_; omega)
              | (refine decide_eq_true ?_; omega)
              | (refine decide_eq_false ?_; omega)
              | (show n - (k + 1) < n - k; omega)
              | exact Int.le_of_lt h2
              | skip
          · have h2 : ¬ (t (IntKind.i64.wrap ((k : Int) + 1)).toNat).T < x := of_decide_eq_false h2
            rw [ew] at h2
            have h2 : ¬ (t (k + 1)).T < x := h2
            have hB' : B = satB t x (k + 1) := by
              rw [← hB, ← hnx, hf]
              show satB t x (if (t (k + 1)).T < x then nx t x (k + 1 + 1) f else k + 1) = _
              rw [if_neg h2]
            rw [hB']
            clear hB hB'
            have hp1 : 0 ≤ (t k).P * ((t (k + 1)).T - (t k).T) ∧ (t k).P * ((t (k + 1)).T - (t k).T) ≤ 4000000 :=
              ⟨Int.mul_nonneg (by omega) (by omega), by have := Int.mul_le_mul (show (t k).P ≤ 10000 by omega) (show (t (k + 1)).T - (t k).T ≤ 400 by omega) (by omega) (by omega); omega⟩
            have hp2 : 0 ≤ ((t (k + 1)).P - (t k).P) * (x - (t k).T) ∧ ((t (k + 1)).P - (t k).P) * (x - (t k).T) ≤ 4000000 :=
              ⟨Int.mul_nonneg (by omega) (by omega), by have := Int.mul_le_mul (show (t (k + 1)).P - (t k).P ≤ 10000 by omega) (show x - (t k).T ≤ 400 by omega) (by omega) (by omega); omega⟩
            have hg : (0 : Int) < (Nat.gcd ((t k).P * ((t (k + 1)).T - (t k).T) + ((t (k + 1)).P - (t k).P) * (x - (t k).T)).toNat ((t (k + 1)).T - (t k).T).toNat : Nat) := by
              have : 0 < Nat.gcd ((t k).P * ((t (k + 1)).T - (t k).T) + ((t (k + 1)).P - (t k).P) * (x - (t k).T)).toNat ((t (k + 1)).T - (t k).T).toNat := Nat.gcd_pos_of_pos_right _ (by omega)
              omega
            have q1 := tdiv_le (a := (t k).P * ((t (k + 1)).T - (t k).T) + ((t (k + 1)).P - (t k).P) * (x - (t k).T)) (by omega) hg
            have q2 := tdiv_le (a := (t (k + 1)).T - (t k).T) (by omega) hg
            have es : satB t x (k + 1) = (((t k).P * ((t (k + 1)).T - (t k).T) + ((t (k + 1)).P - (t k).P) * (x - (t k).T)).tdiv (Nat.gcd ((t k).P * ((t (k + 1)).T - (t k).T) + ((t (k + 1)).P - (t k).P) * (x - (t k).T)).toNat ((t (k + 1)).T - (t k).T).toNat : Nat),
              ((t (k + 1)).T - (t k).T).tdiv (Nat.gcd ((t k).P * ((t (k + 1)).T - (t k).T) + ((t (k + 1)).P - (t k).P) * (x - (t k).T)).toNat ((t (k + 1)).T - (t k).T).toNat : Nat)) := rfl
            rw [es]
            clear es
            clear hok hnx
            repeat' first
              | refine ⟨?_, ?_⟩
              | refine fun h => absurd h (by decide)
              | refine fun _ => ?_
              | refine ple_ok ?_
            all_goals first
              | trivial
              | rfl
              | (show @Eq Int _ _)
              | (show @Eq Bool _ _)
              | skip
            all_goals try simp only [toNat_pred, toNat_self, rowOf_rowL, toNat_zero, ew, et, cond_true, cond_false, okS, sel, Bool.not_eq_true', Bool.not_eq_false', decide_eq_true_eq, decide_eq_false_iff_not, bne_iff_ne, bne_eq_false_iff_eq, beq_iff_eq, beq_eq_false_iff_ne, ne_eq, ite_eq_left_iff, Decidable.not_not, Bool.and_eq_true, Bool.or_eq_true, Bool.and_eq_false_iff, Bool.or_eq_false_iff, not_and, Bool.not_true, Bool.not_false] at *
            all_goals try simp (disch := omega) only [w64, if_pos, if_neg] at *
            all_goals try simp only [w64e, toNat_pred, toNat_self, rowOf_rowL, toNat_zero, ew, et] at *
            all_goals first
              | trivial
              | omega
              | (split <;> omega)
              | (rw [if_pos (by omega)]; omega)
              | (rw [if_neg (by omega)]; omega)
              | (refine decide_eq_decide.2 ?_; omega)
              | (refine decide_eq_true ?_; omega)
              | (refine decide_eq_false ?_; omega)
              | (refine .mk ((t k).P * ((t (k + 1)).T - (t k).T) + ((t (k + 1)).P - (t k).P) * (x - (t k).T)).toNat ((t (k + 1)).T - (t k).T).toNat ?_ ?_ ?_ ?_ <;> omega)
              | skip
  · exact h.elim
end Go.Proofs.Ytiidjohhcappdaa
