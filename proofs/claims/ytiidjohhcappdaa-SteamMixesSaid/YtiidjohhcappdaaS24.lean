/- Layer 1: lists of streams handed over; the deepest level by the document's words. -/
import Derived.Test.YtiidjohhcappdaaS23
import Derived.Test.YtiidjohhcappdaaS18
import Derived.Test.YtiidjohhcappdaaM13
namespace Go.Proofs.Ytiidjohhcappdaa
open Go.V
set_option linter.unusedSimpArgs false

def strsS : V.Spec
  | [.slice none m get] => (some (isStrs m get), .slice none m get)
  | _ => bad
theorem sf30 : SF Try.prog 30 strsS := by
  refine sf_of types_ok mixed (l := [(23, strS)]) ⟨sf23, trivial⟩ (es := []) trivial 1 Try.func30 rfl (by kernel_rfl) fun args h => ?_
  unfold strsS at h
  split at h
  · rename_i n get
    have h : isStrs n get := h
    cases h with
    | no h => exact h.elim
    | mk t hn e =>
    subst e
    refine ⟨rfl, .mk ⟨[0, 3, 4], [3], fun st => ∃ k : Nat, k ≤ n ∧ st = mkSt [(0, .slice none n fun i => strL (t i)), (3, .slice (some 3) k fun i => strL (t i)), (4, .int .i64 k)] [(3, .grow k 39 4)],
      fun st => n - (match st.slots 4 with | .int _ k => k.toNat | _ => 0), ?_, ?_⟩⟩
    · refine ⟨_, sle_head [.slice none n fun i => strL (t i), .slice (some 3) 0 fun i => strL (t i), .int .i64 0] [.grow 0 39 4] ?_ ?_, 0, Nat.zero_le _, rfl⟩
      · exact .cons (.refl _) (.cons (.slice _ _ _ _ fun i hi => by omega) (.cons (.refl _) .nil))
      · exact .cons (.refl _) .nil
    · rintro st ⟨k, hk, rfl⟩
      refine ⟨fun h1 => ?_, fun h1 => ?_⟩
      · have hlt : k < n := by simpa using h1
        refine ⟨⟨by omega, by omega, rfl⟩, ⟨rfl, by omega, by show (k + 1) * 32 ≤ _; omega, fun _ _ => rfl, fun i hi => ?_⟩, ?_⟩
        · obtain rfl : i = 0 := by omega
          exact ⟨rfl, rfl⟩
        · refine .mk ⟨_, sle_head [.slice none n fun i => strL (t i), .slice (some 3) (k + 1) fun i => strL (t i), .int .i64 (k + 1 : Nat)] [.grow (k + 1) 39 4] ?_ ?_, ⟨k + 1, by omega, rfl⟩, ?_⟩
          · refine .cons (.refl _) (.cons (.slice _ _ _ _ ?_) (.cons (.int _ _ _ ?_) .nil))
            · intro i hi
              by_cases hl : i < k
              · rw [blt_t hl]; rfl
              · obtain rfl : i = k := by omega
                rw [blt_f hl, Nat.sub_self]
                rfl
            · rw [w64 (by omega) (by omega)]; simp
          · exact .cons (.refl _) .nil
          · show n - (k + 1) < n - k
            omega
      · obtain rfl : k = n := by
          have : ¬ ((k : Int) < n) := of_decide_eq_false h1
          omega
        exact ⟨rfl, .refl _⟩
  · exact h.elim

noncomputable def refStrS : V.Spec
  | [.slice none m get] => (some (isStrs m get), .bool (allB m fun i => okS (strOf (get i))))
  | _ => bad
theorem sf32 : SF Try.prog 32 refStrS := by
  refine sf_of types_ok mixed (l := [(21, okSS)]) ⟨sf21, trivial⟩ (es := []) trivial 1 Try.func32 rfl (by kernel_rfl) fun args h => ?_
  unfold refStrS at h
  split at h
  · rename_i n get
    have h : isStrs n get := h
    cases h with
    | no h => exact h.elim
    | mk l hn e =>
    subst e
    have e : (refStrS [.slice none n fun i => strL (l i)]).2 = .bool (allB n fun i => okS (l i)) := rfl
    refine ⟨rfl, ?_⟩
    rw [e]
    clear e
    refine .mk ⟨[0, 3], [], fun st => ∃ k : Nat, k ≤ n ∧ Upto (fun i => okS (l i)) k ∧ st = mkSt [(0, .slice none n fun i => strL (l i)), (3, I k)] [],
      fun st => n - (match st.slots 3 with | .int _ k => k.toNat | _ => 0), ?_, ?_⟩
    · exact ⟨_, sle_head [.slice none n fun i => strL (l i), I (0 : Nat)] [] (.cons (.refl _) (.cons (.refl _) .nil)) .nil, 0, Nat.zero_le _, .zero _, rfl⟩
    · rintro st ⟨k, hk, hu, rfl⟩
      refine ⟨fun h2 => ?_, fun h2 => ?_⟩
      · have hlt : k < n := by simpa using h2
        clear h2
        refine ⟨⟨by omega, by omega, rfl⟩, fun h3 => ?_, fun h3 => ?_⟩
        · have h3 : (!decide (okS (l k))) = true := h3
          have h4 : ¬ okS (l k) := by
            intro hc
            rw [decide_eq_true hc] at h3
            cases h3
          refine ⟨rfl, ple_ok ?_⟩
          show allB n _ = false
          exact allB_f hlt h4
        · have h3 : (!decide (okS (l k))) = false := h3
          have h4 : okS (l k) := by
            by_cases hc : okS (l k)
            · exact hc
            · rw [decide_eq_false hc] at h3; cases h3
          refine Halt.mk ⟨_, sle_head [.slice none n fun i => strL (l i), I (k + 1 : Nat)] [] (.cons (.refl _) (.cons (ple_ok ?_) .nil)) .nil, ⟨k + 1, by omega, hu.succ h4, rfl⟩, ?_⟩
          · show IntKind.i64.wrap ((k : Int) + 1) = ((k + 1 : Nat) : Int)
            rw [w64 (by omega) (by omega)]; omega
          · show n - (k + 1) < n - k
            omega
      · have : k = n := by
          have := of_decide_eq_false h2
          omega
        subst this
        refine ⟨rfl, ple_ok ?_⟩
        show allB k _ = true
        exact allB_t hu
  · exact h.elim

theorem scale_nn (r : Row) (x : Stream) : 0 ≤ (partsV r x).scale := by
  rw [parts_scale]
  split <;> omega
inductive refDP (n : Nat) (get : Nat → List PV) (m : Nat) (lget : Nat → List PV) : Prop
  | mk (t : Nat → Row) (l : Nat → Stream) (hok : okT n t) (hm : m < 1000000) (hx : ∀ i, i < m → okS (l i)) (e : get = fun i => rowL (t i)) (e' : lget = fun i => strL (l i))
  | no (h : False)
noncomputable def refDeepV (n : Nat) (t : Nat → Row) (m : Nat) (l : Nat → Stream) : Int := if dp t m l n = n then -1 else (dp t m l n : Int)
noncomputable def refDeepS : V.Spec
  | [.slice none n get, .slice none m lget] => (some (refDP n get m lget), I (refDeepV n (fun i => rowOf (get i)) m fun i => strOf (lget i)))
  | _ => bad
theorem dp_succ_t {t : Nat → Row} {m : Nat} {l : Nat → Stream} {j : Nat} (h : Upto (fun i => (partsV (t j) (l i)).scale = 0) m) : dp t m l (j + 1) = dp t m l j := by
  show (bif allB m fun i => (partsV (t j) (l i)).scale = 0 then dp t m l j else j + 1) = _
  rw [allB_t h]; rfl
theorem dp_succ_f {t : Nat → Row} {m : Nat} {l : Nat → Stream} {j i : Nat} (hi : i < m) (h : ¬ (partsV (t j) (l i)).scale = 0) : dp t m l (j + 1) = j + 1 := by
  show (bif allB m fun i => (partsV (t j) (l i)).scale = 0 then dp t m l j else j + 1) = _
  rw [allB_f hi h]; rfl
set_option maxRecDepth 20000 in
set_option maxHeartbeats 1000000 in
theorem sf46 : SF Try.prog 46 refDeepS := by
  refine sf_of types_ok mixed (l := [(43, refFlashS)]) ⟨sf43, trivial⟩ (es := []) trivial 2 Try.func46 rfl (by kernel_rfl) fun args h => ?_
  unfold refDeepS at h
  split at h
  · rename_i n get m lget
    have h : refDP n get m lget := h
    cases h with
    | no h => exact h.elim
    | mk t l hok hm hx e e' =>
    subst e e'
    have e : (refDeepS [.slice none n fun i => rowL (t i), .slice none m fun i => strL (l i)]).2 = I (refDeepV n t m l) := rfl
    refine ⟨rfl, ?_⟩
    rw [e]
    clear e
    have hn2 := hok.1
    have hn20 := hok.2.1
    have hrd : ∀ D, dp t m l n = D → refDeepV n t m l = if D = n then -1 else (D : Int) := by
      intro D hD
      unfold refDeepV
      rw [hD]
    generalize hD : dp t m l n = D
    have hrd := hrd D hD
    refine .mk ⟨[0, 1, 5], [], fun st => ∃ k : Nat, k ≤ n ∧ dp t m l k = D ∧ st = mkSt [(0, tab n t), (1, .slice none m fun i => strL (l i)), (5, I ((k : Int) - 1))] [],
      fun st => (match st.slots 5 with | .int _ k => (k + 1).toNat | _ => 0), ?_, ?_⟩
    · refine ⟨_, sle_head [tab n t, .slice none m fun i => strL (l i), I ((n : Int) - 1)] [] (.cons (.refl _) (.cons (.refl _) (.cons (ple_ok ?_) .nil))) .nil, n, Nat.le_refl _, hD, rfl⟩
      show IntKind.i64.wrap ((n : Int) - 1) = (n : Int) - 1
      exact w64 (by omega) (by omega)
    · rintro st ⟨k, hk, hd, rfl⟩
      refine ⟨fun h2 => ?_, fun h2 => ?_⟩
      · have h2 : 0 ≤ (k : Int) - 1 := of_decide_eq_true h2
        obtain ⟨j, rfl⟩ : ∃ j, k = j + 1 := ⟨k - 1, by omega⟩
        clear h2
        have ej : (((j + 1 : Nat) : Int) - 1).toNat = j := by omega
        have hat := hok.2.2.all j (by omega)
        refine .mk ⟨[0, 1, 5, 6], [], fun st => ∃ i : Nat, i ≤ m ∧ Upto (fun i => (partsV (t j) (l i)).scale = 0) i ∧ st = mkSt [(0, tab n t), (1, .slice none m fun i => strL (l i)), (5, I (((j + 1 : Nat) : Int) - 1)), (6, I i)] [],
          fun st => m - (match st.slots 6 with | .int _ k => k.toNat | _ => 0), ?_, ?_⟩
        · exact ⟨_, sle_head [tab n t, .slice none m fun i => strL (l i), I (((j + 1 : Nat) : Int) - 1), I (0 : Nat)] [] (.cons (.refl _) (.cons (.refl _) (.cons (.refl _) (.cons (.refl _) .nil)))) .nil, 0, Nat.zero_le _, .zero _, rfl⟩
        · rintro st ⟨i, hi, hu, rfl⟩
          refine ⟨fun h3 => ?_, fun h3 => ?_⟩
          · have hlt : i < m := by simpa using h3
            clear h3
            have hnn := scale_nn (t j) (l i)
            have okx : okRX (t (((j + 1 : Nat) : Int) - 1).toNat) (l ((i : Int)).toNat) := by rw [ej]; exact .mk hat.1 (hx i hlt)
            refine ⟨⟨by omega, by omega, rfl⟩, ⟨by omega, by omega, rfl⟩, rfl, okx, rfl, fun h4 => ?_, fun h4 => ?_⟩
            · have h4 : 0 < (partsV (t (((j + 1 : Nat) : Int) - 1).toNat) (l i)).scale := of_decide_eq_true h4
              rw [ej] at h4
              have hdj := dp_succ_f (j := j) hlt (show ¬ (partsV (t j) (l i)).scale = 0 by omega)
              rw [hd] at hdj
              have ew : IntKind.i64.wrap ((n : Int) - 1) = (n : Int) - 1 := w64 (by omega) (by omega)
              refine ⟨fun h5 => ?_, fun h5 => ?_⟩
              · have h5 : ((((j + 1 : Nat) : Int) - 1) == IntKind.i64.wrap ((n : Int) - 1)) = true := h5
                rw [ew, beq_iff_eq] at h5
                refine ⟨rfl, ple_ok ?_⟩
                show (-1 : Int) = refDeepV n t m l
                rw [hrd, if_pos (by omega)]
              · have h5 : ((((j + 1 : Nat) : Int) - 1) == IntKind.i64.wrap ((n : Int) - 1)) = false := h5
                rw [ew, beq_eq_false_iff_ne] at h5
                refine ⟨rfl, ple_ok ?_⟩
                show IntKind.i64.wrap ((((j + 1 : Nat) : Int) - 1) + 1) = refDeepV n t m l
                rw [hrd, if_neg (by omega), w64 (by omega) (by omega)]
                omega
            · have h4 : ¬ 0 < (partsV (t (((j + 1 : Nat) : Int) - 1).toNat) (l i)).scale := of_decide_eq_false h4
              rw [ej] at h4
              refine Halt.mk ⟨_, sle_head [tab n t, .slice none m fun i => strL (l i), I (((j + 1 : Nat) : Int) - 1), I (i + 1 : Nat)] [] (.cons (.refl _) (.cons (.refl _) (.cons (.refl _) (.cons (ple_ok ?_) .nil)))) .nil, ⟨i + 1, by omega, hu.succ (by omega), rfl⟩, ?_⟩
              · show IntKind.i64.wrap ((i : Int) + 1) = ((i + 1 : Nat) : Int)
                rw [w64 (by omega) (by omega)]; omega
              · show m - (i + 1) < m - i
                omega
          · have : i = m := by
              have := of_decide_eq_false h3
              omega
            subst this
            have hdj := dp_succ_t hu
            rw [hd] at hdj
            refine Halt.mk ⟨_, sle_head [tab n t, .slice none i fun i => strL (l i), I ((j : Int) - 1)] [] (.cons (.refl _) (.cons (.refl _) (.cons (ple_ok ?_) .nil))) .nil, ⟨j, by omega, hdj.symm, rfl⟩, ?_⟩
            · show IntKind.i64.wrap ((((j + 1 : Nat) : Int) - 1) - 1) = (j : Int) - 1
              rw [w64 (by omega) (by omega)]; omega
            · show ((j : Int) - 1 + 1).toNat < ((((j + 1 : Nat) : Int) - 1) + 1).toNat
              omega
      · have h2 : ¬ 0 ≤ (k : Int) - 1 := of_decide_eq_false h2
        have : k = 0 := by omega
        subst this
        have hd : 0 = D := hd
        refine ⟨rfl, ple_ok ?_⟩
        show (0 : Int) = refDeepV n t m l
        rw [hrd, if_neg (by omega)]
        omega
  · exact h.elim
end Go.Proofs.Ytiidjohhcappdaa
