/- Layer 4: sets of wells by bits; the least of them, as mathematics. -/
import Derived.Test.YtnjhbmcambofgaaS61
import Derived.Test.YtnjhbmcambofgaaS62
namespace Go.Proofs.Ytnjhbmcambofgaa
open Go.V
set_option linter.unusedSimpArgs false
set_option linter.unusedVariables false
set_option linter.unusedSectionVars false

theorem olist_congr {b b' : Nat → Bool} : ∀ {n : Nat}, (∀ i, i < n → b i = b' i) → olist b n = olist b' n
  | 0, _ => rfl
  | n + 1, h => by
    show (bif b n then olist b n ++ [(n : Int)] else olist b n) = (bif b' n then olist b' n ++ [(n : Int)] else olist b' n)
    rw [h n (by omega), olist_congr fun i hi => h i (by omega)]
theorem olist_mem {b : Nat → Bool} {x : Int} : ∀ {n : Nat}, x ∈ olist b n ↔ ∃ i, i < n ∧ b i = true ∧ x = (i : Int)
  | 0 => by simp [olist]
  | n + 1 => by
    have ih := olist_mem (b := b) (x := x) (n := n)
    cases hb : b n with
    | true =>
      rw [olist_t hb, List.mem_append, ih, List.mem_singleton]
      constructor
      · rintro (⟨i, h1, h2⟩ | rfl)
        · exact ⟨i, by omega, h2⟩
        · exact ⟨n, by omega, hb, rfl⟩
      · rintro ⟨i, h1, h2, h3⟩
        rcases Nat.lt_succ_iff_lt_or_eq.1 h1 with h | rfl
        · exact .inl ⟨i, h, h2, h3⟩
        · exact .inr h3
    | false =>
      rw [olist_f hb, ih]
      constructor
      · rintro ⟨i, h1, h2⟩; exact ⟨i, by omega, h2⟩
      · rintro ⟨i, h1, h2, h3⟩
        rcases Nat.lt_succ_iff_lt_or_eq.1 h1 with h | rfl
        · exact ⟨i, h, h2, h3⟩
        · rw [hb] at h2; cases h2
theorem btN_bit {x i : Nat} (hx : x < 1024) (hi : i < 10) : btN (x : Int) i = x.testBit i := by
  unfold btN
  have e1 : IntKind.u64.wrap (i : Int) = (i : Int) := by
    show (i : Int) % (2 ^ 64 : Int) = i
    omega
  have e2 : min (i : Int).toNat IntKind.i64.bits = i := by
    show min (i : Int).toNat 64 = i
    omega
  rw [e1, e2]
  have e3 : (x : Int).fdiv (2 ^ i) = ((x / 2 ^ i : Nat) : Int) := by
    rw [show (2 : Int) ^ i = ((2 ^ i : Nat) : Int) by rw [Int.natCast_pow]; rfl, Int.fdiv_eq_ediv_of_nonneg _ (Int.natCast_nonneg _)]
    rfl
  rw [e3]
  have hq : x / 2 ^ i < 1024 := Nat.lt_of_le_of_lt (Nat.div_le_self _ _) hx
  rw [Nat.testBit_eq_decide_div_mod_eq]
  generalize x / 2 ^ i = y at hq
  have e4 : (BitVec.ofInt IntKind.i64.bits (y : Int) &&& BitVec.ofInt IntKind.i64.bits 1).toNat = y % 2 := by
    show (BitVec.ofInt 64 (y : Int) &&& BitVec.ofInt 64 1).toNat = y % 2
    rw [BitVec.toNat_and, show (BitVec.ofInt 64 1).toNat = 1 from rfl, Nat.and_one_is_mod]
    congr 1
    rw [BitVec.toNat_ofInt]
    show ((y : Int) % (18446744073709551616 : Int)).toNat = y
    omega
  rw [e4]
  have hm : y % 2 = 0 ∨ y % 2 = 1 := by omega
  rcases hm with e | e <;> rw [e] <;> rfl
/-- The set of which these are the bits. -/
def ofB (b : Nat → Bool) : Nat → Nat
  | 0 => 0
  | n + 1 => bif b n then 2 ^ n + ofB b n else ofB b n
theorem ofB_lt (b : Nat → Bool) : ∀ n, ofB b n < 2 ^ n
  | 0 => Nat.one_pos
  | n + 1 => by
    have := ofB_lt b n
    unfold ofB
    rw [Nat.pow_succ]
    cases b n <;> simp only [cond_true, cond_false] <;> omega
theorem ofB_bit (b : Nat → Bool) : ∀ n i, i < n → (ofB b n).testBit i = b i
  | n + 1, i, hi => by
    unfold ofB
    by_cases e : i = n
    · subst e
      have h0 : (ofB b i).testBit i = false := Nat.testBit_lt_two_pow (ofB_lt b i)
      cases hb : b i with
      | true => rw [cond_true, Nat.testBit_two_pow_add_eq, h0]; rfl
      | false => rw [cond_false]; exact h0
    · cases b n with
      | true => rw [cond_true, Nat.testBit_two_pow_add_gt (by omega)]; exact ofB_bit b n i (by omega)
      | false => exact ofB_bit b n i (by omega)
theorem rise_last {k : Nat} : ∀ {l : List Int} {q : Int}, Rise ((k + 1 : Nat) : Int) q l → Rise (k : Int) q l ∨ ∃ l', l = l' ++ [(k : Int)] ∧ Rise (k : Int) q l'
  | [], _, _ => .inl trivial
  | x :: t, q, ⟨h1, h2, h3⟩ => by
    rcases rise_last h3 with h | ⟨t', rfl, h⟩
    · by_cases hx : x < (k : Int)
      · exact .inl ⟨h1, hx, h⟩
      · have hxk : x = (k : Int) := by omega
        subst hxk
        match t, h with
        | [], _ => exact .inr ⟨[], rfl, trivial⟩
        | y :: t, ⟨g1, g2, _⟩ => omega
    · have hk := rise_mem h3 (List.mem_append_right t' (List.mem_singleton.2 rfl))
      exact .inr ⟨x :: t', rfl, h1, by omega, h⟩
theorem rise_olist : ∀ {k : Nat} {l : List Int}, Rise (k : Int) 0 l → olist (fun i => decide ((i : Int) ∈ l)) k = l
  | 0, l, h => by
    match l, h with
    | [], _ => rfl
    | x :: t, ⟨h1, h2, _⟩ => exact absurd h2 (by omega)
  | k + 1, l, h => by
    rcases rise_last h with h' | ⟨l', rfl, h'⟩
    · have hn : decide (((k : Nat) : Int) ∈ l) = false := decide_eq_false fun hm => by have := rise_mem h' hm; omega
      rw [olist_f (b := fun i => decide ((i : Int) ∈ l)) hn]
      exact rise_olist h'
    · rw [olist_t (b := fun i => decide ((i : Int) ∈ l' ++ [(k : Int)])) (i := k) (decide_eq_true (List.mem_append_right _ (List.mem_singleton.2 rfl)))]
      congr 1
      rw [olist_congr (b' := fun i => decide ((i : Int) ∈ l')) fun i hi => ?_]
      · exact rise_olist h'
      · refine decide_eq_decide.2 ?_
        rw [List.mem_append, List.mem_singleton]
        exact ⟨fun h => by rcases h with h | h; exact h; exact absurd h (by omega), .inl⟩
/-- The wells of a set. -/
def memL (x : Int) : List Int := olist (btN x) 10
theorem memL_bits {x k : Nat} (hk : k ≤ 10) (hx : x < 2 ^ k) : memL (x : Int) = olist (fun i => x.testBit i) k := by
  have hx10 : x < 1024 := Nat.lt_of_lt_of_le hx (Nat.pow_le_pow_right (by omega) hk : 2 ^ k ≤ 2 ^ 10)
  have e : memL (x : Int) = olist (fun i => x.testBit i) 10 := olist_congr fun i hi => btN_bit hx10 hi
  rw [e]
  have cut : ∀ m, olist (fun i => x.testBit i) (k + m) = olist (fun i => x.testBit i) k := fun m => by
    induction m with
    | zero => rfl
    | succ m ih =>
      rw [← Nat.add_assoc, olist_f (b := fun i => x.testBit i) (Nat.testBit_lt_two_pow (Nat.lt_of_lt_of_le hx (Nat.pow_le_pow_right (by omega) (by omega)))), ih]
  have := cut (10 - k)
  rw [show k + (10 - k) = 10 by omega] at this
  exact this
theorem memL_rise {x k : Nat} (hk : k ≤ 10) (hx : x < 2 ^ k) : Rise (k : Int) 0 (memL (x : Int)) := by
  rw [memL_bits hk hx]; exact (olist_rise _ k).1
theorem memL_onto {k : Nat} (hk : k ≤ 10) {l : List Int} (hl : Rise (k : Int) 0 l) : ∃ x, x < 2 ^ k ∧ memL ((x : Nat) : Int) = l := by
  refine ⟨ofB (fun i => decide ((i : Int) ∈ l)) k, ofB_lt _ k, ?_⟩
  rw [memL_bits hk (ofB_lt _ k), olist_congr (b' := fun i => decide ((i : Int) ∈ l)) fun i hi => ofB_bit _ k i hi]
  exact rise_olist hl
theorem metB_iff {v : Svy} {x : Int} {a b : Nat} : ∀ {n : Nat}, metB v x a b n = true ↔ ∃ w, w < n ∧ btN x w = true ∧ (groupsM v w = groupsM v a ∨ groupsM v w = groupsM v b)
  | 0 => by simp [metB]
  | n + 1 => by
    show (metB v x a b n || (btN x n && ((groupsM v n == groupsM v a) || (groupsM v n == groupsM v b)))) = true ↔ _
    rw [Bool.or_eq_true, metB_iff, Bool.and_eq_true, Bool.or_eq_true, beq_iff_eq, beq_iff_eq]
    constructor
    · rintro (⟨w, h1, h2⟩ | ⟨h1, h2⟩)
      · exact ⟨w, by omega, h2⟩
      · exact ⟨n, by omega, h1, h2⟩
    · rintro ⟨w, h1, h2, h3⟩
      rcases Nat.lt_succ_iff_lt_or_eq.1 h1 with h | rfl
      · exact .inl ⟨w, h, h2, h3⟩
      · exact .inr ⟨h2, h3⟩
theorem plB_dec {v : Svy} (h : okV v) {k : Nat} (hk : (k : Int) = v.wl) {x : Nat} (hx : x < 2 ^ k) : plB v k (x : Int) = decL k (relsG v) (memL (x : Int)) := by
  have hw := h.wl
  have hmem : ∀ w, w < 10 → (btN (x : Int) w = true ↔ ((w : Nat) : Int) ∈ memL (x : Int)) := fun w hw10 => by
    unfold memL
    rw [olist_mem]
    exact ⟨fun hb => ⟨w, hw10, hb, rfl⟩, fun ⟨i, _, h2, h3⟩ => by obtain rfl : w = i := (by omega); exact h2⟩
  have hin := memL_rise (k := k) (by omega) hx
  rw [Bool.eq_iff_iff, decL_iff]
  unfold plB
  rw [allN_iff]
  constructor
  · intro hp a b ha hb h1
    have main : ∀ a b, a < k → b < a → relV v a b = 1 → (∃ y ∈ memL (x : Int), relV v y.toNat a = 2) ∨ ∃ y ∈ memL (x : Int), relV v y.toNat b = 2 := fun a b ha hba h1 => by
      have := allN_all (hp a ha) b hba
      unfold prB at this
      rw [h1] at this
      have this : metB v (x : Int) a b k = true := this
      obtain ⟨w, h2, h3, h4⟩ := metB_iff.1 this
      have hm := (hmem w (by omega)).1 h3
      rcases h4 with h4 | h4
      · exact .inl ⟨_, hm, by rw [Int.toNat_natCast]; exact (rel2_iff (by omega) (by omega)).2 h4⟩
      · exact .inr ⟨_, hm, by rw [Int.toNat_natCast]; exact (rel2_iff (by omega) (by omega)).2 h4⟩
    rcases Nat.lt_trichotomy a b with hab | rfl | hab
    · rw [relV_swap h (by omega) (by omega)] at h1
      exact (main b a hb hab h1).symm
    · rw [relV_self (by omega)] at h1; exact absurd h1 (by decide)
    · exact main a b ha hab h1
  · intro hd a ha
    refine allN_t fun b hb => ?_
    unfold prB
    cases hr : (relV v a b != 1) with
    | true => rfl
    | false =>
      have h1 : relV v a b = 1 := by simpa using hr
      have key : ∀ y, y ∈ memL (x : Int) → ∃ w : Nat, w < k ∧ btN (x : Int) w = true ∧ y = (w : Int) := fun y hy => by
        have hr := rise_mem hin hy
        refine ⟨y.toNat, by omega, ?_, by omega⟩
        rw [hmem y.toNat (by omega)]
        rw [show ((y.toNat : Nat) : Int) = y by omega]; exact hy
      rw [Bool.false_or]
      rcases hd a b ha (by omega) h1 with ⟨y, hy, e⟩ | ⟨y, hy, e⟩
      · obtain ⟨w, h2, h3, rfl⟩ := key y hy
        rw [Int.toNat_natCast] at e
        exact metB_iff.2 ⟨w, h2, h3, .inl ((rel2_iff (by omega) (by omega)).1 e)⟩
      · obtain ⟨w, h2, h3, rfl⟩ := key y hy
        rw [Int.toNat_natCast] at e
        exact metB_iff.2 ⟨w, h2, h3, .inr ((rel2_iff (by omega) (by omega)).1 e)⟩
-- WHICH COMES FIRST
theorem lexB_iff : ∀ {a b : List Int}, lexB a b = true ↔ lexlt a b
  | [], _ => by simp [lexB, lexlt]
  | _ :: _, [] => by simp [lexB, lexlt]
  | x :: s, y :: t => by
    show (bif x != y then decide (x < y) else lexB s t) = true ↔ (x < y ∨ (x = y ∧ lexlt s t))
    by_cases e : x = y
    · subst e
      rw [bne_self_eq_false, cond_false, lexB_iff]
      exact ⟨fun h => .inr ⟨rfl, h⟩, fun h => by rcases h with h | h; exact absurd h (by omega); exact h.2⟩
    · rw [bne_iff_ne.2 e, cond_true, decide_eq_true_eq]
      exact ⟨.inl, fun h => by rcases h with h | h; exact h; exact absurd h.1 e⟩
theorem befB_iff {a b : List Int} : befB a b = true ↔ a.length < b.length ∨ (a.length = b.length ∧ lexlt a b) := by
  unfold befB
  by_cases e : a.length = b.length
  · rw [e, bne_self_eq_false, cond_false, lexB_iff]
    exact ⟨fun h => .inr ⟨rfl, h⟩, fun h => by rcases h with h | h; exact absurd h (by omega); exact h.2⟩
  · rw [bne_iff_ne.2 (fun c : (a.length : Int) = (b.length : Int) => e (by omega)), cond_true, decide_eq_true_eq]
    exact ⟨fun h => .inl (by omega), fun h => by rcases h with h | h; omega; exact absurd h.1 e⟩
theorem lexlt_trans : ∀ {a b c : List Int}, lexlt a b → lexlt b c → lexlt a c
  | x :: s, y :: t, z :: u, h1, h2 => by
    rcases h1 with h1 | ⟨rfl, h1⟩
    · rcases h2 with h2 | ⟨rfl, h2⟩
      · exact .inl (by omega)
      · exact .inl h1
    · rcases h2 with h2 | ⟨rfl, h2⟩
      · exact .inl h2
      · exact .inr ⟨rfl, lexlt_trans h1 h2⟩
theorem lexlt_tri : ∀ {a b : List Int}, a.length = b.length → ¬ lexlt a b → ¬ lexlt b a → a = b
  | [], [], _, _, _ => rfl
  | x :: s, y :: t, hl, h1, h2 => by
    have e : x = y := by
      rcases Int.lt_trichotomy x y with h | h | h
      · exact absurd (.inl h) h1
      · exact h
      · exact absurd (.inl h) h2
    subst e
    rw [lexlt_tri (a := s) (b := t) (by simpa using hl) (fun h => h1 (.inr ⟨rfl, h⟩)) fun h => h2 (.inr ⟨rfl, h⟩)]
theorem befB_trans {a b c : List Int} (h1 : befB a b = true) (h2 : befB b c = true) : befB a c = true := by
  rw [befB_iff] at *
  rcases h1 with h1 | ⟨h1, g1⟩ <;> rcases h2 with h2 | ⟨h2, g2⟩
  · exact .inl (by omega)
  · exact .inl (by omega)
  · exact .inl (by omega)
  · exact .inr ⟨by omega, lexlt_trans g1 g2⟩
/-- The best after the first n sets. -/
def bestL (v : Svy) (k : Nat) (f : List Int) : Nat → List Int
  | 0 => f
  | n + 1 => bif befB (memL (n : Int)) (bestL v k f n) && plB v k (n : Int) then memL (n : Int) else bestL v k f n
theorem bestL_inv {v : Svy} {k : Nat} {f : List Int} : ∀ n, (bestL v k f n = f ∨ ∃ x, x < n ∧ plB v k (x : Int) = true ∧ bestL v k f n = memL (x : Int)) ∧
    ∀ x, x < n → plB v k ((x : Nat) : Int) = true → befB (memL (x : Int)) (bestL v k f n) = false
  | 0 => ⟨.inl rfl, fun x hx => absurd hx (Nat.not_lt_zero x)⟩
  | n + 1 => by
    obtain ⟨h1, h2⟩ := bestL_inv (v := v) (k := k) (f := f) n
    show ((bif befB (memL (n : Int)) (bestL v k f n) && plB v k (n : Int) then memL (n : Int) else bestL v k f n) = f ∨ _) ∧ _
    cases hc : (befB (memL (n : Int)) (bestL v k f n) && plB v k (n : Int)) with
    | true =>
      have e : bestL v k f (n + 1) = memL (n : Int) := by show (bif befB (memL (n : Int)) (bestL v k f n) && plB v k (n : Int) then _ else _) = _; rw [hc]; rfl
      rw [Bool.and_eq_true] at hc
      rw [e]
      refine ⟨.inr ⟨n, by omega, hc.2, rfl⟩, fun x hx hp => ?_⟩
      cases hb : befB (memL (x : Int)) (memL (n : Int)) with
      | false => rfl
      | true =>
        rcases Nat.lt_succ_iff_lt_or_eq.1 hx with h | rfl
        · have := h2 x h hp
          rw [befB_trans hb hc.1] at this; cases this
        · rw [befB_iff] at hb
          rcases hb with hb | ⟨_, hb⟩
          · omega
          · have irr : ∀ l, ¬ lexlt l l := fun l => by
              induction l with
              | nil => exact fun h => h
              | cons y t ih => rintro (h | ⟨_, h⟩); omega; exact ih h
            exact absurd hb (irr _)
    | false =>
      have e : bestL v k f (n + 1) = bestL v k f n := by show (bif befB (memL (n : Int)) (bestL v k f n) && plB v k (n : Int) then _ else _) = _; rw [hc]; rfl
      rw [e]
      refine ⟨?_, fun x hx hp => ?_⟩
      · rcases h1 with h1 | ⟨x, a1, a2, a3⟩
        · exact .inl h1
        · exact .inr ⟨x, by omega, a2, a3⟩
      · rcases Nat.lt_succ_iff_lt_or_eq.1 hx with h | rfl
        · exact h2 x h hp
        · rw [hp, Bool.and_true] at hc; exact hc
/-- The first one of the least sets is the plan. -/
theorem best_plan {v : Svy} (h : okV v) {k : Nat} (hk : (k : Int) = v.wl) (hc : clashB v = false) : bestL v k (memL (((2 ^ k - 1 : Nat) : Int))) (2 ^ k) = toL (planR v) := by
  have hw := h.wl
  obtain ⟨p1, p2, p3, p4, p5⟩ := plan_sem h hk hc
  obtain ⟨b1, b2⟩ := bestL_inv (v := v) (k := k) (f := memL (((2 ^ k - 1 : Nat) : Int))) (2 ^ k)
  have hpos : 0 < 2 ^ k := Nat.two_pow_pos k
  generalize hB : bestL v k (memL (((2 ^ k - 1 : Nat) : Int))) (2 ^ k) = B at b1 b2
  obtain ⟨x, hx, ex⟩ := memL_onto (k := k) (by omega) p4
  have hpx : plB v k (x : Int) = true := by rw [plB_dec h hk hx, ex]; exact p3
  have n1 := b2 x hx hpx
  rw [ex] at n1
  have hBd : Rise (k : Int) 0 B ∧ decL k (relsG v) B = true := by
    rcases b1 with b1 | ⟨y, y1, y2, y3⟩
    · have hl : 2 ^ k - 1 < 2 ^ k := by omega
      rw [b1]
      refine ⟨memL_rise (by omega) hl, ?_⟩
      refine decL_iff.2 fun a b ha hb _ => .inl ⟨(a : Int), ?_, relV_self (by omega)⟩
      rw [memL_bits (by omega) hl, olist_mem]
      exact ⟨a, ha, by rw [Nat.testBit_two_pow_sub_one]; exact decide_eq_true ha, rfl⟩
    · rw [y3]
      exact ⟨memL_rise (by omega) y1, by rw [← plB_dec h hk y1]; exact y2⟩
  have n2 := p5 B hBd.1 hBd.2
  have hl : ¬ (toL (planR v)).length < B.length := fun hl => by
    rw [befB_iff.2 (.inl hl)] at n1; cases n1
  rw [toL_len] at hl
  have he : B.length = (planR v).k := by have := n2.1; omega
  refine lexlt_tri (by rw [toL_len]; exact he) (n2.2 he) fun hlt => ?_
  rw [befB_iff.2 (.inr ⟨by rw [toL_len]; exact he.symm, hlt⟩)] at n1; cases n1
end Go.Proofs.Ytnjhbmcambofgaa
