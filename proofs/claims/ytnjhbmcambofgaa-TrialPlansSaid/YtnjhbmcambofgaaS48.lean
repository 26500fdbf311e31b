/- Layer 4: divisions by digits; the survey behind a pulse. -/
import Derived.Test.YtnjhbmcambofgaaS51
import Derived.Test.YtnjhbmcambofgaaS47
namespace Go.Proofs.Ytnjhbmcambofgaa
open Go.V
set_option linter.unusedSimpArgs false
set_option linter.unusedVariables false
set_option linter.unusedSectionVars false

def dvU (x : Int) : Nat → Int
  | 0 => x
  | k + 1 => IntKind.u64.wrap ((dvU x k).tdiv 4)
def digit (x : Int) (k : Nat) : Int := IntKind.i64.wrap ((dvU x k).tmod 4)
theorem int_len {s : Nat → Int} {n : Nat} : ∀ i, i < n → ((fun i => intL (s i)) i).length = 1 := fun _ _ => rfl
set_option maxRecDepth 20000 in
set_option maxHeartbeats 2000000 in
theorem d64 (n : Nat) (hn : n ≤ 1000) (x : Int) : SF Try.prog 64 (V.atS [I (n : Nat), .int .u64 x] (.slice none n fun i => intL (digit x i))) := by
  refine sf_gen types_ok mixed (l := []) trivial (es := []) trivial (its := []) trivial (fr := []) trivial [] [] false [] [] 2 Try.func64 rfl (by kernel_rfl) fun args h => ?_
  have h : args = _ := h
  subst h
  refine ⟨rfl, ?_⟩
  show evalCode _ _ _ fun o => match o with
    | .normal st | .ret st => withP _ (_ ∧ PLe _ (.slice none n fun i => intL (digit x i)))
    | _ => False
  repeat' first
    | exact PLe.refl _
    | exact BLe.refl _
    | exact PLeL.nil
    | exact BLeL.nil
    | refine ⟨?_, ?_⟩
    | refine PLeL.cons ?_ ?_
    | refine BLeL.cons ?_ ?_
    | refine ple_int ?_
    | refine ple_bool ?_
    | refine ple_tt ?_
    | refine ple_ff ?_
    | refine PLe.aggL ?_
    | refine PLe.tupL ?_
    | refine BLe.cellsL ?_
    | refine halt_rng (cnt 6) n [0, 1, 5, 6] [5] (fun k => [I (n : Nat), .int .u64 (dvU x k), .slice (some 5) k fun i => intL (digit x i), I (k : Nat)]) (fun k => [.grow k 3 1]) (fun _ => True) rfl (.mk ?_ ?_) trivial ?_
    | refine fun h => absurd h (by decide)
    | refine fun (h : @Eq Bool _ _) => ?_
  all_goals first
    | trivial
    | rfl
    | omega
    | exact ple_slice rfl fun i hi => by cases hi
    | skip
  intro m hm _
  refine ⟨fun h1 => ?_, fun h1 => ?_⟩
  · have hlt : m < n := by
      have : (m : Int) < (n : Int) := of_decide_eq_true h1
      omega
    have e1 := succ_w hlt (by omega)
    clear h1
    repeat' first
      | exact PLe.refl _
      | exact BLe.refl _
      | exact PLeL.nil
      | exact BLeL.nil
      | refine ⟨?_, ?_⟩
      | refine PLeL.cons ?_ ?_
      | refine BLeL.cons ?_ ?_
      | refine ple_int ?_
      | refine ple_bool ?_
      | refine ple_tt ?_
      | refine ple_ff ?_
      | refine PLe.aggL ?_
      | refine PLe.tupL ?_
      | refine BLe.cellsL ?_
      | refine next_rng (cn := cnt 6) rfl (fun _ => rfl) hlt trivial (.mk ?_ ?_)
      | refine fun h => absurd h (by decide)
      | refine fun (h : @Eq Bool _ _) => ?_
    all_goals first
      | trivial
      | rfl
      | omega
      | exact e1
      | exact int_len
      | (show (m + 1) * 8 ≤ 140737488355328; omega)
      | (intro y hy; obtain rfl : y = 0 := (by omega); exact ⟨rfl, rfl⟩)
      | (show (4 : Int) ≠ 0; decide)
      | skip
    · show PLe (.slice (some 5) (m + 1) _) _
      refine ple_slice rfl fun y hy => ?_
      by_cases hl : y < m
      · rw [blt_t hl]; rfl
      · obtain rfl : y = m := by
          have hy : y < m + 1 := hy
          omega
        rw [blt_f hl, Nat.sub_self]; rfl
  · have hmn : m = n := by
      have : ¬ ((m : Int) < (n : Int)) := of_decide_eq_false h1
      omega
    subst hmn
    clear h1
    repeat' first
      | exact PLe.refl _
      | exact BLe.refl _
      | exact PLeL.nil
      | exact BLeL.nil
      | refine ⟨?_, ?_⟩
      | refine PLeL.cons ?_ ?_
      | refine BLeL.cons ?_ ?_
      | refine ple_int ?_
      | refine ple_bool ?_
      | refine ple_tt ?_
      | refine ple_ff ?_
      | refine PLe.aggL ?_
      | refine PLe.tupL ?_
      | refine BLe.cellsL ?_
      | refine fun h => absurd h (by decide)
      | refine fun (h : @Eq Bool _ _) => ?_
    all_goals first
      | trivial
      | rfl
      | omega
      | skip

-- GROUPS AND RELATIONS
theorem gL_at (v : Svy) {x : Int} (h0 : 0 ≤ x) (h1 : x < 10) : (gL v).getD (ix x) 0 = groupsM v x.toNat := by
  rw [ix_nat h0]
  have hx : x.toNat < 10 := by omega
  generalize x.toNat = m at hx ⊢
  match m, hx with
  | 0, _ => rfl
  | 1, _ => rfl
  | 2, _ => rfl
  | 3, _ => rfl
  | 4, _ => rfl
  | 5, _ => rfl
  | 6, _ => rfl
  | 7, _ => rfl
  | 8, _ => rfl
  | 9, _ => rfl
theorem firstN_dec {f : Nat → Bool} {n : Nat} : decide (0 ≤ firstN f n) = true ↔ ∃ i, i < n ∧ f i = true := by
  constructor
  · intro h
    refine Classical.byContradiction fun hc => ?_
    have : firstN f n = -1 := firstN_f fun i hi => by
      cases hf : f i with
      | false => rfl
      | true => exact (hc ⟨i, hi, hf⟩).elim
    rw [this] at h
    cases h
  · rintro ⟨i, hi, h⟩
    induction n with
    | zero => exact absurd hi (Nat.not_lt_zero i)
    | succ n ih =>
      unfold firstN
      cases hd : decide (0 ≤ firstN f n) with
      | true => exact hd
      | false =>
        rcases Nat.lt_succ_iff_lt_or_eq.1 hi with h1 | rfl
        · rw [ih h1] at hd; cases hd
        · rw [h]
          exact decide_eq_true (by show (0 : Int) ≤ (i : Int); omega)
/-- An observation against the groups of two wells. -/
def apartB (v : Svy) (i j : Nat) : Prop := ∃ m, m < v.n ∧ (v.s m).hi < v.lv ∧ ((groupsM v (v.s m).a.toNat = groupsM v i ∧ groupsM v (v.s m).b.toNat = groupsM v j) ∨ (groupsM v (v.s m).a.toNat = groupsM v j ∧ groupsM v (v.s m).b.toNat = groupsM v i))
theorem isB_iff {v : Svy} (h : okV v) {i j : Nat} (hi : i < 10) (hj : j < 10) : isB v.lv (gL v) v.n v.s (i : Int) (j : Int) = true ↔ apartB v i j := by
  have hw := h.wl
  unfold isB apartB
  rw [firstN_dec]
  refine exists_congr fun m => and_congr_right fun hm => ?_
  obtain ⟨ha, hb, _⟩ := h.s m hm
  unfold agB
  rw [gL_at v ha.1 (by omega), gL_at v hb.1 (by omega), gL_at v (x := (i : Int)) (by omega) (by omega), gL_at v (x := (j : Int)) (by omega) (by omega), Int.toNat_natCast, Int.toNat_natCast]
  simp only [Bool.and_eq_true, Bool.or_eq_true, decide_eq_true_eq, beq_iff_eq]
theorem relV_eq {v : Svy} {i j : Nat} (hi : i < 10) (hj : j < 10) : relV v i j = bif (groupsM v i == groupsM v j) then 2 else bif isB v.lv (gL v) v.n v.s (i : Int) (j : Int) then 0 else 1 := by
  unfold relV relM
  rw [gL_at v (x := (i : Int)) (by omega) (by omega), gL_at v (x := (j : Int)) (by omega) (by omega), Int.toNat_natCast, Int.toNat_natCast]
theorem rel_yes {v : Svy} {i j : Nat} (hi : i < 10) (hj : j < 10) (e : groupsM v i = groupsM v j) : relV v i j = 2 := by
  rw [relV_eq hi hj, e]; simp
theorem rel_no {v : Svy} (h : okV v) {i j : Nat} (hi : i < 10) (hj : j < 10) (e : groupsM v i ≠ groupsM v j) (ha : apartB v i j) : relV v i j = 0 := by
  rw [relV_eq hi hj, (isB_iff h hi hj).2 ha, beq_eq_false_iff_ne.2 e]; rfl
theorem rel_may {v : Svy} (h : okV v) {i j : Nat} (hi : i < 10) (hj : j < 10) (e : relV v i j ≠ 1) : groupsM v i = groupsM v j ∨ (groupsM v i ≠ groupsM v j ∧ apartB v i j) := by
  by_cases hg : groupsM v i = groupsM v j
  · exact .inl hg
  · refine .inr ⟨hg, ?_⟩
    rw [relV_eq hi hj, beq_eq_false_iff_ne.2 hg] at e
    cases hb : isB v.lv (gL v) v.n v.s (i : Int) (j : Int) with
    | true => exact (isB_iff h hi hj).1 hb
    | false => rw [hb] at e; exact absurd rfl e
/-- Where some division fits there is no clash. -/
theorem fits_noclash {v : Svy} (h : okV v) {p : Nat → Int} (hf : fitsM v p = true) : clashB v = false := by
  cases hc : clashB v with
  | false => rfl
  | true =>
    exfalso
    have hw := h.wl
    obtain ⟨i, hi, hc⟩ := firstN_dec.1 hc
    obtain ⟨ha, hb, _⟩ := h.s i hi
    unfold clB at hc
    rw [gL_at v ha.1 (by omega), gL_at v hb.1 (by omega), Bool.and_eq_true, decide_eq_true_eq, beq_iff_eq] at hc
    have hp := fits_groups h hf (by omega) (by omega) hc.2
    have := allN_all hf i hi
    unfold fitAt fitO at this
    rw [beq_iff_eq.2 hp, decide_eq_true hc.1] at this
    cases this
-- THE SURVEY BEHIND A PULSE
theorem mem_pul {v : Svy} {q : Int} {p : Nat → Int} {x : Obs} : ∀ m : Nat, x ∈ pulL v q p m ↔ ∃ a : Nat, a < m ∧ ¬ (a : Int) = q ∧ x = ⟨q, (a : Int), pulA v q p a, pulA v q p a⟩
  | 0 => by simp [pulL]
  | m + 1 => by
    have ih := mem_pul (v := v) (q := q) (p := p) (x := x) m
    show x ∈ (bif ((m : Int) == q) then pulL v q p m else pulL v q p m ++ [⟨q, (m : Int), pulA v q p m, pulA v q p m⟩]) ↔ _
    cases hb : ((m : Int) == q) with
    | true =>
      have hq : (m : Int) = q := by simpa using hb
      rw [cond_true, ih]
      constructor
      · rintro ⟨a, h1, h2⟩; exact ⟨a, by omega, h2⟩
      · rintro ⟨a, h1, h2, h3⟩
        exact ⟨a, by rcases Nat.lt_succ_iff_lt_or_eq.1 h1 with h | rfl; exact h; exact absurd hq h2, h2, h3⟩
    | false =>
      have hq : ¬ (m : Int) = q := by simpa using hb
      rw [cond_false, List.mem_append, ih, List.mem_singleton]
      constructor
      · rintro (⟨a, h1, h2⟩ | rfl)
        · exact ⟨a, by omega, h2⟩
        · exact ⟨m, by omega, hq, rfl⟩
      · rintro ⟨a, h1, h2, h3⟩
        rcases Nat.lt_succ_iff_lt_or_eq.1 h1 with h | rfl
        · exact .inl ⟨a, h, h2, h3⟩
        · exact .inr h3
theorem pulG_cases {v : Svy} {l : List Obs} {i : Nat} (hi : i < v.n + l.length) : (i < v.n ∧ pulG v l i = v.s i) ∨ pulG v l i ∈ l := by
  unfold pulG
  by_cases h : i < v.n
  · rw [blt_t h]; exact .inl ⟨h, rfl⟩
  · rw [blt_f h]
    refine .inr ?_
    show l.getD (i - v.n) obs0 ∈ l
    rw [List.getD, List.getElem?_eq_getElem (by omega)]
    exact List.getElem_mem _
theorem pulG_has {v : Svy} {l : List Obs} {x : Obs} (hx : x ∈ l) : ∃ i, i < v.n + l.length ∧ pulG v l i = x := by
  obtain ⟨i, hi, e⟩ := List.getElem_of_mem hx
  refine ⟨v.n + i, by omega, ?_⟩
  unfold pulG
  rw [blt_f (by omega)]
  show l.getD (v.n + i - v.n) obs0 = x
  rw [show v.n + i - v.n = i by omega, List.getD, List.getElem?_eq_getElem hi]
  exact e
section
variable {v : Svy} (h : okV v) (hlv : ¬ v.lv = -2000000000) {q k : Nat} (hk : (k : Int) = v.wl) (hq : q < k) {p : Nat → Int} (hn : v.n + k ≤ 61) (hf : fitsM v p = true)
include h hlv hk hq hn
theorem next_ok : okV (pulV v (q : Int) p k) := by
  have hw := h.wl
  have hl := h.lv
  have hlen := (pulL_len v (q : Int) p k).2.1 (by omega) (by omega)
  refine ⟨?_, h.wl, h.lv, fun i hi => ?_⟩
  · show v.n + (pulL v (q : Int) p k).length ≤ 60
    omega
  · rcases pulG_cases hi with ⟨h1, e⟩ | hm
    · show (0 ≤ (pulG v (pulL v (q : Int) p k) i).a ∧ (pulG v (pulL v (q : Int) p k) i).a < v.wl) ∧ (0 ≤ (pulG v (pulL v (q : Int) p k) i).b ∧ (pulG v (pulL v (q : Int) p k) i).b < v.wl) ∧ (pulG v (pulL v (q : Int) p k) i).a ≠ (pulG v (pulL v (q : Int) p k) i).b ∧ okDrop (pulG v (pulL v (q : Int) p k) i).lo (pulG v (pulL v (q : Int) p k) i).hi
      rw [show pulG v (pulL v (q : Int) p k) i = v.s i from e]
      exact h.s i h1
    · obtain ⟨a, h1, h2, e⟩ := (mem_pul k).1 hm
      have hA : pulA v (q : Int) p a = v.lv ∨ pulA v (q : Int) p a = v.lv - 1 := by
        unfold pulA
        cases (p a == p (q : Int).toNat) <;> simp
      show (0 ≤ (pulG v (pulL v (q : Int) p k) i).a ∧ (pulG v (pulL v (q : Int) p k) i).a < v.wl) ∧ (0 ≤ (pulG v (pulL v (q : Int) p k) i).b ∧ (pulG v (pulL v (q : Int) p k) i).b < v.wl) ∧ (pulG v (pulL v (q : Int) p k) i).a ≠ (pulG v (pulL v (q : Int) p k) i).b ∧ okDrop (pulG v (pulL v (q : Int) p k) i).lo (pulG v (pulL v (q : Int) p k) i).hi
      rw [e]
      refine ⟨⟨by show (0 : Int) ≤ (q : Int); omega, by show (q : Int) < v.wl; omega⟩, ⟨by show (0 : Int) ≤ (a : Int); omega, by show (a : Int) < v.wl; omega⟩, fun e => h2 e.symm, ?_⟩
      show -2000000000 ≤ pulA v (q : Int) p a ∧ pulA v (q : Int) p a ≤ pulA v (q : Int) p a ∧ pulA v (q : Int) p a ≤ 2000000000
      omega
include hf
theorem next_fits : fitsM (pulV v (q : Int) p k) p = true := by
  refine allN_t fun i hi => ?_
  rcases pulG_cases hi with ⟨h1, e⟩ | hm
  · show fitO v.lv p (pulG v _ i).a (pulG v _ i).b (pulG v _ i).lo (pulG v _ i).hi = true
    rw [show pulG v (pulL v (q : Int) p k) i = v.s i from e]
    exact allN_all hf i h1
  · obtain ⟨a, h1, h2, e⟩ := (mem_pul k).1 hm
    show fitO v.lv p (pulG v (pulL v (q : Int) p k) i).a (pulG v (pulL v (q : Int) p k) i).b (pulG v (pulL v (q : Int) p k) i).lo (pulG v (pulL v (q : Int) p k) i).hi = true
    rw [e]
    show (bif (p (q : Int).toNat == p (a : Int).toNat) then !decide (pulA v (q : Int) p a < v.lv) else !decide (v.lv ≤ pulA v (q : Int) p a)) = true
    by_cases e2 : p a = p q
    · have hA : pulA v (q : Int) p a = v.lv := by
        unfold pulA
        rw [show (p a == p (q : Int).toNat) = true from beq_iff_eq.2 e2]; rfl
      rw [hA, show (p (q : Int).toNat == p (a : Int).toNat) = true from beq_iff_eq.2 e2.symm, decide_eq_false (by omega : ¬ v.lv < v.lv)]; rfl
    · have hA : pulA v (q : Int) p a = v.lv - 1 := by
        unfold pulA
        rw [show (p a == p (q : Int).toNat) = false from beq_eq_false_iff_ne.2 e2]; rfl
      rw [hA, show (p (q : Int).toNat == p (a : Int).toNat) = false from beq_eq_false_iff_ne.2 (fun c => e2 c.symm), decide_eq_false (by omega : ¬ v.lv ≤ v.lv - 1)]; rfl
theorem next_old {i : Nat} (hi : i < v.n) : (pulV v (q : Int) p k).s i = v.s i ∧ i < (pulV v (q : Int) p k).n := by
  refine ⟨?_, by show i < v.n + _; omega⟩
  show pulG v _ i = v.s i
  unfold pulG
  rw [blt_t hi]; rfl
/-- What was together stays so. -/
theorem next_tog {a b : Nat} (ha : a < 10) (hb : b < 10) (e : groupsM v a = groupsM v b) : groupsM (pulV v (q : Int) p k) a = groupsM (pulV v (q : Int) p k) b := by
  have ho := next_ok h hlv hk hq (p := p) hn
  have hp : ∀ i, i < v.n → v.lv ≤ (v.s i).lo → groupsM (pulV v (q : Int) p k) (v.s i).a.toNat = groupsM (pulV v (q : Int) p k) (v.s i).b.toNat := by
    intro i hi hs
    obtain ⟨e1, e2⟩ := next_old h hlv hk hq hn hf hi
    have := groups_sure ho e2 (by rw [e1]; exact hs)
    rw [e1] at this
    exact this
  have h1 := (groups_inv h _ hp a ha).2
  have h2 := (groups_inv h _ hp b hb).2
  rw [← h1, ← h2, e]
theorem next_rel {a b : Nat} (ha : a < 10) (hb : b < 10) (e : relV v a b ≠ 1) : relV (pulV v (q : Int) p k) a b = relV v a b := by
  have ho := next_ok h hlv hk hq (p := p) hn
  have hF := next_fits h hlv hk hq hn hf
  have hw := h.wl
  rcases rel_may h ha hb e with hg | ⟨hg, m, hm, hlt, hh⟩
  · rw [rel_yes ha hb hg, rel_yes ha hb (next_tog h hlv hk hq hn hf ha hb hg)]
  · rw [rel_no h ha hb hg ⟨m, hm, hlt, hh⟩]
    obtain ⟨ka, kb, _⟩ := h.s m hm
    have hpm : p (v.s m).a.toNat ≠ p (v.s m).b.toNat := by
      intro c
      have := allN_all hf m hm
      unfold fitAt fitO at this
      rw [beq_iff_eq.2 c, decide_eq_true hlt] at this
      cases this
    obtain ⟨e1, e2⟩ := next_old h hlv hk hq hn hf hm
    have T := fun {x y : Nat} (hx : x < 10) (hy : y < 10) (e : groupsM v x = groupsM v y) => next_tog h hlv hk hq hn hf hx hy e
    have P := fun {x y : Nat} (hx : x < 10) (hy : y < 10) (e : groupsM v x = groupsM v y) => fits_groups h hf hx hy e
    refine rel_no ho ha hb ?_ ⟨m, e2, by rw [e1]; exact hlt, ?_⟩
    · intro c
      have hc := fits_groups ho hF ha hb c
      rcases hh with ⟨g1, g2⟩ | ⟨g1, g2⟩
      · exact hpm ((P (by omega) ha g1).trans (hc.trans (P (by omega) hb g2).symm))
      · exact hpm ((P (by omega) hb g1).trans (hc.symm.trans (P (by omega) ha g2).symm))
    · rw [e1]
      rcases hh with ⟨g1, g2⟩ | ⟨g1, g2⟩
      · exact .inl ⟨T (by omega) ha g1, T (by omega) hb g2⟩
      · exact .inr ⟨T (by omega) hb g1, T (by omega) ha g2⟩
/-- The pulsed well's relations are known. -/
theorem next_known {a : Nat} (ha : a < k) : relV (pulV v (q : Int) p k) q a ≠ 1 := by
  have ho := next_ok h hlv hk hq (p := p) hn
  have hF := next_fits h hlv hk hq hn hf
  have hw := h.wl
  by_cases hqa : (a : Int) = (q : Int)
  · obtain rfl : a = q := by omega
    rw [rel_yes (by omega) (by omega) rfl]
    decide
  · obtain ⟨i, hi, e⟩ := pulG_has (v := v) ((mem_pul (v := v) (q := (q : Int)) (p := p) k).2 ⟨a, ha, hqa, rfl⟩)
    have e : (pulV v (q : Int) p k).s i = ⟨(q : Int), (a : Int), pulA v (q : Int) p a, pulA v (q : Int) p a⟩ := e
    by_cases hp : p a = p q
    · have hA : pulA v (q : Int) p a = v.lv := by unfold pulA; rw [Int.toNat_natCast, beq_iff_eq.2 hp]; rfl
      have := groups_sure ho hi (by rw [e]; show v.lv ≤ pulA v (q : Int) p a; omega)
      rw [e] at this
      have this : groupsM (pulV v (q : Int) p k) (q : Int).toNat = groupsM (pulV v (q : Int) p k) (a : Int).toNat := this
      rw [Int.toNat_natCast, Int.toNat_natCast] at this
      rw [rel_yes (by omega) (by omega) this]
      decide
    · have hA : pulA v (q : Int) p a = v.lv - 1 := by unfold pulA; rw [Int.toNat_natCast, beq_eq_false_iff_ne.2 hp]; rfl
      rw [rel_no ho (by omega) (by omega) (fun c => hp (fits_groups ho hF (by omega) (by omega) c).symm) ⟨i, hi, by rw [e]; show pulA v (q : Int) p a < v.lv; omega, by rw [e]; exact .inl ⟨by show groupsM _ (q : Int).toNat = _; rw [Int.toNat_natCast], by show groupsM _ (a : Int).toNat = _; rw [Int.toNat_natCast]⟩⟩]
      decide
theorem next_e : pulE v (q : Int) k p = 0 := by
  have hw := h.wl
  unfold pulE
  have e1 : decide (okWell v.wl (q : Int)) = true := by
    refine decide_eq_true ?_
    show 0 ≤ (q : Int) ∧ (q : Int) ≤ w (v.wl - 1)
    rw [wj (n := v.wl - 1) (by omega)]
    omega
  rw [e1, hk, beq_self_eq_true, hf, beq_eq_false_iff_ne.2 hlv]
  rw [show IntKind.i64.wrap (IntKind.i64.wrap ((v.n : Int) + v.wl) - 1) = (v.n : Int) + v.wl - 1 by rw [show IntKind.i64.wrap ((v.n : Int) + v.wl) = (v.n : Int) + v.wl from wj (by omega)]; exact wj (by omega)]
  rw [decide_eq_false (show ¬ (60 < (v.n : Int) + v.wl - 1) by omega)]
  rfl
end
end Go.Proofs.Ytnjhbmcambofgaa
