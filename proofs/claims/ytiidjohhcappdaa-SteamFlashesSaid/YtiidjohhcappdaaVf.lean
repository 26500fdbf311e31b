/- Part 4: append; a nil slice given a name; calls. -/
import Derived.Test.YtiidjohhcappdaaVe
namespace Go.V
open Go.RowKit (Below)

/-- What an append leaves: the newest block, its capacity, what its first cells hold; all other blocks as they were. -/
structure Grew (w w' : World) (e sz : Nat) (old : Option Nat) (ocp L0 L : Nat) (xs : List Value) (bo : Option Nat) (cp : Nat) : Prop where
  nil : bo = none → L = 0 ∧ cp = 0
  blk : ∀ b, bo = some b → (old = some b ∨ w.heap.size ≤ b) ∧ ∃ arr, w'.heap[b]? = some (.cells arr e (0, 0)) ∧ arr.size = cp * sz ∧ L ≤ cp ∧ cp ≤ maxLen ∧ ∀ j, j < L * sz → arr.getD j undef = xs.getD j undef
  oth : ∀ k, k < w.heap.size → (old ≠ some k ∨ bo ≠ some k) → w'.heap[k]? = w.heap[k]?
  same : L = L0 → bo = old ∧ cp = ocp
  os : w'.os = w.os
  tape : w'.tape = w.tape
  output : w'.output = w.output
  size : w.heap.size ≤ w'.heap.size

theorem toArray_getD (l : List Value) (j : Nat) : (l.toArray).getD j undef = l.getD j undef := by
  by_cases h : j < l.length
  · simp [Array.getD, List.getD, h]
  · simp [Array.getD, List.getD, h]
theorem getD_app_l (l r : List Value) {j : Nat} (h : j < l.length) : (l ++ r).getD j undef = l.getD j undef := by
  simp [List.getD, List.getElem?_append_left h]
theorem getD_app_r (l r : List Value) {j : Nat} (h : l.length ≤ j) : (l ++ r).getD j undef = r.getD (j - l.length) undef := by
  simp [List.getD, List.getElem?_append_right h]

theorem blt_t {i L : Nat} (h : i < L) : Nat.blt i L = true := Nat.ble_eq_true_of_le h
theorem blt_f {i L : Nat} (h : ¬ i < L) : Nat.blt i L = false := by
  cases hb : Nat.blt i L with
  | false => rfl
  | true => exact (h (Nat.le_of_ble_eq_true hb)).elim

section
variable {P : Program} {w : World}

theorem append_run {t ty e n cx L0 cp0 : Nat} {te : TI} {bo0 : Option Nat} {ax : Option Addr} (hd : P.underlying t = some (.slice e)) (ht : TIok P e te)
    (h0 : bo0 = none → L0 = 0 ∧ cp0 = 0) (arr0 : Array Value) (hb0 : ∀ b, bo0 = some b → w.heap[b]? = some (.cells arr0 e (0, 0)) ∧ arr0.size = cp0 * te.size ∧ L0 ≤ cp0 ∧ cp0 ≤ maxLen)
    (news : List Value) (hl : news.length = n * te.size) (hnil : ax = none → n = 0 ∧ cx = 0) (hnews : ∀ ad, ax = some ad → ∀ j u, news[j]? = some u → w.cell? (ad.add j) = some u) (h1 : ∀ u ∈ news, u.oneCell' = true)
    (hlt : L0 + n < 2147483648) (hby : (L0 + n) * te.bytes ≤ 140737488355328) :
    ∃ w' bo cp, (Builtin.append_ #[t, t] ty #[.slice (bo0.map fun b => ⟨b, 0, none⟩) L0 cp0, .slice ax n cx]).run P w = .ok (.slice (bo.map fun b => ⟨b, 0, none⟩) (L0 + n) cp) w' ∧
      Grew w w' e te.size bo0 cp0 L0 (L0 + n) (arr0.toList.take (L0 * te.size) ++ news) bo cp := by
  obtain ⟨i, z, hi0, hi1, hi2, hi3, hi4⟩ := ht.run_info w
  have hi : P.info? e = some i := by
    simp only [typeInfo] at hi0
    cases hx : P.info? e with
    | none => simp [hx] at hi0
    | some i' => simp [hx] at hi0; rw [hi0]
  have hzs : z.cells.size = te.size := by
    have := congrArg List.length hi4
    simpa [ht.len] using this
  have stay : ∀ (bo : Option Nat) (_ : bo = bo0), n = 0 → Grew w w e te.size bo0 cp0 L0 (L0 + n) (arr0.toList.take (L0 * te.size) ++ news) bo cp0 := by
    rintro _ rfl rfl
    have hn : news = [] := List.eq_nil_of_length_eq_zero (by simpa using hl)
    subst hn
    refine ⟨h0, fun b hb => ?_, fun _ _ _ => rfl, fun _ => ⟨rfl, rfl⟩, rfl, rfl, rfl, Nat.le_refl _⟩
    obtain ⟨g1, g2, g3, g4⟩ := hb0 b hb
    refine ⟨.inl hb, arr0, g1, g2, g3, g4, fun j hj => ?_⟩
    have : L0 * te.size ≤ cp0 * te.size := Nat.mul_le_mul_right _ g3
    have hj' : j < L0 * te.size := hj
    simp [List.getD, Array.getD, hj', show j < arr0.size by omega]
  cases ax with
  | none =>
    obtain ⟨rfl, rfl⟩ := hnil rfl
    refine ⟨w, bo0, cp0, ?_, stay bo0 rfl rfl⟩
    cases bo0 with
    | none =>
      obtain ⟨rfl, rfl⟩ := h0 rfl
      simp [Builtin.append_, run_underlying hd, sizeOf, typeInfo, hi, Builtin.lenOf, Builtin.firstCells]
    | some b =>
      obtain ⟨g1, g2, g3, g4⟩ := hb0 b rfl
      simp [Builtin.append_, run_underlying hd, sizeOf, typeInfo, hi, Builtin.lenOf, Builtin.firstCells, g3, storeCells]
  | some ad =>
    have hnews' := hnews ad rfl
    have hl' : news.length = n * i.size := by rw [hi1]; exact hl
    have fresh : ∀ (olds : List Value) (old : Nat), olds.length = L0 * te.size → old < L0 + n → (∀ j, j < L0 * te.size → olds.getD j undef = (arr0.toList.take (L0 * te.size)).getD j undef) → 0 < n →
        Grew w (w.drew.alloc (.cells (olds.toArray ++ news.toArray ++ Builtin.zeroCells z.cells (grownCap w (L0 + n) old e - (L0 + n))) e)) e te.size bo0 cp0 L0 (L0 + n) (arr0.toList.take (L0 * te.size) ++ news) (some w.heap.size) (grownCap w (L0 + n) old e) := by
      intro olds old ho hlt' heq hn
      have hge := grownCap_ge w (L0 + n) old e
      have hcm : grownCap w (L0 + n) old e ≤ maxLen := grownCap_le_maxLen w (L0 + n) old e (by unfold maxLen; omega)
      refine ⟨(fun h => nomatch h), fun b hb => ?_, fun k hk _ => heap_alloc_lt w.drew _ hk, fun h => by omega, rfl, rfl, rfl, by simp⟩
      simp only [Option.some.injEq] at hb
      subst hb
      refine ⟨.inr (Nat.le_refl _), _, heap_alloc_new' w.drew _, ?_, hge, hcm, fun j hj => ?_⟩
      · simp only [Array.size_append, List.size_toArray, size_zeroCells, hzs, ho, hl, ← Nat.add_mul]
        congr 1
        omega
      · rw [Nat.add_mul] at hj
        have e0 : olds.toArray ++ news.toArray ++ Builtin.zeroCells z.cells (grownCap w (L0 + n) old e - (L0 + n)) = (olds ++ news ++ (Builtin.zeroCells z.cells (grownCap w (L0 + n) old e - (L0 + n))).toList).toArray := by simp
        rw [e0, toArray_getD, getD_app_l _ _ (by simp; omega)]
        by_cases hj1 : j < olds.length
        · rw [getD_app_l _ _ hj1, heq j (by omega)]
          by_cases hj2 : j < (arr0.toList.take (L0 * te.size)).length
          · rw [getD_app_l _ _ hj2]
          · exfalso
            cases hbo : bo0 with
            | none => have := (h0 hbo).1; rw [this, Nat.zero_mul] at ho; omega
            | some b =>
              obtain ⟨_, g2, g3, _⟩ := hb0 b hbo
              have : L0 * te.size ≤ cp0 * te.size := Nat.mul_le_mul_right _ g3
              simp at hj2
              omega
        · have hll : (arr0.toList.take (L0 * te.size)).length = L0 * te.size := by
            cases hbo : bo0 with
            | none => have := (h0 hbo).1; subst this; simp
            | some b =>
              obtain ⟨_, g2, g3, _⟩ := hb0 b hbo
              have : L0 * te.size ≤ cp0 * te.size := Nat.mul_le_mul_right _ g3
              simp
              omega
          rw [getD_app_r _ _ (by omega), getD_app_r _ _ (by omega), ho, hll]
    cases bo0 with
    | none =>
      obtain ⟨rfl, rfl⟩ := h0 rfl
      by_cases hn : n = 0
      · refine ⟨w, none, 0, ?_, stay none rfl hn⟩
        subst hn
        have : news = [] := List.eq_nil_of_length_eq_zero (by simpa using hl)
        simp [Builtin.append_, run_underlying hd, sizeOf, typeInfo, hi, Builtin.lenOf, Builtin.firstCells, loadCells, loadCellsFrom]
      · simp only [Nat.zero_add] at hby hlt
        have hr := run_append_nil (P := P) w t ty e i z hd hi hi3 ad n cx news hl' hnews' (by omega) (by omega) (by rw [hi2]; omega)
        have := fresh [] 0 (by simp) (by omega) (by simp) (by omega)
        simp only [Nat.zero_add, Array.empty_append] at this ⊢
        exact ⟨_, some w.heap.size, _, hr, this⟩
    | some b =>
      obtain ⟨g1, g2, g3, g4⟩ := hb0 b rfl
      have hbl : L0 * te.size ≤ cp0 * te.size := Nat.mul_le_mul_right _ g3
      by_cases hroom : L0 + n ≤ cp0
      · have hfit : L0 * i.size + news.length ≤ arr0.size := by rw [hl', g2, hi1, ← Nat.add_mul]; exact Nat.mul_le_mul_right _ hroom
        have hr := run_append_room (P := P) w t ty e i hd hi b L0 cp0 arr0 g1 ad n cx news hl' hnews' h1 hroom hfit
        refine ⟨_, some b, cp0, hr, ⟨(fun h => nomatch h), fun b' hb' => ?_, fun k hk ho => ?_, fun _ => ⟨rfl, rfl⟩, rfl, rfl, rfl, by simp [World.setRow]⟩⟩
        · simp only [Option.some.injEq] at hb'
          subst hb'
          refine ⟨.inl rfl, _, setRow_heap w b arr0 _ e _ g1, ?_, hroom, g4, fun j hj => ?_⟩
          · simp only [List.size_toArray, List.length_append, List.length_take, List.length_drop, Array.length_toList]
            rw [hi1] at hfit ⊢
            omega
          · rw [toArray_getD, hi1, getD_app_l]
            rw [hi1] at hfit
            rw [Nat.add_mul] at hj
            simp
            omega
        · have hkb : k ≠ b := by
            rintro rfl
            rcases ho with ho | ho <;> exact ho rfl
          exact setRow_other w b k _ hkb
      · have holds : ∀ j u, (arr0.toList.take (L0 * te.size))[j]? = some u → w.cell? ((⟨b, 0, none⟩ : Addr).add j) = some u := by
          intro j u hu
          rw [List.getElem?_take] at hu
          split at hu
          · rw [add_none]
            simpa [World.cell?, g1] using hu
          · cases hu
        have hol : (arr0.toList.take (L0 * te.size)).length = L0 * te.size := by simp; omega
        have hr := run_append_grow (P := P) w t ty e i z hd hi hi3 ⟨b, 0, none⟩ L0 cp0 (arr0.toList.take (L0 * te.size)) (by rw [hi1]; exact hol) holds ad n cx news hl' hnews' (by omega) (by omega) (growslice_fits (by omega) (by rw [hi2]; exact hby))
        exact ⟨_, some w.heap.size, _, hr, fresh _ cp0 hol (by omega) (fun _ _ => rfl) (by omega)⟩


variable {C : Ctx} {E : Env} {base : Nat} {w0 : Orig} {w' : World} {st : St} {a : Act}

/-- A slice that grows: the plain state behind it. -/
theorem SR.grew (hS : SR E base w0 st a w) {s el sz L0 L cp0 cp : Nat} {bo0 bo : Option Nat} {xs : List Value} (hg : Grew w w' el sz bo0 cp0 L0 L xs bo cp) (hsz : 0 < sz) (hL : L0 ≤ L) (hρ : E.ρ s = none)
    (hold : (E.hd s = none ∧ bo0 = none ∧ L0 = 0) ∨ ∃ g, E.hd s = some g ∧ g.L = L0 ∧ g.bo = bo0 ∧ g.cp = cp0 ∧ (bo0 ≠ none → g.sz = sz))
    (hxs : ∀ b, bo0 = some b → ∀ o, o < L0 * sz → w.cell? ⟨b, o, none⟩ = some (xs.getD o undef)) (hnj : ∀ j, st.blocks s ≠ .jmp j) :
    ∃ E', E.le E' ∧ E'.hd s = some ⟨L, bo, cp, sz, el⟩ ∧ (∀ b, bo = some b → ∀ o, o < L * sz → E'.σ b o ∧ w'.cell? ⟨b, o, none⟩ = some (xs.getD o undef)) ∧
      (∀ b o, E.σ b o → w'.cell? ⟨b, o, none⟩ = w.cell? ⟨b, o, none⟩) ∧ SR E' base w0 (st.setB (some (s, .grow L el sz))) a w' := by
  have hat0 : ∀ b, bo0 = some b → E.at s = some b := by
    intro b hb
    rcases hold with ⟨_, h2, _⟩ | ⟨g, h1, _, h3, _⟩
    · rw [h2] at hb; cases hb
    · simp [Env.at, hρ, h1, h3, hb]
  have hcell' : ∀ b, bo = some b → ∀ o, o < L * sz → w'.cell? ⟨b, o, none⟩ = some (xs.getD o undef) := by
    intro b hb o ho
    obtain ⟨_, arr, g1, g2, g3, _, g5⟩ := hg.blk b hb
    have : L * sz ≤ cp * sz := Nat.mul_le_mul_right _ g3
    rw [← g5 o ho]
    simp [World.cell?, g1, Array.getD, show o < arr.size by omega]
  have hσ : ∀ b o, E.σ b o → w'.cell? ⟨b, o, none⟩ = w.cell? ⟨b, o, none⟩ := by
    intro b o h
    obtain ⟨h1, h2, h3⟩ := hS.σok b o h
    by_cases hk : bo0 = some b ∧ bo = some b
    · obtain ⟨k1, k2⟩ := hk
      have hoL : o < L0 * sz := by
        rcases hold with ⟨_, h5, _⟩ | ⟨g, h4, h5, h6, h7, h8⟩
        · rw [h5] at k1; cases k1
        · have := h3 s g h4 (h6.trans k1)
          rw [h5, h8 (by rw [k1]; simp)] at this
          exact this
      have hL2 : L0 * sz ≤ L * sz := Nat.mul_le_mul_right _ hL
      rw [hcell' b k2 o (by omega), hxs b k1 o hoL]
    · refine cell_of_heap (hg.oth b h1 ?_)
      by_cases k1 : bo0 = some b
      · exact .inr fun k2 => hk ⟨k1, k2⟩
      · exact .inl k1
  have hE : E.le ⟨E.ρ, fun s' => if s' = s then some ⟨L, bo, cp, sz, el⟩ else E.hd s', fun b o => E.σ b o ∨ (bo = some b ∧ o < L * sz)⟩ := by
    refine ⟨fun _ _ h => h, fun _ _ h => .inl h, fun s' g h => ?_⟩
    by_cases hs : s' = s
    · subst hs
      refine ⟨_, if_pos rfl, ?_⟩
      rcases hold with ⟨h1, _⟩ | ⟨g', h1, h2, h3, h4, _⟩
      · rw [h1] at h; cases h
      · rw [h1] at h
        cases h
        refine ⟨by simp only; omega, fun hl => ?_⟩
        obtain ⟨e1, e2⟩ := hg.same (by simp only at hl; omega)
        exact ⟨by rw [h3]; exact e1, by rw [h4]; exact e2⟩
    · exact ⟨g, by simp [hs, h], Nat.le_refl _, fun _ => ⟨rfl, rfl⟩⟩
  have hne : ∀ s' b, s' ≠ s → E.at s' = some b → bo ≠ some b ∧ w'.heap[b]? = w.heap[b]? := by
    intro s' b hs hat
    have hlt := (hS.at_lt hat).1
    have h0 : bo0 ≠ some b := fun h => hs (hS.inj s' s b hat (hat0 b h))
    refine ⟨fun h => ?_, hg.oth b hlt (.inl h0)⟩
    rcases (hg.blk b h).1 with h1 | h1
    · exact h0 h1
    · omega
  have hbase : ∀ b, bo = some b → base ≤ b := by
    intro b hb
    rcases (hg.blk b hb).1 with h1 | h1
    · exact (hS.at_lt (hat0 b h1)).2
    · have := hS.bas; omega
  have hatE : ∀ s' b, Env.at ⟨E.ρ, fun s' => if s' = s then some ⟨L, bo, cp, sz, el⟩ else E.hd s', fun b o => E.σ b o ∨ (bo = some b ∧ o < L * sz)⟩ s' = some b → (s' = s ∧ bo = some b) ∨ (s' ≠ s ∧ E.at s' = some b) := by
    intro s' b h
    by_cases hs : s' = s
    · left
      subst hs
      refine ⟨rfl, ?_⟩
      simpa [Env.at, hρ] using h
    · right
      exact ⟨hs, by simpa [Env.at, hs] using h⟩
  refine ⟨_, hE, if_pos rfl, fun b hb o ho => ⟨.inr ⟨hb, ho⟩, hcell' b hb o ho⟩, hσ, ?_⟩
  constructor
  · refine hS.dfr.step (fun b o hb hn => (hg.oth b (Array.getElem?_eq_some_iff.1 hb).1 (.inl fun h0 => ?_)).trans hb) (upd_jmp hnj)
    obtain ⟨c, e, f, hc⟩ := (hS.at_cells (hat0 b h0)).1
    rw [hc] at hb
    exact hn c e f (Option.some.inj hb).symm
  · exact fun n => (hS.slots n).mono hE hσ
  · intro s'
    show BR _ _ base s' (upd st.blocks s (.grow L el sz) s')
    by_cases hs : s' = s
    · subst hs
      rw [upd_same]
      refine ⟨hρ, _, if_pos rfl, rfl, rfl, hg.nil, fun b hb => ?_⟩
      obtain ⟨_, arr, g1, g2, g3, g4, _⟩ := hg.blk b hb
      exact ⟨hbase b hb, hsz, arr, g1, g2, g3, g4⟩
    · rw [upd_ne _ _ hs]
      exact (hS.blk s').keep hE hσ rfl (by simp [hs]) fun b hb => (hne s' b hs hb).2
  · intro s1 s2 b h1 h2
    rcases hatE s1 b h1 with ⟨k1, k2⟩ | ⟨k1, k2⟩ <;> rcases hatE s2 b h2 with ⟨k3, k4⟩ | ⟨k3, k4⟩
    · exact k1.trans k3.symm
    · exact ((hne s2 b k3 k4).1 k2).elim
    · exact ((hne s1 b k1 k2).1 k4).elim
    · exact hS.inj s1 s2 b k2 k4
  · intro b o h
    rcases h with h | ⟨h, ho⟩
    · obtain ⟨h1, h2, h3⟩ := hS.σok b o h
      have := hg.size
      refine ⟨by omega, h2, fun s' g hg' hb => ?_⟩
      by_cases hs : s' = s
      · subst hs
        simp only [if_pos] at hg'
        cases hg'
        simp only at hb ⊢
        rcases (hg.blk b hb).1 with k | k
        · rcases hold with ⟨_, h5, _⟩ | ⟨g, h4, h5, h6, h7, h8⟩
          · rw [h5] at k; cases k
          · have := h3 s' g h4 (h6.trans k)
            rw [h5, h8 (by rw [k]; simp)] at this
            have hL2 : L0 * sz ≤ L * sz := Nat.mul_le_mul_right _ hL
            omega
        · omega
      · simp only [if_neg hs] at hg'
        exact h3 s' g hg' hb
    · obtain ⟨_, arr, g1, _⟩ := hg.blk b h
      refine ⟨(Array.getElem?_eq_some_iff.1 g1).1, fun s' sz' hx => ?_, fun s' g hg' hb => ?_⟩
      · have hx' : E.ρ s' = some (b, sz') := hx
        have hs : s' ≠ s := by rintro rfl; rw [hρ] at hx'; cases hx'
        exact (hne s' b hs (by simp [Env.at, hx'])).1 h
      · by_cases hs : s' = s
        · subst hs
          simp only [if_pos] at hg'
          cases hg'
          exact ho
        · simp only [if_neg hs] at hg'
          have hbl := hS.blk s'
          cases hB : st.blocks s' with
          | grow L' el' sz' =>
            rw [hB] at hbl
            exact ((hne s' b hs (by simp [Env.at, hbl.1, hg', hb])).1 h).elim
          | none => rw [hB] at hbl; rw [hbl.2] at hg'; cases hg'
          | jmp j => rw [hB] at hbl; rw [hbl.2] at hg'; cases hg'
          | cells l => rw [hB] at hbl; rw [hbl.1] at hg'; cases hg'
          | arr l s' g' => rw [hB] at hbl; rw [hbl.1] at hg'; cases hg'
  · refine hS.bel.trans ⟨hg.os, hg.tape, hg.output, hg.size, fun k hk => hg.oth k (by have := hS.bas; omega) (.inl fun h => ?_)⟩
    have := (hS.at_lt (hat0 k h)).2
    omega
  · have := hS.bas; have := hg.size; omega
  · exact fun b o h => .inl (hS.σin b o h)
  · rintro b o (h | ⟨h, _⟩)
    · exact hS.σout b o h
    · exact .inr (hbase b h)
  · exact fun q p v h => (hS.fr q p v h).mono (Env.only_le hE q) hσ


theorem Rel.tslice_inv {s len : Nat} {get : Nat → List PV} {v : Value} (h : Rel E w (.slice (some s) len get) v) :
    ∃ a cap g, v = .slice a len cap ∧ RelP E.σ w (.slice none len get) v ∧ E.hd s = some g ∧ len ≤ g.L ∧ (len = g.L → a = g.bo.map (fun b => ⟨b, 0, none⟩) ∧ cap = g.cp) := by
  cases h with
  | pure h => cases h
  | tslice _ _ _ a cap h g hh hL hx => exact ⟨a, cap, g, rfl, h, hh, hL, hx⟩

variable (hC : CtxOk P C) (hS : SR E base w0 st a w) {d ty : Nat} {o : Oper}
include hS

theorem o_assignNil {x : Operand} (ho : o.op = .assign x) (hx : nilConst x = true) : OpOk P base w0 st a w o (evalOp C (V.ev st.slots) st.blocks d ty o.op) := by
  have hv : a.eval x = .slice none 0 0 := by
    unfold nilConst at hx
    split at hx
    · rfl
    · cases hx
  have hrun : (execOp a.eval o).run P w = .ok (.value (.slice none 0 0)) w := by simp [execOp, ho, hv]
  simp only [ho, evalOp, hx, cond_true]
  split
  · rename_i el _ _ _ _ h1 h2
    have hn := hS.blk d
    rw [h2] at hn
    split
    · rename_i te _
      cases hte : Nat.ble 1 te.size with
      | false =>
        simp only [cond_false]
        intro next Q hnx
        simp only [Oper.wp, hrun, Oper.upon]
        exact hnx E w _ hS (.pure .nils)
      | true =>
      simp only [cond_true]
      have hpos := Nat.le_of_ble_eq_true hte
      have hg : Grew w w el te.size none 0 0 0 [] none 0 := ⟨fun _ => ⟨rfl, rfl⟩, (fun b h => nomatch h), fun _ _ _ => rfl, fun _ => ⟨rfl, rfl⟩, rfl, rfl, rfl, Nat.le_refl _⟩
      obtain ⟨E', k1, k2, _, k4, k5⟩ := SR.grew hS hg (by omega) (Nat.le_refl _) hn.1 (.inl ⟨hn.2, rfl, rfl⟩) (fun b h => nomatch h) (fun j h => by rw [h2] at h; cases h)
      intro next Q hnx
      simp only [Oper.wp, hrun, Oper.upon]
      refine hnx E' w _ k5 (.tslice d 0 _ none 0 ?_ _ k2 (Nat.le_refl _) fun _ => ⟨rfl, rfl⟩)
      exact .slice 0 _ none 0 0 0 0 (fun _ _ => undef) (Nat.le_refl _) (by omega) (fun _ => rfl) (by intro i hi; omega) (by intro i hi; omega) (by intro i hi; omega)
    · intro next Q hnx
      simp only [Oper.wp, hrun, Oper.upon]
      exact hnx E w _ hS (.pure .nils)
  · intro next Q hnx
    simp only [Oper.wp, hrun, Oper.upon]
    exact hnx E w _ hS (.pure .nils)

omit hS in
/-- The cells of a view, one behind the other. -/
theorem view_news {n sz : Nat} {get : Nat → List PV} {ax : Option Addr} {cx : Nat} (hpos : 0 < sz) (h : RelP E.σ w (.slice none n get) (.slice ax n cx)) (hg : ∀ i, i < n → (get i).length = sz ∧ (get i).all sc1 = true) :
    ∃ c : Nat → Nat → Value, (∀ i, i < n → ∀ j, j < sz → RelP E.σ w ((get i).getD j .junk) (c i j)) ∧ (ax = none → n = 0 ∧ cx = 0) ∧
      (∀ ad, ax = some ad → ∀ j u, ((List.range (n * sz)).map fun q => c (q / sz) (q % sz))[j]? = some u → w.cell? (ad.add j) = some u) ∧ ∀ u ∈ (List.range (n * sz)).map (fun q => c (q / sz) (q % sz)), u.oneCell' = true := by
  cases h with
  | slice _ _ _ _ b o' sz' c hc ha hn hl q1 q2 =>
    refine ⟨c, fun i hi j hj => q2 i hi j (by rw [← hl i hi, (hg i hi).1]; exact hj), fun hnone => ?_, fun ad had j u hu => ?_, fun u hu => ?_⟩
    · refine ⟨?_, hn hnone⟩
      rcases Nat.eq_zero_or_pos n with h0 | h0
      · exact h0
      · have := ha h0; rw [hnone] at this; cases this
    · simp only [List.getElem?_map, Option.map_eq_some_iff] at hu
      obtain ⟨q, hq, rfl⟩ := hu
      obtain ⟨hlt, rfl⟩ := List.getElem?_eq_some_iff.1 hq
      simp at hlt
      simp only [List.getElem_range]
      have hi : j / sz < n := by rw [Nat.div_lt_iff_lt_mul hpos]; exact hlt
      have hs : sz' = sz := by rw [← hl _ hi, (hg _ hi).1]
      subst hs
      have h0 : 0 < n := Nat.lt_of_le_of_lt (Nat.zero_le _) hi
      have := ha h0
      rw [had] at this
      cases this
      have := (q1 _ hi (j % sz') (Nat.mod_lt _ hpos)).2
      have e : o' + j / sz' * sz' + j % sz' = o' + j := by rw [Nat.add_assoc, Nat.mul_comm, Nat.div_add_mod]
      rw [e] at this
      rw [add_none]; exact this
    · simp only [List.mem_map, List.mem_range] at hu
      obtain ⟨q, hq, rfl⟩ := hu
      have hi : q / sz < n := by rw [Nat.div_lt_iff_lt_mul hpos]; exact hq
      have hs : sz' = sz := by rw [← hl _ hi, (hg _ hi).1]
      subst hs
      have hm := Nat.mod_lt q hpos
      exact sc1_one (E := E) (.pure (q2 _ hi _ hm)) (all_getD (hg _ hi).2 _ (by rw [(hg _ hi).1]; exact hm))

include hC
theorem o_append {args : Array Operand} {ts : Array TypeId} (ho : o.op = .call { callee := .builtin .append, args := args, argTypes := ts }) (hp : (evalOp C (V.ev st.slots) st.blocks d ty o.op).pre.getD True) :
    OpOk P base w0 st a w o (evalOp C (V.ev st.slots) st.blocks d ty o.op) := by
  simp only [ho, evalOp] at hp ⊢
  split at hp
  · rename_i b tg n get' t t' hargs hts
    obtain ⟨p, q, hpq, hpe, hqe, hp1, hq1⟩ := two_args hS hargs
    cases htt : Nat.beq t t' with
    | false => rw [htt] at hp; exact hp.elim
    | true =>
    obtain rfl := Nat.eq_of_beq_eq_true htt
    rw [htt] at hp
    simp only [cond_true] at hp ⊢
    obtain ⟨ax, cx, ex, hxr⟩ := hq1.slice_inv
    rw [ex] at hxr
    have hcall : ∀ {bv v' w'}, a.eval p = bv → (Builtin.append_ #[t, t] o.type #[bv, .slice ax n cx]).run P w = .ok v' w' → (execOp a.eval o).run P w = .ok (.value v') w' := by
      intro bv v' w' e h
      have e1 : args.map a.eval = #[bv, .slice ax n cx] := by
        apply Array.ext'
        simp [hpq, e, ex]
      have e2 : ts = #[t, t] := by apply Array.ext'; simp [hts]
      simp [execOp, ho, resolve, invoke, builtin, e1, e2, h]
    split at hp
    · rename_i el _ _ _ _ h1
      have hd := und_slice (hC.types _ _ h1).desc
      cases hl : look C.types el with
      | none => rw [hl] at hp; exact hp.elim
      | some te =>
      have ht := hC.types _ _ hl
      simp only [hl] at hp ⊢
      cases hsz : Nat.ble 1 te.size with
      | false => rw [hsz] at hp; exact hp.elim
      | true =>
      have hpos := Nat.le_of_ble_eq_true hsz
      rw [hsz] at hp
      simp only [cond_true] at hp ⊢
      cases b with
      | nils =>
        simp only at hp ⊢
        cases hbd : st.blocks d with
        | none =>
          simp only [hbd, Option.getD_some] at hp ⊢
          obtain ⟨p1, p2, p3⟩ := hp
          have hn := hS.blk d
          rw [hbd] at hn
          obtain ⟨c, c1, c2, c3, c4⟩ := view_news hpos hxr p3
          obtain ⟨w', bo, cp, r1, r2⟩ := append_run (P := P) (w := w) (ty := o.type) (bo0 := none) (L0 := 0) (cp0 := 0) (cx := cx) hd ht (fun _ => ⟨rfl, rfl⟩) #[] (fun b h => nomatch h) _ (by simp) c2 c3 c4 (by omega) (by simpa using p2)
          simp only [Nat.zero_add, Nat.zero_mul, List.take_zero, List.nil_append, Option.map_none] at r1 r2
          obtain ⟨E', k1, k2, k3, k4, k5⟩ := SR.grew hS r2 hpos (Nat.zero_le _) hn.1 (.inl ⟨hn.2, rfl, rfl⟩) (fun b h => nomatch h) (fun j h => by rw [hbd] at h; cases h)
          intro next Q hnx
          simp only [Oper.wp, hcall hp1.nils_inv r1, Oper.upon]
          refine hnx E' w' _ k5 (.tslice d n get' _ cp ?_ _ k2 (Nat.le_refl _) fun _ => ⟨rfl, rfl⟩)
          cases hbo : bo with
          | none =>
            obtain ⟨z1, z2⟩ := r2.nil hbo
            subst z1; subst z2
            exact .slice 0 _ none 0 0 0 0 (fun _ _ => undef) (Nat.le_refl _) (by omega) (fun _ => rfl) (by intro i hi; omega) (by intro i hi; omega) (by intro i hi; omega)
          | some b =>
            obtain ⟨_, arr, _, _, hle, _, _⟩ := r2.blk b hbo
            refine .slice n get' _ cp b 0 te.size c hle (fun _ => rfl) (fun h => nomatch h) (fun i hi => (p3 i hi).1) (fun i hi j hj => ?_) (fun i hi j hj => (c1 i hi j hj).mono k1.σ k4)
            have hlt : i * te.size + j < n * te.size := by
              have : i * te.size + te.size ≤ n * te.size := by rw [← Nat.succ_mul]; exact Nat.mul_le_mul_right _ hi
              omega
            have := k3 b hbo (i * te.size + j) hlt
            have e : ((List.range (n * te.size)).map fun q => c (q / te.size) (q % te.size)).getD (i * te.size + j) undef = c i j := by
              have e1 : (i * te.size + j) / te.size = i := by rw [Nat.mul_comm, Nat.mul_add_div hpos, Nat.div_eq_of_lt hj]; simp
              have e2 : (i * te.size + j) % te.size = j := by rw [Nat.mul_comm, Nat.mul_add_mod, Nat.mod_eq_of_lt hj]
              simp [List.getD, hlt, e1, e2]
            rw [e] at this
            simpa using this
        | _ => rw [hbd] at hp; exact hp.elim
      | slice tag len get =>
        cases tag with
        | none => exact hp.elim
        | some s =>
        simp only at hp ⊢
        cases hbd : st.blocks s with
        | grow L el' sz' =>
          simp only [hbd] at hp ⊢
          cases hel : (Nat.beq el el' && Nat.beq sz' te.size) with
          | false => rw [hel] at hp; exact hp.elim
          | true =>
          rw [hel] at hp
          simp only [cond_true, Option.getD_some] at hp ⊢
          simp only [Bool.and_eq_true] at hel
          obtain rfl := Nat.eq_of_beq_eq_true hel.1
          obtain rfl := Nat.eq_of_beq_eq_true hel.2
          obtain ⟨rfl, p1, p2, p4, p3⟩ := hp
          have hb := hS.blk s
          rw [hbd] at hb
          obtain ⟨b1, g, b2, b3, b4, b5, b6⟩ := hb
          obtain ⟨av, cv, g', ev', hvr, gh, gL, gx⟩ := hp1.tslice_inv
          rw [b2] at gh
          cases gh
          obtain ⟨rfl, rfl⟩ := gx b3.symm
          rw [ev'] at hvr
          obtain ⟨c, c1, c2, c3, c4⟩ := view_news hpos hxr p3
          obtain ⟨arr0, ha0⟩ : ∃ arr0, ∀ b, g.bo = some b → w.heap[b]? = some (.cells arr0 el (0, 0)) ∧ arr0.size = g.cp * te.size ∧ L ≤ g.cp ∧ g.cp ≤ maxLen := by
            cases hgo : g.bo with
            | none => exact ⟨#[], fun b h => nomatch h⟩
            | some b =>
              obtain ⟨_, _, arr, z⟩ := b6 b hgo
              rw [b4] at z
              exact ⟨arr, fun b' hb' => by cases hb'; exact z⟩
          obtain ⟨w', bo, cp, r1, r2⟩ := append_run (P := P) (w := w) (ty := o.type) (bo0 := g.bo) (L0 := L) (cp0 := g.cp) (cx := cx) hd ht b5 arr0 ha0 _ (by simp) c2 c3 c4 p1 p2
          have hxs : ∀ b, g.bo = some b → ∀ o, o < L * te.size → w.cell? ⟨b, o, none⟩ = some ((arr0.toList.take (L * te.size) ++ (List.range (n * te.size)).map fun q => c (q / te.size) (q % te.size)).getD o undef) := by
            intro b hb o ho
            obtain ⟨z1, z2, z3, z4⟩ := ha0 b hb
            have : L * te.size ≤ g.cp * te.size := Nat.mul_le_mul_right _ z3
            rw [getD_app_l _ _ (by simp; omega)]
            simp [World.cell?, z1, List.getD, ho, show o < arr0.size by omega]
          obtain ⟨E', k1, k2, k3, k4, k5⟩ := SR.grew hS r2 hpos (by omega) b1 (.inr ⟨g, b2, b3, rfl, rfl, fun _ => b4⟩) hxs (fun j h => by rw [hbd] at h; cases h)
          intro next Q hnx
          simp only [Oper.wp, hcall ev' r1, Oper.upon]
          refine hnx E' w' _ k5 (.tslice s (L + n) _ _ cp ?_ _ k2 (Nat.le_refl _) fun _ => ⟨rfl, rfl⟩)
          cases hbo : bo with
          | none =>
            obtain ⟨z1, z2⟩ := r2.nil hbo
            rw [z1, z2]
            exact .slice 0 _ none 0 0 0 0 (fun _ _ => undef) (Nat.le_refl _) (by omega) (fun _ => rfl) (by intro i hi; omega) (by intro i hi; omega) (by intro i hi; omega)
          | some b =>
            obtain ⟨_, arr, _, _, hle, _, _⟩ := r2.blk b hbo
            cases hvr with
            | slice _ _ _ _ vb vo vsz vc hvc hva hvn hvl vq1 vq2 =>
            refine .slice (L + n) _ _ cp b 0 te.size (fun i j => if i < L then vc i j else c (i - L) j) hle (fun _ => rfl) (fun h => nomatch h) (fun i hi => ?_) (fun i hi j hj => ?_) (fun i hi j hj => ?_)
            · by_cases hiL : i < L
              · simp only [blt_t hiL, cond_true]; exact p4 i hiL
              · simp only [blt_f hiL, cond_false]; exact (p3 (i - L) (by omega)).1
            · have hlt : i * te.size + j < (L + n) * te.size := by
                have : i * te.size + te.size ≤ (L + n) * te.size := by rw [← Nat.succ_mul]; exact Nat.mul_le_mul_right _ hi
                omega
              have := k3 b hbo (i * te.size + j) hlt
              refine ⟨by simpa using this.1, ?_⟩
              rw [Nat.zero_add, this.2]
              congr 1
              by_cases hiL : i < L
              · rw [if_pos hiL]
                have hlt2 : i * te.size + j < L * te.size := by
                  have : i * te.size + te.size ≤ L * te.size := by rw [← Nat.succ_mul]; exact Nat.mul_le_mul_right _ hiL
                  omega
                have hvsz : vsz = te.size := by rw [← hvl i hiL, p4 i hiL]
                subst hvsz
                have h1 := (vq1 i hiL j hj).2
                have hva' := hva (by omega)
                cases hgo : g.bo with
                | none => rw [hgo] at hva'; cases hva'
                | some b0 =>
                  rw [hgo] at hva'
                  simp only [Option.map_some, Option.some.injEq, Addr.mk.injEq] at hva'
                  obtain ⟨rfl, rfl, _⟩ := hva'
                  have h2 := hxs b0 hgo _ hlt2
                  rw [Nat.zero_add] at h1
                  rw [h1] at h2
                  exact (Option.some.inj h2).symm
              · rw [if_neg hiL]
                have hll : (arr0.toList.take (L * te.size)).length = L * te.size := by
                  cases hgo : g.bo with
                  | none => rw [(b5 hgo).1]; simp
                  | some b0 =>
                    obtain ⟨z1, z2, z3, z4⟩ := ha0 b0 hgo
                    have : L * te.size ≤ g.cp * te.size := Nat.mul_le_mul_right _ z3
                    simp; omega
                have hge : L * te.size ≤ i * te.size := Nat.mul_le_mul_right _ (by omega)
                rw [getD_app_r _ _ (by omega), hll]
                have e0 : i * te.size + j - L * te.size = (i - L) * te.size + j := by rw [Nat.sub_mul]; omega
                rw [e0]
                have hlt3 : (i - L) * te.size + j < n * te.size := by
                  have : (i - L) * te.size + te.size ≤ n * te.size := by rw [← Nat.succ_mul]; exact Nat.mul_le_mul_right _ (by omega)
                  omega
                have e1 : ((i - L) * te.size + j) / te.size = i - L := by rw [Nat.mul_comm, Nat.mul_add_div hpos, Nat.div_eq_of_lt hj]; simp
                have e2 : ((i - L) * te.size + j) % te.size = j := by rw [Nat.mul_comm, Nat.mul_add_mod, Nat.mod_eq_of_lt hj]
                simp [List.getD, hlt3, e1, e2]
            · by_cases hiL : i < L
              · rw [if_pos hiL]
                simp only [blt_t hiL, cond_true]
                have hvsz : vsz = te.size := by rw [← hvl i hiL, p4 i hiL]
                exact (vq2 i hiL j (by omega)).mono k1.σ k4
              · rw [if_neg hiL]
                simp only [blt_f hiL, cond_false]
                exact (c1 (i - L) (by omega) j hj).mono k1.σ k4
        | _ => rw [hbd] at hp; exact hp.elim
      | _ => exact hp.elim
    · exact hp.elim
  · exact hp.elim


omit hC hS in
theorem RowR.append {l l' : List PV} {c c' : Array Value} (h : RowR E w l c) (h' : RowR E w l' c') : RowR E w (l ++ l') (c ++ c') := by
  refine ⟨by simp [h.1, h'.1], fun i hi => ?_⟩
  have h1 := h.1
  have h2 := h'.1
  by_cases hlt : i < l.length
  · have e1 : (l ++ l').getD i .junk = l.getD i .junk := by simp [List.getD, List.getElem?_append_left hlt]
    have e2 : (c ++ c').getD i undef = c.getD i undef := by
      have : i < c.size := by omega
      simp [Array.getD, this, show i < c.size + c'.size by omega]
    rw [e1, e2]; exact h.2 i hlt
  · simp at hi
    have e1 : (l ++ l').getD i .junk = l'.getD (i - l.length) .junk := by simp [List.getD, List.getElem?_append_right (show l.length ≤ i by omega)]
    have e2 : (c ++ c').getD i undef = c'.getD (i - l.length) undef := by
      rw [← h1]
      simp [Array.getD, show i < c.size + c'.size by omega, show i - c.size < c'.size by omega, Array.getElem_append_right (show c.size ≤ i by omega)]
    rw [e1, e2]; exact h'.2 _ (by omega)

theorem o_call {f : Operand} {args : Array Operand} {ts : Array TypeId} (ho : o.op = .call { callee := .value f, args := args, argTypes := ts }) (hp : (evalOp C (V.ev st.slots) st.blocks d ty o.op).pre.getD True) :
    OpOk P base w0 st a w o (evalOp C (V.ev st.slots) st.blocks d ty o.op) := by
  have hf := hS.ev f
  simp only [ho, evalOp] at hp ⊢
  split at hp
  · rename_i g xs ys h
    rw [h] at hf
    obtain ⟨va, vb, e, ha, hb, h1, h2⟩ := hf.fn_inv
    cases hl : look C.specs g with
    | none => simp only [hl] at hp; exact hp.elim
    | some s =>
      simp only [hl] at hp ⊢
      cases hpl : ((xs ++ (args.toList.map (V.ev st.slots) ++ ys)).map export1).all plain2 with
      | false => rw [hpl] at hp; exact hp.elim
      | true =>
        rw [hpl] at hp
        simp only [cond_true] at hp ⊢
        obtain ⟨hsnd, fn, fc, hfn, hnm, hbd⟩ := hC.specs g s hl
        have hnm' : fn.name ≠ "runtime.NumGoroutine" := by simpa using hnm
        have hrow : RowR E w (xs ++ (args.toList.map (V.ev st.slots) ++ ys)) (va ++ (args.map a.eval ++ vb)) := by
          refine RowR.append ⟨ha, h1⟩ (RowR.append ⟨by simp, fun i hi => ?_⟩ ⟨hb, h2⟩)
          simp at hi
          have := hS.ev args[i]
          simpa [List.getD, Array.getD, hi] using this
        have hvals : ∀ i, i < ((xs ++ (args.toList.map (V.ev st.slots) ++ ys)).map export1).length → RelP E.σ w (((xs ++ (args.toList.map (V.ev st.slots) ++ ys)).map export1).getD i .junk) ((va ++ (args.map a.eval ++ vb)).getD i undef) := by
          intro i hi
          have hi' : i < (xs ++ (args.toList.map (V.ev st.slots) ++ ys)).length := by simpa using hi
          refine plain2_relP (all_getD hpl i hi) ?_
          have e3 : ((xs ++ (args.toList.map (V.ev st.slots) ++ ys)).map export1).getD i .junk = export1 ((xs ++ (args.toList.map (V.ev st.slots) ++ ys)).getD i .junk) := by
            simp only [List.getD, List.getElem?_map, List.getElem?_eq_getElem hi']
            simp
          rw [e3]
          exact toView_rel (hrow.2 i hi')
        have hc := hsnd _ E.σ w (va ++ (args.map a.eval ++ vb)) (by rw [hrow.1]; simp) hvals (fun b o h => (hS.σok b o h).1) hp
        intro next Q hn
        have hrun : (execOp a.eval o).run P w = .ok (.enter g (va ++ (args.map a.eval ++ vb))) w := by
          simp [execOp, ho, resolve, e, Deferred.ofValue, invoke, callFunc, hfn, hnm', hbd, Array.append_assoc]
        simp only [Oper.wp, hrun, Oper.upon]
        refine hc.mono ?_
        rintro e' w' ⟨v, σ', rfl, hbel, hσ1, hσ2, hv⟩
        have hcell : ∀ b o, E.σ b o → w'.cell? ⟨b, o, none⟩ = w.cell? ⟨b, o, none⟩ := fun b o h => cell_of_heap (hbel.block b (hS.σok b o h).1)
        have hE : E.le ⟨E.ρ, E.hd, σ'⟩ := ⟨fun _ _ h => h, hσ1, fun s g h => ⟨g, h, Nat.le_refl _, fun _ => ⟨rfl, rfl⟩⟩⟩
        refine hn ⟨E.ρ, E.hd, σ'⟩ w' v ?_ (.pure hv)
        constructor
        · exact hS.dfr.heap fun b hb => hbel.block b hb
        · exact fun n => (hS.slots n).mono hE hcell
        · exact fun s => (hS.blk s).keep hE hcell rfl rfl fun b hb => hbel.block b (hS.at_lt hb).1
        · exact hS.inj
        · intro b o' h
          by_cases hσ : E.σ b o'
          · obtain ⟨z1, z2, z3⟩ := hS.σok b o' hσ
            exact ⟨(hσ2 b o' h).1, z2, z3⟩
          · have hge := (hσ2 b o' h).2 hσ
            refine ⟨(hσ2 b o' h).1, fun s sz hx => ?_, fun s g hg hb => ?_⟩
            · have hx' : E.ρ s = some (b, sz) := hx
              have := (hS.at_lt (s := s) (b := b) (by simp [Env.at, hx'])).1
              omega
            · have hg' : E.hd s = some g := hg
              have hbl := hS.blk s
              cases hB : st.blocks s with
              | grow L el sz0 =>
                rw [hB] at hbl
                have := (hS.at_lt (s := s) (b := b) (by simp [Env.at, hbl.1, hg', hb])).1
                omega
              | none => rw [hB] at hbl; rw [hbl.2] at hg'; cases hg'
              | jmp j => rw [hB] at hbl; rw [hbl.2] at hg'; cases hg'
              | cells l => rw [hB] at hbl; rw [hbl.1] at hg'; cases hg'
              | arr l s' g' => rw [hB] at hbl; rw [hbl.1] at hg'; cases hg'
        · exact hS.bel.trans (hbel.mono hS.bas)
        · have := hS.bas; have := hbel.size; omega
        · exact fun b o h => hσ1 b o (hS.σin b o h)
        · intro b o' h
          by_cases hσ : E.σ b o'
          · exact hS.σout b o' hσ
          · have := (hσ2 b o' h).2 hσ
            have := hS.bas
            exact .inr (by omega)
        · exact fun q p v h => (hS.fr q p v h).mono (Env.only_le hE q) hcell
  · exact hp.elim

/-- Each operation, whose plain run asks nothing that is not so, does to the machine what it does to the plain state. -/
theorem op_sound (hst : ∀ t x y, o.op = .store t x y → o.dst = none) (hp : (evalOp C (V.ev st.slots) st.blocks d ty o.op).pre.getD True) : OpOk P base w0 st a w o (evalOp C (V.ev st.slots) st.blocks d ty o.op) := by
  cases hop : o.op with
  | move x => rw [← hop]; exact (v_move hS hop).op hS
  | assign x =>
    rw [← hop]
    cases hx : nilConst x with
    | true => exact o_assignNil hS hop hx
    | false => exact (v_assign hS hop hx).op hS
  | pick c x y => rw [← hop]; exact (v_pick hS hop hp).op hS
  | nilCheck x => rw [← hop]; exact (v_nilCheck hS hop hp).op hS
  | unOp u t x => rw [← hop]; exact (v_unOp hS hop hp).op hS
  | makeFunc f x y => rw [← hop]; exact (v_makeFunc hS hop).op hS
  | extract x i => rw [← hop]; exact (v_extract hS hop hp).op hS
  | binOp op t x y u => rw [← hop]; exact (v_binOp hC hS hop hp).op hS
  | load t x => rw [← hop]; exact (v_load hC hS hop hp).op hS
  | convert u t x => rw [← hop]; exact (v_convert hC hS hop hp).op hS
  | fieldAddr t x i => rw [← hop]; exact (v_fieldAddr hC hS hop hp).op hS
  | field t x i => rw [← hop]; exact (v_field hC hS hop hp).op hS
  | index t x i => rw [← hop]; exact (v_index hC hS hop hp).op hS
  | indexAddr t x i => rw [← hop]; exact (v_indexAddr hC hS hop hp).op hS
  | slice t x lo hi mx => rw [← hop]; exact (v_slice hC hS hop hp).op hS
  | build t ps => rw [← hop]; exact (v_build hC hS hop hp).op hS
  | alloc t => rw [← hop]; exact o_alloc hC hS hop hp
  | box t x => rw [← hop]; exact o_box hS hop hp
  | buildSlice t n ps => rw [← hop]; exact o_buildSlice hC hS hop hp
  | makeSlice t x y => rw [← hop]; exact o_makeSlice hC hS hop hp
  | store t x y => rw [← hop]; exact o_store hC hS hop (hst t x y hop) hp
  | call c =>
    obtain ⟨cal, args, ts⟩ := c
    cases cal with
    | value f => rw [← hop]; exact o_call hC hS hop hp
    | builtin b =>
      cases b with
      | len => rw [← hop]; exact (v_len hS hop hC hp).op hS
      | max => rw [← hop]; exact (v_max hS hop hp).op hS
      | min => rw [← hop]; exact (v_min hS hop hp).op hS
      | append => rw [← hop]; exact o_append hC hS hop hp
      | _ => rw [hop] at hp; simp [evalOp, R.bad] at hp
    | invoke r m => rw [hop] at hp; simp [evalOp, R.bad] at hp
  | _ => rw [hop] at hp; simp [evalOp, R.bad] at hp

end
end Go.V
