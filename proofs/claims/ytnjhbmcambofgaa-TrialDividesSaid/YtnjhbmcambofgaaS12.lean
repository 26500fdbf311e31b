/- Layer 4: groups of wells, joined by what was seen for sure. -/
import Derived.Test.YtnjhbmcambofgaaS11
import Derived.Test.YtnjhbmcambofgaaW4
namespace Go.Proofs.Ytnjhbmcambofgaa
open Go.V
set_option linter.unusedSimpArgs false
set_option linter.unusedVariables false

inductive isV (v : Svy) (get : Nat → List PV) : Prop
  | mk (h : okV v) (e : get = fun i => obsL (v.s i))
  | no (h : False)
theorem isV.get {v : Svy} {get : Nat → List PV} (h : isV v get) : okV v ∧ get = fun i => obsL (v.s i) := by
  cases h with
  | mk h e => exact ⟨h, e⟩
  | no h => exact h.elim
def ix (n : Int) : Nat := 0 + n.toNat * 1
def stepG (lv : Int) (x : Obs) (g : Nat → Int) : Nat → Int := bif decide (lv ≤ x.lo) then fun j => bif Nat.beq j (ix x.b) then gmin (g (ix x.a)) (g (ix x.b)) else bif Nat.beq j (ix x.a) then gmin (g (ix x.a)) (g (ix x.b)) else g j else g
def passG (lv : Int) (s : Nat → Obs) (g : Nat → Int) : Nat → Nat → Int
  | 0 => g
  | k + 1 => stepG lv (s k) (passG lv s g k)
def sum10 (g : Nat → Int) : Nat := (g 0).toNat + (g 1).toNat + (g 2).toNat + (g 3).toNat + (g 4).toNat + (g 5).toNat + (g 6).toNat + (g 7).toNat + (g 8).toNat + (g 9).toNat
def eq10 (g h : Nat → Int) : Bool := (g 0 == h 0) && ((g 1 == h 1) && ((g 2 == h 2) && ((g 3 == h 3) && ((g 4 == h 4) && ((g 5 == h 5) && ((g 6 == h 6) && ((g 7 == h 7) && ((g 8 == h 8) && ((g 9 == h 9) && true)))))))))
def joinG (lv : Int) (s : Nat → Obs) (n : Nat) : Nat → (Nat → Int) → Nat → Int
  | 0, g => g
  | f + 1, g => bif eq10 (passG lv s g n) g then passG lv s g n else joinG lv s n f (passG lv s g n)
def groupsM (v : Svy) : Nat → Int := joinG v.lv v.s v.n 100 fun i => (i : Int)
def arr10 (g : Nat → Int) : List PV := [I (g 0), I (g 1), I (g 2), I (g 3), I (g 4), I (g 5), I (g 6), I (g 7), I (g 8), I (g 9)]
theorem stepG_le {lv : Int} {x : Obs} {g : Nat → Int} (j : Nat) : stepG lv x g j ≤ g j := by
  unfold stepG
  cases decide (lv ≤ x.lo) with
  | false => exact Int.le_refl _
  | true =>
    simp only [cond_true]
    have h1 : gmin (g (ix x.a)) (g (ix x.b)) ≤ g (ix x.a) := by unfold gmin; split <;> omega
    have h2 : gmin (g (ix x.a)) (g (ix x.b)) ≤ g (ix x.b) := by unfold gmin; split <;> omega
    cases hb : Nat.beq j (ix x.b) with
    | true => rw [Nat.eq_of_beq_eq_true hb]; exact h2
    | false =>
      cases ha : Nat.beq j (ix x.a) with
      | true => rw [Nat.eq_of_beq_eq_true ha]; exact h1
      | false => exact Int.le_refl _
theorem stepG_nn {lv : Int} {x : Obs} {g : Nat → Int} (h : ∀ j, 0 ≤ g j) (j : Nat) : 0 ≤ stepG lv x g j := by
  unfold stepG
  have h1 : 0 ≤ gmin (g (ix x.a)) (g (ix x.b)) := by unfold gmin; split <;> exact h _
  cases decide (lv ≤ x.lo) with
  | false => exact h j
  | true =>
    simp only [cond_true]
    cases Nat.beq j (ix x.b) with
    | true => exact h1
    | false =>
      cases Nat.beq j (ix x.a) with
      | true => exact h1
      | false => exact h j
theorem passG_le {lv : Int} {s : Nat → Obs} {g : Nat → Int} : ∀ (k j : Nat), passG lv s g k j ≤ g j
  | 0, _ => Int.le_refl _
  | k + 1, j => Int.le_trans (stepG_le j) (passG_le k j)
theorem passG_nn {lv : Int} {s : Nat → Obs} {g : Nat → Int} (h : ∀ j, 0 ≤ g j) : ∀ (k j : Nat), 0 ≤ passG lv s g k j
  | 0, j => h j
  | k + 1, j => stepG_nn (passG_nn h k) j
theorem sum10_lt {g h : Nat → Int} (hle : ∀ j, g j ≤ h j) (hnn : ∀ j, 0 ≤ g j) (hne : eq10 g h = false) : sum10 g < sum10 h := by
  have t : ∀ j, (g j).toNat ≤ (h j).toNat := fun j => by have := hle j; omega
  have b : ∀ j, (g j).toNat = (h j).toNat → g j = h j := fun j e => by have := hnn j; have := hle j; omega
  refine Classical.byContradiction fun hc => ?_
  unfold sum10 at hc
  have t0 := t 0
  have t1 := t 1
  have t2 := t 2
  have t3 := t 3
  have t4 := t 4
  have t5 := t 5
  have t6 := t 6
  have t7 := t 7
  have t8 := t 8
  have t9 := t 9
  have b0 := b 0
  have b1 := b 1
  have b2 := b 2
  have b3 := b 3
  have b4 := b 4
  have b5 := b 5
  have b6 := b 6
  have b7 := b 7
  have b8 := b 8
  have b9 := b 9
  clear t b hle hnn
  generalize (g 0).toNat = x0 at *
  generalize (h 0).toNat = y0 at *
  generalize (g 1).toNat = x1 at *
  generalize (h 1).toNat = y1 at *
  generalize (g 2).toNat = x2 at *
  generalize (h 2).toNat = y2 at *
  generalize (g 3).toNat = x3 at *
  generalize (h 3).toNat = y3 at *
  generalize (g 4).toNat = x4 at *
  generalize (h 4).toNat = y4 at *
  generalize (g 5).toNat = x5 at *
  generalize (h 5).toNat = y5 at *
  generalize (g 6).toNat = x6 at *
  generalize (h 6).toNat = y6 at *
  generalize (g 7).toNat = x7 at *
  generalize (h 7).toNat = y7 at *
  generalize (g 8).toNat = x8 at *
  generalize (h 8).toNat = y8 at *
  generalize (g 9).toNat = x9 at *
  generalize (h 9).toNat = y9 at *
  have c0 := b0 (by clear b0 b1 b2 b3 b4 b5 b6 b7 b8 b9; omega)
  have c1 := b1 (by clear b0 b1 b2 b3 b4 b5 b6 b7 b8 b9; omega)
  have c2 := b2 (by clear b0 b1 b2 b3 b4 b5 b6 b7 b8 b9; omega)
  have c3 := b3 (by clear b0 b1 b2 b3 b4 b5 b6 b7 b8 b9; omega)
  have c4 := b4 (by clear b0 b1 b2 b3 b4 b5 b6 b7 b8 b9; omega)
  have c5 := b5 (by clear b0 b1 b2 b3 b4 b5 b6 b7 b8 b9; omega)
  have c6 := b6 (by clear b0 b1 b2 b3 b4 b5 b6 b7 b8 b9; omega)
  have c7 := b7 (by clear b0 b1 b2 b3 b4 b5 b6 b7 b8 b9; omega)
  have c8 := b8 (by clear b0 b1 b2 b3 b4 b5 b6 b7 b8 b9; omega)
  have c9 := b9 (by clear b0 b1 b2 b3 b4 b5 b6 b7 b8 b9; omega)
  have e : eq10 g h = true := by
    unfold eq10
    simp only [c0, c1, c2, c3, c4, c5, c6, c7, c8, c9, beq_self_eq_true, Bool.and_self]
  rw [hne] at e
  cases e
/-- A state on the way to the groups. -/
def onWay (v : Svy) (g : Nat → Int) : Prop := (∃ f, sum10 g < f ∧ joinG v.lv v.s v.n f g = groupsM v) ∧ ∀ j, 0 ≤ g j
theorem onWay_0 (v : Svy) : onWay v fun i => (i : Int) := ⟨⟨100, by decide, rfl⟩, fun j => Int.natCast_nonneg j⟩
theorem onWay_end {v : Svy} {g : Nat → Int} (h : onWay v g) (he : eq10 (passG v.lv v.s g v.n) g = true) : passG v.lv v.s g v.n = groupsM v := by
  obtain ⟨⟨f, hf, e⟩, _⟩ := h
  cases f with
  | zero => omega
  | succ f =>
    rw [← e]
    show _ = bif eq10 _ _ then _ else _
    rw [he]
    rfl
theorem onWay_next {v : Svy} {g : Nat → Int} (h : onWay v g) (he : eq10 (passG v.lv v.s g v.n) g = false) : onWay v (passG v.lv v.s g v.n) ∧ sum10 (passG v.lv v.s g v.n) < sum10 g := by
  obtain ⟨⟨f, hf, e⟩, hn⟩ := h
  have hs := sum10_lt (passG_le v.n) (passG_nn hn v.n) he
  refine ⟨⟨?_, passG_nn hn v.n⟩, hs⟩
  cases f with
  | zero => omega
  | succ f =>
    refine ⟨f, by omega, ?_⟩
    rw [← e]
    show _ = bif eq10 _ _ then _ else _
    rw [he]
    rfl
theorem z10 (i : Nat) : ([0, 0, 0, 0, 0, 0, 0, 0, 0, 0] : List Int).getD i 0 = 0 := by
  match i with
  | 0 => rfl | 1 => rfl | 2 => rfl | 3 => rfl | 4 => rfl | 5 => rfl | 6 => rfl | 7 => rfl | 8 => rfl | 9 => rfl
  | i + 10 => simp
def startG (m : Nat) (i : Nat) : Int := bif Nat.blt i m then (i : Int) else 0
theorem start_ple {m i : Nat} : PLe (bif Nat.beq i (ix (m : Int)) then I (m : Int) else I (startG m i)) (I (startG (m + 1) i)) := by
  by_cases him : i = m
  · subst him
    have e2 : Nat.beq i (ix (i : Int)) = true := by simp [ix]
    rw [e2]
    refine ple_int ?_
    show (i : Int) = bif Nat.blt i (i + 1) then (i : Int) else 0
    rw [blt_t (by omega)]; rfl
  · have e2 : Nat.beq i (ix (m : Int)) = false := by
      rw [Bool.eq_false_iff]; intro e; have := Nat.eq_of_beq_eq_true e; unfold ix at this; omega
    rw [e2]
    refine ple_int ?_
    unfold startG
    by_cases h2 : i < m
    · rw [blt_t h2, blt_t (by omega)]
    · rw [blt_f (by omega), blt_f (by omega)]
def cnG (st : St) : Nat := match st.blocks 3 with
  | .arrv _ get => sum10 fun i => intOf [get i]
  | _ => 0
def togetherS : V.Spec
  | [.agg [.int .i64 g0, .int .i64 g1, .int .i64 g2, .int .i64 g3, .int .i64 g4, .int .i64 g5, .int .i64 g6, .int .i64 g7, .int .i64 g8, .int .i64 g9], .int .i64 a, .int .i64 b] => (some ((0 ≤ a ∧ a < 10) ∧ 0 ≤ b ∧ b < 10), .bool (([g0, g1, g2, g3, g4, g5, g6, g7, g8, g9] : List Int).getD (ix a) 0 == ([g0, g1, g2, g3, g4, g5, g6, g7, g8, g9] : List Int).getD (ix b) 0))
  | _ => bad
def joinS : V.Spec
  | [.agg [.int .i64 wl, .int .i64 lv, .slice none n get]] => (some (isV (svyOf wl lv n get) get), .agg (arr10 (groupsM (svyOf wl lv n get))))
  | _ => bad
set_option maxRecDepth 20000 in
set_option maxHeartbeats 1000000 in
theorem sf125 : SF Try.prog 125 togetherS := by
  refine sf_gen types_ok mixed (l := []) trivial (es := []) trivial (its := []) trivial (fr := []) trivial [(1, [.arrv 3])] [] false [] [] 3 Try.func125 rfl (by kernel_rfl) fun args h => ?_
  unfold togetherS at h
  split at h
  · rename_i g0 g1 g2 g3 g4 g5 g6 g7 g8 g9 a b
    obtain ⟨⟨ha, ha'⟩, hb, hb'⟩ : (0 ≤ a ∧ a < 10) ∧ 0 ≤ b ∧ b < 10 := h
    refine ⟨rfl, ?_⟩
    show evalCode _ _ _ fun o => match o with
      | .normal st | .ret st => withP _ (_ ∧ PLe _ (.bool (([g0, g1, g2, g3, g4, g5, g6, g7, g8, g9] : List Int).getD (ix a) 0 == ([g0, g1, g2, g3, g4, g5, g6, g7, g8, g9] : List Int).getD (ix b) 0)))
      | _ => False
    repeat' first | (exact PLe.refl _) | (exact BLe.refl _) | (exact PLeL.nil) | (exact BLeL.nil) | (refine ⟨?_, ?_⟩) | (refine PLeL.cons ?_ ?_) | (refine BLeL.cons ?_ ?_) | (refine ple_int ?_) | (refine ple_bool ?_) | (refine ple_tt ?_) | (refine ple_ff ?_) | (refine PLe.aggL ?_) | (refine PLe.tupL ?_) | (refine BLe.cellsL ?_) | (refine fun h => absurd h (by decide)) | (refine fun (h : @Eq Bool _ _) => ?_)
    all_goals first | trivial | rfl | omega | (show 0 + a.toNat * 1 < 10; omega) | (show 0 + b.toNat * 1 < 10; omega) | skip
  · exact h.elim
theorem step_ple {h : Nat → Int} {g : Nat → Int} {a b : Nat} {c d : Int} (e : h = fun j => bif Nat.beq j b then d else bif Nat.beq j a then c else g j) (i : Nat) : PLe (bif Nat.beq i b then I d else bif Nat.beq i a then I c else I (g i)) (I (h i)) := by
  subst e
  cases hb : Nat.beq i b <;> cases ha : Nat.beq i a <;> simp only [hb, ha, cond_true, cond_false] <;> exact PLe.refl _
section
set_option maxRecDepth 20000 in
set_option maxHeartbeats 1000000 in
theorem sf123 : SF Try.prog 123 joinS := by
  refine sf_gen types_ok mixed (l := [(132, isSureS)]) ⟨sf132, trivial⟩ (es := []) trivial (its := []) trivial (fr := []) trivial [(2, [.arrv 3])] [] false [] [] 1 Try.func123 rfl (by kernel_rfl) fun args h => ?_
  unfold joinS at h
  split at h
  · rename_i wl lv n get
    obtain ⟨hok, e⟩ := isV.get h
    obtain ⟨s, rfl⟩ : ∃ s : Nat → Obs, get = fun i => obsL (s i) := ⟨_, e⟩
    clear h e
    refine ⟨rfl, ?_⟩
    show evalCode _ _ _ fun o => match o with
      | .normal st | .ret st => withP _ (_ ∧ PLe _ (.agg (arr10 (groupsM ⟨wl, lv, n, s⟩))))
      | _ => False
    have hn : n ≤ 60 := hok.n
    have hs : ∀ i, i < n → (0 ≤ (s i).a ∧ (s i).a < wl) ∧ (0 ≤ (s i).b ∧ (s i).b < wl) ∧ (s i).a ≠ (s i).b ∧ okDrop (s i).lo (s i).hi := hok.s
    have hwl : 1 ≤ wl ∧ wl ≤ 10 := hok.wl
    repeat' first | (exact PLe.refl _) | (exact BLe.refl _) | (exact PLeL.nil) | (exact BLeL.nil) | (refine ⟨?_, ?_⟩) | (refine PLeL.cons ?_ ?_) | (refine BLeL.cons ?_ ?_) | (refine ple_int ?_) | (refine ple_bool ?_) | (refine ple_tt ?_) | (refine ple_ff ?_) | (refine PLe.aggL ?_) | (refine PLe.tupL ?_) | (refine BLe.cellsL ?_) | (refine halt_rng (cnt 9) 10 [1, 2, 3, 9] [1, 2, 3] (fun m => [.ptr 1 0, .ptr 2 0, .ptr 3 0, I m]) (fun m => [.cells [I wl, I lv, .slice none n fun i => obsL (s i)], .cells [I 0, I 0, I 0, I 0, I 0, I 0, I 0, I 0, I 0, I 0], .arrv 10 fun i => I (startG m i)]) (fun _ => True) rfl (.mk ?_ ?_) trivial ?_) | (refine fun h => absurd h (by decide)) | (refine fun (h : @Eq Bool _ _) => ?_)
    all_goals first | trivial | rfl | omega | skip
    · exact ble_arrv rfl fun i hi => ple_int (by rw [z10]; rfl)
    · intro m hm _
      refine ⟨fun h1 => ?_, fun h1 => ?_⟩
      · have hlt : m < 10 := by
          have : (m : Int) < 10 := of_decide_eq_true h1
          omega
        have e1 := succ_w (m := m) (n := 10) hlt (by omega)
        clear h1
        repeat' first | (exact PLe.refl _) | (exact BLe.refl _) | (exact PLeL.nil) | (exact BLeL.nil) | (refine ⟨?_, ?_⟩) | (refine PLeL.cons ?_ ?_) | (refine BLeL.cons ?_ ?_) | (refine ple_int ?_) | (refine ple_bool ?_) | (refine ple_tt ?_) | (refine ple_ff ?_) | (refine PLe.aggL ?_) | (refine PLe.tupL ?_) | (refine BLe.cellsL ?_) | (refine next_rng (cn := cnt 9) rfl (fun _ => rfl) hlt trivial (.mk ?_ ?_)) | (refine fun h => absurd h (by decide)) | (refine fun (h : @Eq Bool _ _) => ?_)
        all_goals first | trivial | rfl | omega | (exact e1) | (show 0 + ((m : Int)).toNat * 1 < 10; omega) | skip
        exact ble_arrv rfl fun i hi => start_ple
      · have hmn : m = 10 := by
          have : ¬ ((m : Int) < 10) := of_decide_eq_false h1
          omega
        subst hmn
        clear h1
        repeat' first | (exact PLe.refl _) | (exact BLe.refl _) | (exact PLeL.nil) | (exact BLeL.nil) | (refine ⟨?_, ?_⟩) | (refine PLeL.cons ?_ ?_) | (refine BLeL.cons ?_ ?_) | (refine ple_int ?_) | (refine ple_bool ?_) | (refine ple_tt ?_) | (refine ple_ff ?_) | (refine PLe.aggL ?_) | (refine PLe.tupL ?_) | (refine BLe.cellsL ?_) | (refine halt_mu cnG [1, 2, 3] [1, 2, 3] (fun _ => [.ptr 1 0, .ptr 2 0, .ptr 3 0]) (fun g => [.cells [I wl, I lv, .slice none n fun i => obsL (s i)], .cells [I 0, I 0, I 0, I 0, I 0, I 0, I 0, I 0, I 0, I 0], .arrv 10 fun i => I (g i)]) (onWay ⟨wl, lv, n, s⟩) (fun i => (i : Int)) rfl (.mk ?_ ?_) (onWay_0 ⟨wl, lv, n, s⟩) ?_) | (refine fun h => absurd h (by decide)) | (refine fun (h : @Eq Bool _ _) => ?_)
        all_goals first | trivial | rfl | omega | skip
        · exact ble_arrv rfl fun i hi => ple_int (by show startG 10 i = _; unfold startG; rw [blt_t hi]; rfl)
        · intro g hg
          repeat' first | (exact PLe.refl _) | (exact BLe.refl _) | (exact PLeL.nil) | (exact BLeL.nil) | (refine ⟨?_, ?_⟩) | (refine PLeL.cons ?_ ?_) | (refine BLeL.cons ?_ ?_) | (refine ple_int ?_) | (refine ple_bool ?_) | (refine ple_tt ?_) | (refine ple_ff ?_) | (refine PLe.aggL ?_) | (refine PLe.tupL ?_) | (refine BLe.cellsL ?_) | (refine halt_rng (cnt 20) n [1, 2, 3, 5, 18, 19, 20] [1, 2, 3, 5] (fun k => [.ptr 1 0, .ptr 2 0, .ptr 3 0, .ptr 5 0, .slice none n fun i => obsL (s i), I n, I k]) (fun k => [.cells [I wl, I lv, .slice none n fun i => obsL (s i)], .cells [I 0, I 0, I 0, I 0, I 0, I 0, I 0, I 0, I 0, I 0], .arrv 10 fun i => I (passG lv s g k i), .cells [I (g 0), I (g 1), I (g 2), I (g 3), I (g 4), I (g 5), I (g 6), I (g 7), I (g 8), I (g 9)]]) (fun _ => True) rfl (.mk ?_ ?_) trivial ?_) | (refine fun h => absurd h (by decide)) | (refine fun (h : @Eq Bool _ _) => ?_)
          all_goals first | trivial | rfl | omega | skip
          intro k hk _
          refine ⟨fun h1 => ?_, fun h1 => ?_⟩
          · have hlt : k < n := by simpa using h1
            have e1 := succ_w (m := k) (n := n) hlt (by omega)
            clear h1
            obtain ⟨⟨a1, a2⟩, ⟨b1, b2⟩, _⟩ := hs k hlt
            refine (Bool.eq_false_or_eq_true (decide (lv ≤ (s k).lo))).elim (fun q1 => ?_) fun q1 => ?_
            · have eP : passG lv s g (k + 1) = fun j => bif Nat.beq j (ix (s k).b) then gmin (passG lv s g k (ix (s k).a)) (passG lv s g k (ix (s k).b)) else bif Nat.beq j (ix (s k).a) then gmin (passG lv s g k (ix (s k).a)) (passG lv s g k (ix (s k).b)) else passG lv s g k j := by
                show stepG _ _ _ = _
                unfold stepG
                rw [q1]; rfl
              repeat' first | (exact PLe.refl _) | (exact BLe.refl _) | (exact PLeL.nil) | (exact BLeL.nil) | (refine ⟨?_, ?_⟩) | (refine PLeL.cons ?_ ?_) | (refine BLeL.cons ?_ ?_) | (refine ple_int ?_) | (refine ple_bool ?_) | (refine ple_tt ?_) | (refine ple_ff ?_) | (refine PLe.aggL ?_) | (refine PLe.tupL ?_) | (refine BLe.cellsL ?_) | (refine next_rng (cn := cnt 20) rfl (fun _ => rfl) hlt trivial (.mk ?_ ?_)) | (refine fun h => absurd h (by decide)) | (refine fun h => ?_; exfalso; simp only [q1, Int.toNat_natCast, Bool.cond_true_left, Bool.cond_false_right, Bool.cond_true_right, Bool.cond_false_left, cond_true, cond_false, Bool.not_true, Bool.not_false, Bool.not_not, Bool.and_true, Bool.true_and, Bool.and_false, Bool.false_and, Bool.or_true, Bool.true_or, Bool.or_false, Bool.false_or, beq_self_eq_true, bne_self_eq_false, Bool.true_eq_false, Bool.false_eq_true, reduceCtorEq, Bool.and_self, Bool.or_self, Int.reduceBEq, Int.reduceBNe, Int.reduceNeg, decide_true, decide_false, Int.reduceLT, Int.reduceLE, Int.reduceGT] at h; done) | (refine fun (h : @Eq Bool _ _) => ?_)
              all_goals first | trivial | rfl | omega | (exact e1) | (show 0 + (s k).a.toNat * 1 < 10; omega) | (show 0 + (s k).b.toNat * 1 < 10; omega) | (show (s k).a < ((10 : Nat) : Int); omega) | (show (s k).b < ((10 : Nat) : Int); omega) | (exact ble_arrv rfl fun i hi => step_ple eP i) | (simp only [q1, Int.toNat_natCast, Bool.cond_true_left, Bool.cond_false_right, Bool.cond_true_right, Bool.cond_false_left, cond_true, cond_false, Bool.not_true, Bool.not_false, Bool.not_not, Bool.and_true, Bool.true_and, Bool.and_false, Bool.false_and, Bool.or_true, Bool.true_or, Bool.or_false, Bool.false_or, beq_self_eq_true, bne_self_eq_false, Bool.true_eq_false, Bool.false_eq_true, reduceCtorEq, Bool.and_self, Bool.or_self, Int.reduceBEq, Int.reduceBNe, Int.reduceNeg, decide_true, decide_false, Int.reduceLT, Int.reduceLE, Int.reduceGT]; done) | (show @Eq Bool _ _; simp only [q1, Int.toNat_natCast, Bool.cond_true_left, Bool.cond_false_right, Bool.cond_true_right, Bool.cond_false_left, cond_true, cond_false, Bool.not_true, Bool.not_false, Bool.not_not, Bool.and_true, Bool.true_and, Bool.and_false, Bool.false_and, Bool.or_true, Bool.true_or, Bool.or_false, Bool.false_or, beq_self_eq_true, bne_self_eq_false, Bool.true_eq_false, Bool.false_eq_true, reduceCtorEq, Bool.and_self, Bool.or_self, Int.reduceBEq, Int.reduceBNe, Int.reduceNeg, decide_true, decide_false, Int.reduceLT, Int.reduceLE, Int.reduceGT]; done) | skip
            · have eP : passG lv s g (k + 1) = passG lv s g k := by
                show stepG _ _ _ = _
                unfold stepG
                rw [q1]; rfl
              repeat' first | (exact PLe.refl _) | (exact BLe.refl _) | (exact PLeL.nil) | (exact BLeL.nil) | (refine ⟨?_, ?_⟩) | (refine PLeL.cons ?_ ?_) | (refine BLeL.cons ?_ ?_) | (refine ple_int ?_) | (refine ple_bool ?_) | (refine ple_tt ?_) | (refine ple_ff ?_) | (refine PLe.aggL ?_) | (refine PLe.tupL ?_) | (refine BLe.cellsL ?_) | (refine next_rng (cn := cnt 20) rfl (fun _ => rfl) hlt trivial (.mk ?_ ?_)) | (refine fun h => absurd h (by decide)) | (refine fun h => ?_; exfalso; simp only [q1, Int.toNat_natCast, Bool.cond_true_left, Bool.cond_false_right, Bool.cond_true_right, Bool.cond_false_left, cond_true, cond_false, Bool.not_true, Bool.not_false, Bool.not_not, Bool.and_true, Bool.true_and, Bool.and_false, Bool.false_and, Bool.or_true, Bool.true_or, Bool.or_false, Bool.false_or, beq_self_eq_true, bne_self_eq_false, Bool.true_eq_false, Bool.false_eq_true, reduceCtorEq, Bool.and_self, Bool.or_self, Int.reduceBEq, Int.reduceBNe, Int.reduceNeg, decide_true, decide_false, Int.reduceLT, Int.reduceLE, Int.reduceGT] at h; done) | (refine fun (h : @Eq Bool _ _) => ?_)
              all_goals first | trivial | rfl | omega | (exact e1) | (exact ble_arrv rfl fun i hi => ple_int (congrFun eP i).symm) | (simp only [q1, Int.toNat_natCast, Bool.cond_true_left, Bool.cond_false_right, Bool.cond_true_right, Bool.cond_false_left, cond_true, cond_false, Bool.not_true, Bool.not_false, Bool.not_not, Bool.and_true, Bool.true_and, Bool.and_false, Bool.false_and, Bool.or_true, Bool.true_or, Bool.or_false, Bool.false_or, beq_self_eq_true, bne_self_eq_false, Bool.true_eq_false, Bool.false_eq_true, reduceCtorEq, Bool.and_self, Bool.or_self, Int.reduceBEq, Int.reduceBNe, Int.reduceNeg, decide_true, decide_false, Int.reduceLT, Int.reduceLE, Int.reduceGT]; done) | (show @Eq Bool _ _; simp only [q1, Int.toNat_natCast, Bool.cond_true_left, Bool.cond_false_right, Bool.cond_true_right, Bool.cond_false_left, cond_true, cond_false, Bool.not_true, Bool.not_false, Bool.not_not, Bool.and_true, Bool.true_and, Bool.and_false, Bool.false_and, Bool.or_true, Bool.true_or, Bool.or_false, Bool.false_or, beq_self_eq_true, bne_self_eq_false, Bool.true_eq_false, Bool.false_eq_true, reduceCtorEq, Bool.and_self, Bool.or_self, Int.reduceBEq, Int.reduceBNe, Int.reduceNeg, decide_true, decide_false, Int.reduceLT, Int.reduceLE, Int.reduceGT]; done) | skip
          · have hkn : k = n := by
              have : ¬ ((k : Int) < n) := of_decide_eq_false h1
              omega
            subst hkn
            clear h1
            refine (Bool.eq_false_or_eq_true (eq10 (passG lv s g k) g)).elim (fun q1 => ?_) fun q1 => ?_
            · have eG := onWay_end hg q1
              repeat' first | (exact PLe.refl _) | (exact BLe.refl _) | (exact PLeL.nil) | (exact BLeL.nil) | (refine ⟨?_, ?_⟩) | (refine PLeL.cons ?_ ?_) | (refine BLeL.cons ?_ ?_) | (refine ple_int ?_) | (refine ple_bool ?_) | (refine ple_tt ?_) | (refine ple_ff ?_) | (refine PLe.aggL ?_) | (refine PLe.tupL ?_) | (refine BLe.cellsL ?_) | (refine fun h => absurd (h.symm.trans q1) (by decide)) | (refine fun h => absurd h (by decide)) | (refine fun h => ?_; exfalso; simp only [q1, Int.toNat_natCast, Bool.cond_true_left, Bool.cond_false_right, Bool.cond_true_right, Bool.cond_false_left, cond_true, cond_false, Bool.not_true, Bool.not_false, Bool.not_not, Bool.and_true, Bool.true_and, Bool.and_false, Bool.false_and, Bool.or_true, Bool.true_or, Bool.or_false, Bool.false_or, beq_self_eq_true, bne_self_eq_false, Bool.true_eq_false, Bool.false_eq_true, reduceCtorEq, Bool.and_self, Bool.or_self, Int.reduceBEq, Int.reduceBNe, Int.reduceNeg, decide_true, decide_false, Int.reduceLT, Int.reduceLE, Int.reduceGT] at h; done) | (refine fun (h : @Eq Bool _ _) => ?_)
              all_goals first | trivial | rfl | omega | (exact congrFun eG 0) | (exact congrFun eG 1) | (exact congrFun eG 2) | (exact congrFun eG 3) | (exact congrFun eG 4) | (exact congrFun eG 5) | (exact congrFun eG 6) | (exact congrFun eG 7) | (exact congrFun eG 8) | (exact congrFun eG 9) | (simp only [q1, Int.toNat_natCast, Bool.cond_true_left, Bool.cond_false_right, Bool.cond_true_right, Bool.cond_false_left, cond_true, cond_false, Bool.not_true, Bool.not_false, Bool.not_not, Bool.and_true, Bool.true_and, Bool.and_false, Bool.false_and, Bool.or_true, Bool.true_or, Bool.or_false, Bool.false_or, beq_self_eq_true, bne_self_eq_false, Bool.true_eq_false, Bool.false_eq_true, reduceCtorEq, Bool.and_self, Bool.or_self, Int.reduceBEq, Int.reduceBNe, Int.reduceNeg, decide_true, decide_false, Int.reduceLT, Int.reduceLE, Int.reduceGT]; done) | (show @Eq Bool _ _; simp only [q1, Int.toNat_natCast, Bool.cond_true_left, Bool.cond_false_right, Bool.cond_true_right, Bool.cond_false_left, cond_true, cond_false, Bool.not_true, Bool.not_false, Bool.not_not, Bool.and_true, Bool.true_and, Bool.and_false, Bool.false_and, Bool.or_true, Bool.true_or, Bool.or_false, Bool.false_or, beq_self_eq_true, bne_self_eq_false, Bool.true_eq_false, Bool.false_eq_true, reduceCtorEq, Bool.and_self, Bool.or_self, Int.reduceBEq, Int.reduceBNe, Int.reduceNeg, decide_true, decide_false, Int.reduceLT, Int.reduceLE, Int.reduceGT]; done) | skip
            · obtain ⟨hg', hlt'⟩ := onWay_next hg q1
              repeat' first | (exact PLe.refl _) | (exact BLe.refl _) | (exact PLeL.nil) | (exact BLeL.nil) | (refine ⟨?_, ?_⟩) | (refine PLeL.cons ?_ ?_) | (refine BLeL.cons ?_ ?_) | (refine ple_int ?_) | (refine ple_bool ?_) | (refine ple_tt ?_) | (refine ple_ff ?_) | (refine PLe.aggL ?_) | (refine PLe.tupL ?_) | (refine BLe.cellsL ?_) | (refine fun h => absurd (h.symm.trans q1) (by decide)) | (refine next_mu (passG lv s g k) rfl hlt' hg' (.mk ?_ ?_)) | (refine fun h => absurd h (by decide)) | (refine fun h => ?_; exfalso; simp only [q1, Int.toNat_natCast, Bool.cond_true_left, Bool.cond_false_right, Bool.cond_true_right, Bool.cond_false_left, cond_true, cond_false, Bool.not_true, Bool.not_false, Bool.not_not, Bool.and_true, Bool.true_and, Bool.and_false, Bool.false_and, Bool.or_true, Bool.true_or, Bool.or_false, Bool.false_or, beq_self_eq_true, bne_self_eq_false, Bool.true_eq_false, Bool.false_eq_true, reduceCtorEq, Bool.and_self, Bool.or_self, Int.reduceBEq, Int.reduceBNe, Int.reduceNeg, decide_true, decide_false, Int.reduceLT, Int.reduceLE, Int.reduceGT] at h; done) | (refine fun (h : @Eq Bool _ _) => ?_)
              all_goals first | trivial | rfl | omega | (simp only [q1, Int.toNat_natCast, Bool.cond_true_left, Bool.cond_false_right, Bool.cond_true_right, Bool.cond_false_left, cond_true, cond_false, Bool.not_true, Bool.not_false, Bool.not_not, Bool.and_true, Bool.true_and, Bool.and_false, Bool.false_and, Bool.or_true, Bool.true_or, Bool.or_false, Bool.false_or, beq_self_eq_true, bne_self_eq_false, Bool.true_eq_false, Bool.false_eq_true, reduceCtorEq, Bool.and_self, Bool.or_self, Int.reduceBEq, Int.reduceBNe, Int.reduceNeg, decide_true, decide_false, Int.reduceLT, Int.reduceLE, Int.reduceGT]; done) | (show @Eq Bool _ _; simp only [q1, Int.toNat_natCast, Bool.cond_true_left, Bool.cond_false_right, Bool.cond_true_right, Bool.cond_false_left, cond_true, cond_false, Bool.not_true, Bool.not_false, Bool.not_not, Bool.and_true, Bool.true_and, Bool.and_false, Bool.false_and, Bool.or_true, Bool.true_or, Bool.or_false, Bool.false_or, beq_self_eq_true, bne_self_eq_false, Bool.true_eq_false, Bool.false_eq_true, reduceCtorEq, Bool.and_self, Bool.or_self, Int.reduceBEq, Int.reduceBNe, Int.reduceNeg, decide_true, decide_false, Int.reduceLT, Int.reduceLE, Int.reduceGT]; done) | skip
  · exact h.elim
end
end Go.Proofs.Ytnjhbmcambofgaa
