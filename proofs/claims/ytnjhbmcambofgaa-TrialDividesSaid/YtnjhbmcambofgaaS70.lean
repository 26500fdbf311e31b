/- Layer 4: the first of the shortest ways, as the program finds it. -/
import Derived.Test.YtnjhbmcambofgaaS68
import Derived.Test.YtnjhbmcambofgaaS69
import Derived.Test.YtnjhbmcambofgaaS13
namespace Go.Proofs.Ytnjhbmcambofgaa
open Go.V
set_option linter.unusedSimpArgs false
set_option linter.unusedVariables false

theorem ple_tsl {s k k' len len' sz : Nat} {get get' : Nat → List PV} (hk : k = k') (hl : len = len') (h : ∀ i, i < len → ∃ p q, get i = [p] ∧ get' i = [q] ∧ PLe p q) : PLe (.tsl s k len sz get) (.tsl s k' len' sz get') := by
  subst hk; subst hl
  refine .tsl _ _ _ _ _ _ (fun i hi => ?_) fun i hi j hj => ?_
  · obtain ⟨p, q, e1, e2, _⟩ := h i hi
    rw [e1, e2]; rfl
  · obtain ⟨p, q, e1, e2, e3⟩ := h i hi
    rw [e1] at hj
    have hj0 : j = 0 := by have : j < 1 := hj; omega
    subst hj0
    rw [e1, e2]; exact e3
theorem ple_tsl0 {s len sz : Nat} {get get' : Nat → List PV} (h0 : 0 < len) (h : ∀ i, i < len → ∃ p q, get i = [p] ∧ get' i = [q] ∧ PLe p q) : PLe (.slice (some s) len get) (.tsl s 0 len sz get') := by
  refine .tsl0 _ _ _ _ _ h0 (fun i hi => ?_) fun i hi j hj => ?_
  · obtain ⟨p, q, e1, e2, _⟩ := h i hi
    rw [e1, e2]; rfl
  · obtain ⟨p, q, e1, e2, e3⟩ := h i hi
    rw [e1] at hj
    have hj0 : j = 0 := by have : j < 1 := hj; omega
    subst hj0
    rw [e1, e2]; exact e3
def lstP (x : List Nat) : PV := .slice none x.length (fun j => intL ((x.getD j 0 : Nat) : Int))
def lnk (v : Svy) (a b : Nat) : Bool := decide (0 ≤ firstN (fun i => besB v.lv (a : Int) (b : Int) (v.s i).a (v.s i).b (v.s i).lo) v.n)
def bq (v : Svy) (W fr k : Nat) : Bq := bfs (lnk v) W fr k
def bk (v : Svy) (W fr k n : Nat) : Bq := kst (lnk v) k (wy (bq v W fr k).o k) (bq v W fr k) n
def qP (k : Nat) (o : List (Nat × List Nat)) : PV := .tsl 14 k (o.length - k) 1 fun i => [lstP (wy o (k + i))]
def mB (m : Nat → Bool) : Blk := .arrv 10 fun x => .bool (m x)
def gB (o : List (Nat × List Nat)) : Blk := .grow o.length 47 1
def cnQ (st : St) : Nat := match st.slots 7 with
  | .tsl _ k _ _ _ => 100 - k
  | _ => 0
theorem lst_1 (x : Nat) {n : Nat} {f : Nat → List PV} (hn : n = 1) (h : f 0 = [I (x : Nat)]) : PLe (.slice none n f) (lstP [x]) := by
  subst hn
  refine ple_slice rfl fun i hi => ?_
  obtain rfl : i = 0 := by omega
  exact h
theorem bif_t {α : Type} {b : Bool} {x y : α} (h : b = true) : (bif b then x else y) = x := by rw [h]; rfl
theorem bif_f {α : Type} {b : Bool} {x y : α} (h : b = false) : (bif b then x else y) = y := by rw [h]; rfl
theorem lst_app {x : List Nat} {n m : Nat} {f : Nat → List PV} (hm : m = x.length + 1) (h1 : ∀ i, i < x.length → f i = intL ((x.getD i 0 : Nat) : Int)) (h2 : f x.length = [I (n : Nat)]) : PLe (.slice none m f) (lstP (x ++ [n])) := by
  refine ple_slice (by simp [hm]) fun i hi => ?_
  by_cases hl : i < x.length
  · rw [h1 i hl]
    simp [List.getD, List.getElem?_append_left hl]
  · obtain rfl : i = x.length := by omega
    rw [h2]
    simp [List.getD, intL]
theorem q_first {v : Svy} {W fr n : Nat} {f : Nat → List PV} (hn : n = 1) {p : PV} (h : f 0 = [p]) (hp : PLe p (lstP [fr])) : PLe (.slice (some 14) n f) (qP 0 (bq v W fr 0).o) := by
  subst hn
  exact ple_tsl0 (get' := fun i => [lstP (wy (bq v W fr 0).o (0 + i))]) Nat.one_pos fun i hi => by
    obtain rfl : i = 0 := by omega
    exact ⟨p, _, h, rfl, hp⟩
theorem q_cut {k a b : Nat} {o : List (Nat × List Nat)} {f : Nat → List PV} (ha : a = k + 1) (hb : b = o.length - (k + 1)) (h : ∀ i, f i = [lstP (wy o (k + (i + 1)))]) : PLe (.tsl 14 a b 1 f) (qP (k + 1) o) := by
  refine ple_tsl ha hb fun i hi => ⟨_, _, h i, rfl, ?_⟩
  rw [show k + (i + 1) = k + 1 + i by omega]
  exact .refl _
theorem q_app {k n l : Nat} {o : List (Nat × List Nat)} {x : List Nat} {f : Nat → List PV} (hk : k + 1 ≤ o.length) (hl : l = o.length - (k + 1) + 1) {p : PV} (h1 : ∀ i, i < o.length - (k + 1) → f i = [lstP (wy o (k + 1 + i))]) (h2 : f (o.length - (k + 1)) = [p]) (hp : PLe p (lstP (x ++ [n]))) :
    PLe (.tsl 14 (k + 1) l 1 f) (qP (k + 1) (o ++ [(k, x ++ [n])])) := by
  refine ple_tsl rfl (by simp [hl]; omega) fun i hi => ?_
  by_cases hl : i < o.length - (k + 1)
  · refine ⟨_, _, h1 i hl, rfl, ?_⟩
    rw [wy_old (by omega)]
    exact .refl _
  · obtain rfl : i = o.length - (k + 1) := by omega
    refine ⟨p, _, h2, rfl, ?_⟩
    rw [show k + 1 + (o.length - (k + 1)) = o.length by omega, wy_new]
    exact hp
theorem z10b (i : Nat) : ([false, false, false, false, false, false, false, false, false, false] : List Bool).getD i false = false := by
  match i with
  | 0 | 1 | 2 | 3 | 4 | 5 | 6 | 7 | 8 | 9 => rfl
  | n + 10 => rfl
theorem met_first {v : Svy} {W fr : Nat} {i : Nat} : PLe (bif Nat.beq i (ix (fr : Int)) then .tt else .bool (([false, false, false, false, false, false, false, false, false, false] : List Bool).getD i false)) (.bool ((bq v W fr 0).m i)) := by
  rw [z10b, ix_nat (Int.natCast_nonneg _), Int.toNat_natCast]
  show PLe _ (.bool (Nat.beq i fr))
  cases Nat.beq i fr with
  | true => exact .tt _ rfl
  | false => exact .refl _
theorem met_add {m : Nat → Bool} {n i : Nat} : PLe (bif Nat.beq i (ix (n : Int)) then .tt else .bool (m i)) (.bool (bif Nat.beq i n then true else m i)) := by
  rw [ix_nat (Int.natCast_nonneg _), Int.toNat_natCast]
  cases Nat.beq i n with
  | true => exact .tt _ rfl
  | false => exact .refl _
theorem last_at {x : List Nat} (h0 : 0 < x.length) (h1 : x.length ≤ 1000) : ((x.getD (w ((x.length : Int) - 1)).toNat 0 : Nat) : Int) = (lastN x : Int) := by
  rw [show (w ((x.length : Int) - 1)).toNat = x.length - 1 by show (IntKind.i64.wrap _).toNat = _; rw [w64 (by omega) (by omega)]; omega]
  rfl
set_option maxRecDepth 20000 in
set_option maxHeartbeats 2000000 in
theorem d97 (v : Svy) (hok : okV v) (W : Nat) (hW : (W : Int) = v.wl) (fr to KK : Nat) (hf : fr < W) (ht : to < W) (hg : goes (lnk v) W fr to KK) (hK : KK < (bq v W fr KK).o.length) (hl : la (bq v W fr KK).o KK = to) : SF Try.prog 97 (V.atS [.agg (askC v (groupsM v)), I (fr : Nat), I (to : Nat)] (lstP (wy (bq v W fr KK).o KK))) := by
  have hw := hok.wl
  have hn := hok.n
  have hL : isL obsL v.n fun i => obsL (v.s i) := .mk v.s (by omega) rfl
  have hI : ∀ i, i < v.n → in10 (v.s i).a ∧ in10 (v.s i).b := fun i hi => by
    obtain ⟨ha, hb, _⟩ := hok.s i hi
    exact ⟨⟨ha.1, by omega⟩, ⟨hb.1, by omega⟩⟩
  have hLI : isL obsL v.n (fun i => obsL (v.s i)) ∧ ∀ i, i < v.n → in10 (obsOf (obsL (v.s i))).a ∧ in10 (obsOf (obsL (v.s i))).b := ⟨hL, hI⟩
  refine sf_gen types_ok mixed (l := [(126, linkS)]) ⟨sf126, trivial⟩ (es := []) trivial (its := []) trivial (fr := [(94, 3, 1, cloneS)]) ⟨sff94, trivial⟩ [(3, [.arrv 8])] [14] false [] [] 3 Try.func97 rfl (by kernel_rfl) fun args h => ?_
  have h : args = _ := h
  subst h
  refine ⟨rfl, ?_⟩
  show evalCode _ _ _ fun o => match o with
    | .normal st | .ret st => withP _ (_ ∧ PLe _ (lstP (wy (bq v W fr KK).o KK)))
    | _ => False
  repeat' first | (exact PLe.refl _) | (exact BLe.refl _) | (exact PLeL.nil) | (exact BLeL.nil) | (refine ⟨?_, ?_⟩) | (refine PLeL.cons ?_ ?_) | (refine BLeL.cons ?_ ?_) | (refine ple_int ?_) | (refine ple_bool ?_) | (refine ple_tt ?_) | (refine ple_ff ?_) | (refine PLe.aggL ?_) | (refine PLe.tupL ?_) | (refine BLe.cellsL ?_) | (refine halt_mu cnQ [2, 3, 7, 8] [3, 8, 14] (fun k => [I (to : Nat), .ptr 3 0, qP k (bq v W fr k).o, .ptr 8 0]) (fun k => [.cells (askC v (groupsM v)), mB (bq v W fr k).m, gB (bq v W fr k).o]) (fun k => k ≤ KK) 0 rfl (.mk ?_ ?_) (Nat.zero_le _) ?_) | (refine fun h => absurd h (by decide)) | (refine fun (h : @Eq Bool _ _) => ?_)
  all_goals first | trivial | rfl | omega | (exact q_first rfl rfl (lst_1 fr rfl rfl)) | (exact ble_arrv rfl fun i hi => met_first) | (show (fr : Int) < 10; omega) | (show ix (fr : Int) < 10; rw [ix_nat (Int.natCast_nonneg _), Int.toNat_natCast]; omega) | (exact Int.natCast_nonneg _) | skip
  intro k hq
  have hgk : goes (lnk v) W fr to k := fun j hj => hg j (by omega)
  have hkl : k < (bq v W fr k).o.length := by
    by_cases e : k = KK
    · subst e; exact hK
    · exact (hg k (by omega)).1
  have hB : BInv (lnk v) W fr k (bq v W fr k).o (bq v W fr k).m := bfs_inv hf hgk
  have hoW : (bq v W fr k).o.length ≤ W := by have h1 := hB.cnt; have h2 := cnN_le (bq v W fr k).m W; omega
  have hx0 : 0 < (wy (bq v W fr k).o k).length := lev_pos hB hkl
  have hx1 : (wy (bq v W fr k).o k).length ≤ k + 1 := lev_le hB k hkl
  have ha := last_at hx0 (by omega)
  have hwrap : w (((wy (bq v W fr k).o k).length : Int) - 1) = (((wy (bq v W fr k).o k).length - 1 : Nat) : Int) := by
    show IntKind.i64.wrap _ = _
    rw [w64 (by omega) (by omega)]; omega
  have hlaW : lastN (wy (bq v W fr k).o k) < W := by
    by_cases h0 : k = 0
    · subst h0; exact hf
    · exact (hB.par k (by omega) hkl).2.2.2.2.1
  by_cases hkK : k = KK
  · have fE : ((((wy (bq v W fr k).o k).getD (w (((wy (bq v W fr k).o k).length : Int) - 1)).toNat 0 : Nat) : Int) == (to : Int)) = true := by
      rw [ha]
      have : lastN (wy (bq v W fr k).o k) = to := by rw [hkK]; exact hl
      rw [this]; exact beq_self_eq_true _
    subst hkK
    repeat' first | (refine fun h => absurd (h.symm.trans fE) (by decide)) | (exact PLe.refl _) | (exact BLe.refl _) | (exact PLeL.nil) | (exact BLeL.nil) | (refine ⟨?_, ?_⟩) | (refine PLeL.cons ?_ ?_) | (refine BLeL.cons ?_ ?_) | (refine ple_int ?_) | (refine ple_bool ?_) | (refine ple_tt ?_) | (refine ple_ff ?_) | (refine PLe.aggL ?_) | (refine PLe.tupL ?_) | (refine BLe.cellsL ?_) | (refine fun h => absurd h (by decide)) | (refine fun (h : @Eq Bool _ _) => ?_)
    all_goals first | trivial | rfl | omega | (show (0 : Int) < (((bq v W fr k).o.length - k : Nat) : Int); omega) | (show (0 : Int) ≤ w (((wy (bq v W fr k).o k).length : Int) - 1); rw [hwrap]; exact Int.natCast_nonneg _) | (show w (((wy (bq v W fr k).o k).length : Int) - 1) < (((wy (bq v W fr k).o k).length : Nat) : Int); rw [hwrap]; omega) | (show 0 < (bq v W fr k).o.length - k; omega) | skip
  · have hne : lastN (wy (bq v W fr k).o k) ≠ to := (hg k (by omega)).2
    have fE : ((((wy (bq v W fr k).o k).getD (w (((wy (bq v W fr k).o k).length : Int) - 1)).toNat 0 : Nat) : Int) == (to : Int)) = false := by
      rw [ha]
      exact beq_eq_false_iff_ne.2 (by omega)
    repeat' first | (refine fun h => absurd (h.symm.trans fE) (by decide)) | (exact PLe.refl _) | (exact BLe.refl _) | (exact PLeL.nil) | (exact BLeL.nil) | (refine ⟨?_, ?_⟩) | (refine PLeL.cons ?_ ?_) | (refine BLeL.cons ?_ ?_) | (refine ple_int ?_) | (refine ple_bool ?_) | (refine ple_tt ?_) | (refine ple_ff ?_) | (refine PLe.aggL ?_) | (refine PLe.tupL ?_) | (refine BLe.cellsL ?_) | (refine halt_rng (cnt 35) W [2, 3, 7, 8, 9, 10, 34, 35] [3, 8, 14] (fun n => [I (to : Nat), .ptr 3 0, qP (k + 1) (bk v W fr k n).o, .ptr 8 0, lstP (wy (bq v W fr k).o k), I (lastN (wy (bq v W fr k).o k)), I v.wl, I (n : Nat)]) (fun n => [.cells (askC v (groupsM v)), mB (bk v W fr k n).m, gB (bk v W fr k n).o]) (fun _ => True) rfl (.mk ?_ ?_) trivial ?_) | (refine fun h => absurd h (by decide)) | (refine fun (h : @Eq Bool _ _) => ?_)
    all_goals first | trivial | rfl | omega | (show (0 : Int) < (((bq v W fr k).o.length - k : Nat) : Int); omega) | (show (0 : Int) ≤ w (((wy (bq v W fr k).o k).length : Int) - 1); rw [hwrap]; exact Int.natCast_nonneg _) | (show w (((wy (bq v W fr k).o k).length : Int) - 1) < (((wy (bq v W fr k).o k).length : Nat) : Int); rw [hwrap]; omega) | (show 0 < (bq v W fr k).o.length - k; omega) | (exact ha) | (exact q_cut rfl rfl fun i => rfl) | (show (1 : Int) ≤ (((bq v W fr k).o.length - k : Nat) : Int); omega) | (exact fun i hi => rfl) | skip
    intro n hn9 _
    obtain ⟨ext, hext⟩ := kst_wy (L := lnk v) (wy (bq v W fr k).o k) hkl n
    have hKI : KInv (lnk v) W fr k n (bk v W fr k n).o (bk v W fr k n).m := kst_inv hB hkl n hn9
    have hk1 : k + 1 ≤ (bk v W fr k n).o.length := hKI.klt
    have hoN : (bk v W fr k n).o.length ≤ W := by have h1 := hKI.cnt; have h2 := cnN_le (bk v W fr k n).m W; omega
    refine ⟨fun h1 => ?_, fun h1 => ?_⟩
    · have hlt_n : n < W := by
        have : (n : Int) < v.wl := of_decide_eq_true h1
        omega
      have e_n := succ_w hlt_n (by omega)
      clear h1
      have ixn : ix (n : Int) = n := by rw [ix_nat (Int.natCast_nonneg _), Int.toNat_natCast]
      have hix : ix (n : Int) < 10 := by rw [ixn]; omega
      have hst : bk v W fr k (n + 1) = bif !(bk v W fr k n).m n && lnk v (lastN (wy (bq v W fr k).o k)) n then ⟨(bk v W fr k n).o ++ [(k, wy (bq v W fr k).o k ++ [n])], fun x => bif Nat.beq x n then true else (bk v W fr k n).m x⟩ else bk v W fr k n := rfl
      refine (Bool.eq_false_or_eq_true ((bk v W fr k n).m n)).elim (fun q1 => ?_) fun q1 => ?_
      · rw [q1] at hst
        simp only [Bool.not_true, Bool.false_and, cond_false] at hst
        have q1' : (!(bk v W fr k n).m (ix (n : Int))) = false := by rw [ixn, q1]; rfl
        repeat' first | (refine fun h => absurd (h.symm.trans q1') (by decide)) | (exact PLe.refl _) | (exact BLe.refl _) | (exact PLeL.nil) | (exact BLeL.nil) | (refine ⟨?_, ?_⟩) | (refine PLeL.cons ?_ ?_) | (refine BLeL.cons ?_ ?_) | (refine ple_int ?_) | (refine ple_bool ?_) | (refine ple_tt ?_) | (refine ple_ff ?_) | (refine PLe.aggL ?_) | (refine PLe.tupL ?_) | (refine BLe.cellsL ?_) | (refine next_rng (cn := cnt 35) rfl (fun _ => rfl) hlt_n trivial (.mk ?_ ?_)) | (refine fun h => absurd h (by decide)) | (refine fun (h : @Eq Bool _ _) => ?_)
        all_goals first | trivial | rfl | omega | (exact e_n) | (exact hix) | (exact Int.natCast_nonneg _) | (show (n : Int) < 10; omega) | (exact hLI) | (exact hLI.1) | (exact hLI.2) | (rw [hst]; exact PLe.refl _) | (rw [hst]; exact BLe.refl _) | skip
      · have q1' : (!(bk v W fr k n).m (ix (n : Int))) = true := by rw [ixn, q1]; rfl
        refine (Bool.eq_false_or_eq_true (lnk v (lastN (wy (bq v W fr k).o k)) n)).elim (fun q2 => ?_) fun q2 => ?_
        · rw [q1, q2] at hst
          simp only [Bool.not_false, Bool.true_and, cond_true] at hst
          repeat' first | (refine fun h => absurd (h.symm.trans q1') (by decide)) | (refine fun h => absurd (h.symm.trans q2) (by decide)) | (exact PLe.refl _) | (exact BLe.refl _) | (exact PLeL.nil) | (exact BLeL.nil) | (refine ⟨?_, ?_⟩) | (refine PLeL.cons ?_ ?_) | (refine BLeL.cons ?_ ?_) | (refine ple_int ?_) | (refine ple_bool ?_) | (refine ple_tt ?_) | (refine ple_ff ?_) | (refine PLe.aggL ?_) | (refine PLe.tupL ?_) | (refine BLe.cellsL ?_) | (refine next_rng (cn := cnt 35) rfl (fun _ => rfl) hlt_n trivial (.mk ?_ ?_)) | (refine fun h => absurd h (by decide)) | (refine fun (h : @Eq Bool _ _) => ?_)
          all_goals first | trivial | rfl | omega | (exact e_n) | (exact hix) | (exact Int.natCast_nonneg _) | (show (n : Int) < 10; omega) | (exact hLI) | (exact hLI.1) | (exact hLI.2) | (rw [hst]; refine q_app (n := n) hk1 rfl (fun i hi => bif_t (blt_t hi)) (by show (bif Nat.blt _ _ then _ else _) = _; rw [blt_f (Nat.lt_irrefl _), Nat.sub_self]; rfl) (lst_app (n := n) rfl (fun i hi => bif_t (blt_t hi)) (by show (bif Nat.blt _ _ then _ else _) = _; rw [blt_f (Nat.lt_irrefl _), Nat.sub_self]; rfl))) | (rw [hst]; exact ble_arrv rfl fun i hi => met_add) | (rw [hst]; exact ble_grow (by simp)) | (show _ ≤ 1000; omega) | (exact fun i hi => ⟨rfl, rfl, rfl⟩) | (exact fun i hi => rfl) | (exact fun i hi => ⟨rfl, rfl⟩) | (show (wy (bq v W fr k).o k).length + 1 < 2147483648; omega) | (show ((wy (bq v W fr k).o k).length + 1) * 8 ≤ 140737488355328; omega) | (show k + 1 + ((bk v W fr k n).o.length - (k + 1)) = (bk v W fr k n).o.length; omega) | (show (bk v W fr k n).o.length - (k + 1) + 1 < 2147483648; omega) | (show ((bk v W fr k n).o.length - (k + 1) + 1) * 24 ≤ 140737488355328; omega) | (intro y hy; obtain rfl : y = 0 := (by omega); exact ⟨rfl, rfl⟩) | skip
        · rw [q1, q2] at hst
          simp only [Bool.not_false, Bool.true_and, cond_false] at hst
          repeat' first | (refine fun h => absurd (h.symm.trans q1') (by decide)) | (refine fun h => absurd (h.symm.trans q2) (by decide)) | (exact PLe.refl _) | (exact BLe.refl _) | (exact PLeL.nil) | (exact BLeL.nil) | (refine ⟨?_, ?_⟩) | (refine PLeL.cons ?_ ?_) | (refine BLeL.cons ?_ ?_) | (refine ple_int ?_) | (refine ple_bool ?_) | (refine ple_tt ?_) | (refine ple_ff ?_) | (refine PLe.aggL ?_) | (refine PLe.tupL ?_) | (refine BLe.cellsL ?_) | (refine next_rng (cn := cnt 35) rfl (fun _ => rfl) hlt_n trivial (.mk ?_ ?_)) | (refine fun h => absurd h (by decide)) | (refine fun (h : @Eq Bool _ _) => ?_)
          all_goals first | trivial | rfl | omega | (exact e_n) | (exact hix) | (exact Int.natCast_nonneg _) | (show (n : Int) < 10; omega) | (exact hLI) | (exact hLI.1) | (exact hLI.2) | (rw [hst]; exact PLe.refl _) | (rw [hst]; exact BLe.refl _) | skip
    · have h_n : n = W := by
        have : ¬ ((n : Int) < v.wl) := of_decide_eq_false h1
        omega
      clear h1
      subst h_n
      repeat' first | (exact PLe.refl _) | (exact BLe.refl _) | (exact PLeL.nil) | (exact BLeL.nil) | (refine ⟨?_, ?_⟩) | (refine PLeL.cons ?_ ?_) | (refine BLeL.cons ?_ ?_) | (refine ple_int ?_) | (refine ple_bool ?_) | (refine ple_tt ?_) | (refine ple_ff ?_) | (refine PLe.aggL ?_) | (refine PLe.tupL ?_) | (refine BLe.cellsL ?_) | (refine next_mu (cn := cnQ) (k + 1) rfl (show 100 - (k + 1) < 100 - k by omega) (by omega) (.mk ?_ ?_)) | (refine fun h => absurd h (by decide)) | (refine fun (h : @Eq Bool _ _) => ?_)
      all_goals first | trivial | rfl | omega | skip
end Go.Proofs.Ytnjhbmcambofgaa
