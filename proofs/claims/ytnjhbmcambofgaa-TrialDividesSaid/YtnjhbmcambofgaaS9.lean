/- Layer 4: lists of families; Curves and Drawdown of the program. -/
import Derived.Test.YtnjhbmcambofgaaS8
namespace Go.Proofs.Ytnjhbmcambofgaa
open Go.V
set_option linter.unusedSimpArgs false

def fam0 : Fam := ⟨0, 0, 0, 0, 0⟩
def getF (l : List Fam) : Nat → Fam := fun i => l.getD i fam0
def cntR (f : Fam) : Int := w (w (f.hi - f.lo) + 1)
def manyN (s : Nat → Fam) : Nat → Int
  | 0 => 0
  | k + 1 => w (manyN s k + cntR (s k))
def manyL (l : List Fam) : Int := manyN (getF l) l.length
def encL (g : Fam → Rng) : List Fam → Rng
  | [] => ⟨0, 0⟩
  | x :: l => encM g (getF (x :: l)) (l.length + 1)
theorem encL_pos {g : Fam → Rng} {l : List Fam} (h : 0 < l.length) : encL g l = encM g (getF l) l.length := by
  cases l with
  | nil => cases h
  | cons x l => rfl
theorem getF_old {l : List Fam} {y : Fam} {i : Nat} (h : i < l.length) : getF (l ++ [y]) i = getF l i := by
  simp [getF, List.getD, List.getElem?_append_left h]
theorem getF_new {l : List Fam} {y : Fam} : getF (l ++ [y]) l.length = y := by
  simp [getF, List.getD]
theorem manyN_congr {s s' : Nat → Fam} : ∀ n, (∀ i, i < n → s i = s' i) → manyN s n = manyN s' n
  | 0, _ => rfl
  | n + 1, h => by
    show w (manyN s n + _) = w (manyN s' n + _)
    rw [manyN_congr n fun i hi => h i (by omega), h n (by omega)]
theorem encM_congr {g : Fam → Rng} {s s' : Nat → Fam} (h0 : s 0 = s' 0) : ∀ n, (∀ i, i < n → s i = s' i) → encM g s n = encM g s' n
  | 0, _ => by show g _ = g _; rw [h0]
  | n + 1, h => by
    show span (encM g s n) _ = span (encM g s' n) _
    rw [encM_congr h0 n fun i hi => h i (by omega), h n (by omega)]
theorem manyL_snoc {l : List Fam} {x : Fam} : manyL (l ++ [x]) = w (manyL l + cntR x) := by
  unfold manyL
  rw [List.length_append]
  show w (manyN _ l.length + cntR _) = _
  rw [getF_new, manyN_congr l.length fun i hi => getF_old hi]
theorem span_self (r : Rng) : span r r = r := by
  simp [span, gmin, gmax]
theorem encL_one {g : Fam → Rng} {x : Fam} : encL g [x] = span (g x) (g x) := rfl
theorem encL_snoc {g : Fam → Rng} {l : List Fam} {x : Fam} (h : 0 < l.length) : encL g (l ++ [x]) = span (encL g l) (g x) := by
  rw [encL_pos h, encL_pos (by simp), List.length_append]
  show span (encM g _ l.length) (g _) = _
  rw [getF_new, encM_congr (getF_old h) l.length fun i hi => getF_old hi]
structure okF (x : Fam) : Prop where
  lo : 0 ≤ x.lo
  le : x.lo ≤ x.hi
  hi : x.hi ≤ 100000
theorem cutM_lo (f : Rng) (r : Nat → Rng) : ∀ n, f.lo ≤ (cutM f r n).lo
  | 0 => Int.le_refl _
  | n + 1 => Int.le_trans (cutM_lo f r n) (by show _ ≤ gmax _ _; unfold gmax; split <;> omega)
theorem cutM_hi (f : Rng) (r : Nat → Rng) : ∀ n, (cutM f r n).hi ≤ f.hi
  | 0 => Int.le_refl _
  | n + 1 => Int.le_trans (by show gmin _ _ ≤ _; unfold gmin; split <;> omega) (cutM_hi f r n)
theorem famM_ok {t : Tst} (h : okT t) {b c : Int} (hp : decide ((setM t b c).lo ≤ (setM t b c).hi) = true) : okF (famM t b c) :=
  ⟨Int.le_trans h.a.1 (cutM_lo _ _ _), of_decide_eq_true hp, Int.le_trans (cutM_hi _ _ _) h.a.2.2⟩
theorem addF_ok {t : Tst} (h : okT t) {b c : Int} {l : List Fam} (hl : ∀ x ∈ l, okF x) : ∀ x ∈ addF t b c l, okF x := by
  unfold addF
  cases hp : decide ((setM t b c).lo ≤ (setM t b c).hi)
  · exact hl
  · intro x hx
    rcases List.mem_append.1 hx with h1 | h1
    · exact hl x h1
    · rw [List.mem_singleton.1 h1]
      exact famM_ok h hp
theorem rowF_ok {t : Tst} (h : okT t) {b : Int} {l : List Fam} (hl : ∀ x ∈ l, okF x) : ∀ j, ∀ x ∈ rowF t b l j, okF x
  | 0 => hl
  | j + 1 => addF_ok h (rowF_ok h hl j)
theorem allF_ok {t : Tst} (h : okT t) : ∀ i, ∀ x ∈ allF t i, okF x
  | 0 => fun _ hx => by cases hx
  | i + 1 => rowF_ok h (allF_ok h i) _
theorem getF_ok {l : List Fam} (h : ∀ x ∈ l, okF x) {i : Nat} (hi : i < l.length) : okF (getF l i) := by
  unfold getF
  rw [List.getD, List.getElem?_eq_getElem hi]
  exact h _ (List.getElem_mem hi)
theorem ww {n : Int} (h1 : -9223372036854775808 ≤ n) (h2 : n < 9223372036854775808) : w n = n := w64 h1 (by omega)
theorem cntR_ok {f : Fam} (h : okF f) : cntR f = f.hi - f.lo + 1 := by
  have h1 := h.lo
  have h2 := h.le
  have h3 := h.hi
  unfold cntR
  rw [ww (n := f.hi - f.lo) (by omega) (by omega), ww (by omega) (by omega)]
theorem manyN_bd {s : Nat → Fam} : ∀ n, n ≤ 1640 → (∀ i, i < n → okF (s i)) → (n : Int) ≤ manyN s n ∧ manyN s n ≤ (n : Int) * 100001
  | 0, _, _ => by simp [manyN]
  | n + 1, hn, h => by
    have ⟨h1, h2⟩ := manyN_bd n (by omega) fun i hi => h i (by omega)
    have h3 := h n (by omega)
    have h4 := h3.lo
    have h5 := h3.le
    have h6 := h3.hi
    have e : manyN s (n + 1) = w (manyN s n + cntR (s n)) := rfl
    rw [e, cntR_ok h3, ww (by omega) (by omega)]
    omega
theorem manyL_bd {l : List Fam} (hn : l.length ≤ 1640) (h : ∀ x ∈ l, okF x) : (l.length : Int) ≤ manyL l ∧ manyL l ≤ (l.length : Int) * 100001 :=
  manyN_bd _ hn fun _ hi => getF_ok h hi
theorem manyL_zero {l : List Fam} (hn : l.length ≤ 1640) (h : ∀ x ∈ l, okF x) (hp : (manyL l == 0) = true) : l = [] := by
  have ⟨h1, _⟩ := manyL_bd hn h
  have h2 : manyL l = 0 := by simpa using hp
  exact List.length_eq_zero_iff.1 (by omega)
theorem manyL_one {l : List Fam} (hp : (manyL l == 0) = false) : 0 < l.length := by
  cases l with
  | nil => exact absurd hp (by decide)
  | cons => simp
def curvesS : V.Spec
  | [.agg [.int .i64 a1, .int .i64 a2, .int .i64 b1, .int .i64 b2, .int .i64 c1, .int .i64 c2, .slice none n get]] => (some (isL stpL n get), .tup [I (manyL (agrLst (tstOf a1 a2 b1 b2 c1 c2 n get) true)), encR (encL restsF (agrLst (tstOf a1 a2 b1 b2 c1 c2 n get) true)), encR (encL bF (agrLst (tstOf a1 a2 b1 b2 c1 c2 n get) true)), encR (encL cF (agrLst (tstOf a1 a2 b1 b2 c1 c2 n get) true)), I (agrE (tstOf a1 a2 b1 b2 c1 c2 n get) true)])
  | _ => bad
def flowB (q : Int) : Bool := decide (0 ≤ q ∧ q ≤ 1000)
def drawdownS : V.Spec
  | [.agg [.int .i64 a1, .int .i64 a2, .int .i64 b1, .int .i64 b2, .int .i64 c1, .int .i64 c2, .slice none n get], .int .i64 q] => (some (isL stpL n get), .tup [encR (encL (dropF q) (agrLst (tstOf a1 a2 b1 b2 c1 c2 n get) (flowB q))), I (agrE (tstOf a1 a2 b1 b2 c1 c2 n get) (flowB q))])
  | _ => bad
theorem agrE_no {t : Tst} {b : Bool} (h : (agrE t b != 0) = true) : agrLst t b = [] := by
  unfold agrLst
  have : (agrE t b == 0) = false := by simpa using h
  rw [this]
  rfl
theorem agrE_ok {t : Tst} {b : Bool} (h : (agrE t b != 0) = false) : okT t ∧ agrLst t b = famsM t ∧ 0 < (famsM t).length := by
  have h1 : agrE t b = 0 := by simpa using h
  have h2 : agrLst t b = famsM t := by
    unfold agrLst
    rw [h1]
    rfl
  unfold agrE at h1
  cases hp : (tfE t != 0)
  · refine ⟨tfE_ok (by simpa using hp), h2, ?_⟩
    rw [hp] at h1
    cases b
    · exact absurd (show (2 : Int) = 0 from h1) (by decide)
    · cases hq : (((famsM t).length : Int) == 0)
      · have : ¬ ((famsM t).length : Int) = 0 := by simpa using hq
        omega
      · rw [hq] at h1
        exact absurd (show (7 : Int) = 0 from h1) (by decide)
  · rw [hp] at h1
    exact absurd (by simpa using h1 : tfE t = 0) (by simpa using hp)
theorem agrL_len {t : Tst} {b : Bool} : (agrLst t b).length ≤ 1600 := by
  refine (Bool.eq_false_or_eq_true (agrE t b != 0)).elim (fun h => ?_) fun h => ?_
  · rw [agrE_no h]; simp
  · rw [(agrE_ok h).2.1]; exact famsM_len (agrE_ok h).1
theorem agrL_pos {t : Tst} {b : Bool} (h : (agrE t b != 0) = false) : 0 < (agrLst t b).length := by
  rw [(agrE_ok h).2.1]; exact (agrE_ok h).2.2
theorem isL_listG {l : List Fam} (h : l.length ≤ 1600) : isL famL l.length (listG l) := .mk (getF l) (by omega) rfl
set_option maxRecDepth 20000 in
set_option maxHeartbeats 1000000 in
theorem sf24 : SF Try.prog 24 curvesS := by
  refine sf_of types_ok mixed (l := [(72, agreeS), (73, countS), (74, enclS)]) ⟨sf72, sf73, sf74, trivial⟩ (es := []) trivial 1 Try.func24 rfl (by kernel_rfl) fun args h => ?_
  unfold curvesS at h
  split at h
  · rename_i a1 a2 b1 b2 c1 c2 n get
    have hL : isL stpL n get := h
    obtain ⟨hn, s, rfl⟩ := isL.get hL
    clear h
    refine ⟨rfl, ?_⟩
    show evalCode _ _ _ fun o => match o with
      | .normal st | .ret st => withP _ (_ ∧ PLe _ (.tup [I (manyL (agrLst (tstOf a1 a2 b1 b2 c1 c2 n fun i => stpL (s i)) true)), encR (encL restsF (agrLst (tstOf a1 a2 b1 b2 c1 c2 n fun i => stpL (s i)) true)), encR (encL bF (agrLst (tstOf a1 a2 b1 b2 c1 c2 n fun i => stpL (s i)) true)), encR (encL cF (agrLst (tstOf a1 a2 b1 b2 c1 c2 n fun i => stpL (s i)) true)), I (agrE (tstOf a1 a2 b1 b2 c1 c2 n fun i => stpL (s i)) true)]))
      | _ => False
    refine (Bool.eq_false_or_eq_true (agrE (tstOf a1 a2 b1 b2 c1 c2 n fun i => stpL (s i)) true != 0)).elim (fun p1 => ?_) fun p1 => ?_
    · rw [agrE_no p1]
      repeat' first | (exact PLe.refl _) | (exact BLe.refl _) | (exact PLeL.nil) | (exact BLeL.nil) | (refine ⟨?_, ?_⟩) | (refine PLeL.cons ?_ ?_) | (refine BLeL.cons ?_ ?_) | (refine ple_int ?_) | (refine ple_bool ?_) | (refine ple_tt ?_) | (refine ple_ff ?_) | (refine PLe.aggL ?_) | (refine PLe.tupL ?_) | (refine BLe.cellsL ?_) | (refine fun h => absurd h (by decide)) | (refine fun h => ?_; exfalso; simp only [p1, Int.toNat_natCast, Bool.cond_true_left, Bool.cond_false_right, Bool.cond_true_right, Bool.cond_false_left, cond_true, cond_false, Bool.not_true, Bool.not_false, Bool.not_not, Bool.and_true, Bool.true_and, Bool.and_false, Bool.false_and, Bool.or_true, Bool.true_or, Bool.or_false, Bool.false_or, beq_self_eq_true, bne_self_eq_false, Bool.true_eq_false, Bool.false_eq_true, reduceCtorEq, Bool.and_self, Bool.or_self, Int.reduceBEq, Int.reduceBNe, Int.reduceNeg, decide_true, decide_false, Int.reduceLT, Int.reduceLE, Int.reduceGT] at h; done) | (refine fun (h : @Eq Bool _ _) => ?_)
      all_goals first | trivial | rfl | omega | (exact hL) | (simp only [p1, Int.toNat_natCast, Bool.cond_true_left, Bool.cond_false_right, Bool.cond_true_right, Bool.cond_false_left, cond_true, cond_false, Bool.not_true, Bool.not_false, Bool.not_not, Bool.and_true, Bool.true_and, Bool.and_false, Bool.false_and, Bool.or_true, Bool.true_or, Bool.or_false, Bool.false_or, beq_self_eq_true, bne_self_eq_false, Bool.true_eq_false, Bool.false_eq_true, reduceCtorEq, Bool.and_self, Bool.or_self, Int.reduceBEq, Int.reduceBNe, Int.reduceNeg, decide_true, decide_false, Int.reduceLT, Int.reduceLE, Int.reduceGT]; done) | (show @Eq Bool _ _; simp only [p1, Int.toNat_natCast, Bool.cond_true_left, Bool.cond_false_right, Bool.cond_true_right, Bool.cond_false_left, cond_true, cond_false, Bool.not_true, Bool.not_false, Bool.not_not, Bool.and_true, Bool.true_and, Bool.and_false, Bool.false_and, Bool.or_true, Bool.true_or, Bool.or_false, Bool.false_or, beq_self_eq_true, bne_self_eq_false, Bool.true_eq_false, Bool.false_eq_true, reduceCtorEq, Bool.and_self, Bool.or_self, Int.reduceBEq, Int.reduceBNe, Int.reduceNeg, decide_true, decide_false, Int.reduceLT, Int.reduceLE, Int.reduceGT]; done) | skip
    · have hlen : (agrLst (tstOf a1 a2 b1 b2 c1 c2 n fun i => stpL (s i)) true).length ≤ 1600 := agrL_len
      have hpos : 0 < (agrLst (tstOf a1 a2 b1 b2 c1 c2 n fun i => stpL (s i)) true).length := agrL_pos p1
      have hG := isL_listG hlen
      have p1e : agrE (tstOf a1 a2 b1 b2 c1 c2 n fun i => stpL (s i)) true = 0 := by simpa using p1
      rw [encL_pos (g := restsF) hpos, encL_pos (g := bF) hpos, encL_pos (g := cF) hpos]
      repeat' first | (exact PLe.refl _) | (exact BLe.refl _) | (exact PLeL.nil) | (exact BLeL.nil) | (refine ⟨?_, ?_⟩) | (refine PLeL.cons ?_ ?_) | (refine BLeL.cons ?_ ?_) | (refine ple_int ?_) | (refine ple_bool ?_) | (refine ple_tt ?_) | (refine ple_ff ?_) | (refine PLe.aggL ?_) | (refine PLe.tupL ?_) | (refine BLe.cellsL ?_) | (refine halt_rng (cnt 23) (agrLst (tstOf a1 a2 b1 b2 c1 c2 n fun i => stpL (s i)) true).length [2, 3, 4, 5, 7, 21, 22, 23] [3, 4, 5] (fun m => [I (manyN (getF (agrLst (tstOf a1 a2 b1 b2 c1 c2 n fun i => stpL (s i)) true)) m), .ptr 3 0, .ptr 4 0, .ptr 5 0, .slice none (agrLst (tstOf a1 a2 b1 b2 c1 c2 n fun i => stpL (s i)) true).length (listG (agrLst (tstOf a1 a2 b1 b2 c1 c2 n fun i => stpL (s i)) true)), .slice none (agrLst (tstOf a1 a2 b1 b2 c1 c2 n fun i => stpL (s i)) true).length (listG (agrLst (tstOf a1 a2 b1 b2 c1 c2 n fun i => stpL (s i)) true)), I (agrLst (tstOf a1 a2 b1 b2 c1 c2 n fun i => stpL (s i)) true).length, I m]) (fun m => [.cells [I 0, I 0], .cells [I 0, I 0], .cells [I 0, I 0]]) (fun _ => True) rfl (.mk ?_ ?_) trivial ?_) | (refine fun h => absurd h (by decide)) | (refine fun h => ?_; exfalso; simp only [p1, Int.toNat_natCast, Bool.cond_true_left, Bool.cond_false_right, Bool.cond_true_right, Bool.cond_false_left, cond_true, cond_false, Bool.not_true, Bool.not_false, Bool.not_not, Bool.and_true, Bool.true_and, Bool.and_false, Bool.false_and, Bool.or_true, Bool.true_or, Bool.or_false, Bool.false_or, beq_self_eq_true, bne_self_eq_false, Bool.true_eq_false, Bool.false_eq_true, reduceCtorEq, Bool.and_self, Bool.or_self, Int.reduceBEq, Int.reduceBNe, Int.reduceNeg, decide_true, decide_false, Int.reduceLT, Int.reduceLE, Int.reduceGT] at h; done) | (refine fun (h : @Eq Bool _ _) => ?_)
      all_goals first | trivial | rfl | omega | (exact hL) | (simp only [p1, Int.toNat_natCast, Bool.cond_true_left, Bool.cond_false_right, Bool.cond_true_right, Bool.cond_false_left, cond_true, cond_false, Bool.not_true, Bool.not_false, Bool.not_not, Bool.and_true, Bool.true_and, Bool.and_false, Bool.false_and, Bool.or_true, Bool.true_or, Bool.or_false, Bool.false_or, beq_self_eq_true, bne_self_eq_false, Bool.true_eq_false, Bool.false_eq_true, reduceCtorEq, Bool.and_self, Bool.or_self, Int.reduceBEq, Int.reduceBNe, Int.reduceNeg, decide_true, decide_false, Int.reduceLT, Int.reduceLE, Int.reduceGT]; done) | (show @Eq Bool _ _; simp only [p1, Int.toNat_natCast, Bool.cond_true_left, Bool.cond_false_right, Bool.cond_true_right, Bool.cond_false_left, cond_true, cond_false, Bool.not_true, Bool.not_false, Bool.not_not, Bool.and_true, Bool.true_and, Bool.and_false, Bool.false_and, Bool.or_true, Bool.true_or, Bool.or_false, Bool.false_or, beq_self_eq_true, bne_self_eq_false, Bool.true_eq_false, Bool.false_eq_true, reduceCtorEq, Bool.and_self, Bool.or_self, Int.reduceBEq, Int.reduceBNe, Int.reduceNeg, decide_true, decide_false, Int.reduceLT, Int.reduceLE, Int.reduceGT]; done) | skip
      · intro m hm _
        refine ⟨fun h1 => ?_, fun h1 => ?_⟩
        · have hlt : m < (agrLst (tstOf a1 a2 b1 b2 c1 c2 n fun i => stpL (s i)) true).length := by simpa using h1
          have e1 := succ_w hlt (by omega)
          clear h1
          repeat' first | (exact PLe.refl _) | (exact BLe.refl _) | (exact PLeL.nil) | (exact BLeL.nil) | (refine ⟨?_, ?_⟩) | (refine PLeL.cons ?_ ?_) | (refine BLeL.cons ?_ ?_) | (refine ple_int ?_) | (refine ple_bool ?_) | (refine ple_tt ?_) | (refine ple_ff ?_) | (refine PLe.aggL ?_) | (refine PLe.tupL ?_) | (refine BLe.cellsL ?_) | (refine next_rng (cn := cnt 23) rfl (fun _ => rfl) hlt trivial (.mk ?_ ?_)) | (refine fun h => absurd h (by decide)) | (refine fun (h : @Eq Bool _ _) => ?_)
          all_goals first | trivial | rfl | omega | (exact e1) | skip
        · have hmn : m = (agrLst (tstOf a1 a2 b1 b2 c1 c2 n fun i => stpL (s i)) true).length := by
            have : ¬ ((m : Int) < (agrLst (tstOf a1 a2 b1 b2 c1 c2 n fun i => stpL (s i)) true).length) := of_decide_eq_false h1
            omega
          subst hmn
          clear h1
          repeat' first | (exact PLe.refl _) | (exact BLe.refl _) | (exact PLeL.nil) | (exact BLeL.nil) | (refine ⟨?_, ?_⟩) | (refine PLeL.cons ?_ ?_) | (refine BLeL.cons ?_ ?_) | (refine ple_int ?_) | (refine ple_bool ?_) | (refine ple_tt ?_) | (refine ple_ff ?_) | (refine PLe.aggL ?_) | (refine PLe.tupL ?_) | (refine BLe.cellsL ?_) | (refine fun h => absurd h (by decide)) | (refine fun (h : @Eq Bool _ _) => ?_)
          all_goals first | trivial | rfl | omega | (exact ⟨⟨hG, hpos⟩, .inl rfl⟩) | (exact ⟨⟨hG, hpos⟩, .inr (.inl rfl)⟩) | (exact ⟨⟨hG, hpos⟩, .inr (.inr rfl)⟩) | (exact hG) | (exact hpos) | (exact p1e.symm) | skip
  · exact h.elim
set_option maxRecDepth 20000 in
set_option maxHeartbeats 1000000 in
theorem sf28 : SF Try.prog 28 drawdownS := by
  refine sf_of types_ok mixed (l := [(72, agreeS), (80, isFlowS), (81, drawsS)]) ⟨sf72, sf80, sf81, trivial⟩ (es := []) trivial 2 Try.func28 rfl (by kernel_rfl) fun args h => ?_
  unfold drawdownS at h
  split at h
  · rename_i a1 a2 b1 b2 c1 c2 n get q
    have hL : isL stpL n get := h
    obtain ⟨hn, s, rfl⟩ := isL.get hL
    clear h
    refine ⟨rfl, ?_⟩
    show evalCode _ _ _ fun o => match o with
      | .normal st | .ret st => withP _ (_ ∧ PLe _ (.tup [encR (encL (dropF q) (agrLst (tstOf a1 a2 b1 b2 c1 c2 n fun i => stpL (s i)) (flowB q))), I (agrE (tstOf a1 a2 b1 b2 c1 c2 n fun i => stpL (s i)) (flowB q))]))
      | _ => False
    refine (Bool.eq_false_or_eq_true (agrE (tstOf a1 a2 b1 b2 c1 c2 n fun i => stpL (s i)) (flowB q) != 0)).elim (fun p1 => ?_) fun p1 => ?_
    · rw [agrE_no p1]
      have p1' : (agrE (tstOf a1 a2 b1 b2 c1 c2 n fun i => stpL (s i)) (decide (0 ≤ q ∧ q ≤ 1000)) != 0) = true := p1
      repeat' first | (exact PLe.refl _) | (exact BLe.refl _) | (exact PLeL.nil) | (exact BLeL.nil) | (refine ⟨?_, ?_⟩) | (refine PLeL.cons ?_ ?_) | (refine BLeL.cons ?_ ?_) | (refine ple_int ?_) | (refine ple_bool ?_) | (refine ple_tt ?_) | (refine ple_ff ?_) | (refine PLe.aggL ?_) | (refine PLe.tupL ?_) | (refine BLe.cellsL ?_) | (refine fun h => absurd h (by decide)) | (refine fun h => ?_; exfalso; simp only [p1', Int.toNat_natCast, Bool.cond_true_left, Bool.cond_false_right, Bool.cond_true_right, Bool.cond_false_left, cond_true, cond_false, Bool.not_true, Bool.not_false, Bool.not_not, Bool.and_true, Bool.true_and, Bool.and_false, Bool.false_and, Bool.or_true, Bool.true_or, Bool.or_false, Bool.false_or, beq_self_eq_true, bne_self_eq_false, Bool.true_eq_false, Bool.false_eq_true, reduceCtorEq, Bool.and_self, Bool.or_self, Int.reduceBEq, Int.reduceBNe, Int.reduceNeg, decide_true, decide_false, Int.reduceLT, Int.reduceLE, Int.reduceGT] at h; done) | (refine fun (h : @Eq Bool _ _) => ?_)
      all_goals first | trivial | rfl | omega | (exact hL) | (simp only [p1', Int.toNat_natCast, Bool.cond_true_left, Bool.cond_false_right, Bool.cond_true_right, Bool.cond_false_left, cond_true, cond_false, Bool.not_true, Bool.not_false, Bool.not_not, Bool.and_true, Bool.true_and, Bool.and_false, Bool.false_and, Bool.or_true, Bool.true_or, Bool.or_false, Bool.false_or, beq_self_eq_true, bne_self_eq_false, Bool.true_eq_false, Bool.false_eq_true, reduceCtorEq, Bool.and_self, Bool.or_self, Int.reduceBEq, Int.reduceBNe, Int.reduceNeg, decide_true, decide_false, Int.reduceLT, Int.reduceLE, Int.reduceGT]; done) | (show @Eq Bool _ _; simp only [p1', Int.toNat_natCast, Bool.cond_true_left, Bool.cond_false_right, Bool.cond_true_right, Bool.cond_false_left, cond_true, cond_false, Bool.not_true, Bool.not_false, Bool.not_not, Bool.and_true, Bool.true_and, Bool.and_false, Bool.false_and, Bool.or_true, Bool.true_or, Bool.or_false, Bool.false_or, beq_self_eq_true, bne_self_eq_false, Bool.true_eq_false, Bool.false_eq_true, reduceCtorEq, Bool.and_self, Bool.or_self, Int.reduceBEq, Int.reduceBNe, Int.reduceNeg, decide_true, decide_false, Int.reduceLT, Int.reduceLE, Int.reduceGT]; done) | skip
    · have hlen : (agrLst (tstOf a1 a2 b1 b2 c1 c2 n fun i => stpL (s i)) (flowB q)).length ≤ 1600 := agrL_len
      have hpos : 0 < (agrLst (tstOf a1 a2 b1 b2 c1 c2 n fun i => stpL (s i)) (flowB q)).length := agrL_pos p1
      have hG := isL_listG hlen
      have p1' : (agrE (tstOf a1 a2 b1 b2 c1 c2 n fun i => stpL (s i)) (decide (0 ≤ q ∧ q ≤ 1000)) != 0) = false := p1
      have p1e : agrE (tstOf a1 a2 b1 b2 c1 c2 n fun i => stpL (s i)) (flowB q) = 0 := by simpa using p1
      rw [encL_pos hpos, p1e]
      repeat' first | (exact PLe.refl _) | (exact BLe.refl _) | (exact PLeL.nil) | (exact BLeL.nil) | (refine ⟨?_, ?_⟩) | (refine PLeL.cons ?_ ?_) | (refine BLeL.cons ?_ ?_) | (refine ple_int ?_) | (refine ple_bool ?_) | (refine ple_tt ?_) | (refine ple_ff ?_) | (refine PLe.aggL ?_) | (refine PLe.tupL ?_) | (refine BLe.cellsL ?_) | (refine fun h => absurd h (by decide)) | (refine fun h => ?_; exfalso; simp only [p1', Int.toNat_natCast, Bool.cond_true_left, Bool.cond_false_right, Bool.cond_true_right, Bool.cond_false_left, cond_true, cond_false, Bool.not_true, Bool.not_false, Bool.not_not, Bool.and_true, Bool.true_and, Bool.and_false, Bool.false_and, Bool.or_true, Bool.true_or, Bool.or_false, Bool.false_or, beq_self_eq_true, bne_self_eq_false, Bool.true_eq_false, Bool.false_eq_true, reduceCtorEq, Bool.and_self, Bool.or_self, Int.reduceBEq, Int.reduceBNe, Int.reduceNeg, decide_true, decide_false, Int.reduceLT, Int.reduceLE, Int.reduceGT] at h; done) | (refine fun (h : @Eq Bool _ _) => ?_)
      all_goals first | trivial | rfl | omega | (exact hL) | (exact ⟨hG, hpos⟩) | (exact hG) | (exact hpos) | (simp only [p1', Int.toNat_natCast, Bool.cond_true_left, Bool.cond_false_right, Bool.cond_true_right, Bool.cond_false_left, cond_true, cond_false, Bool.not_true, Bool.not_false, Bool.not_not, Bool.and_true, Bool.true_and, Bool.and_false, Bool.false_and, Bool.or_true, Bool.true_or, Bool.or_false, Bool.false_or, beq_self_eq_true, bne_self_eq_false, Bool.true_eq_false, Bool.false_eq_true, reduceCtorEq, Bool.and_self, Bool.or_self, Int.reduceBEq, Int.reduceBNe, Int.reduceNeg, decide_true, decide_false, Int.reduceLT, Int.reduceLE, Int.reduceGT]; done) | (show @Eq Bool _ _; simp only [p1', Int.toNat_natCast, Bool.cond_true_left, Bool.cond_false_right, Bool.cond_true_right, Bool.cond_false_left, cond_true, cond_false, Bool.not_true, Bool.not_false, Bool.not_not, Bool.and_true, Bool.true_and, Bool.and_false, Bool.false_and, Bool.or_true, Bool.true_or, Bool.or_false, Bool.false_or, beq_self_eq_true, bne_self_eq_false, Bool.true_eq_false, Bool.false_eq_true, reduceCtorEq, Bool.and_self, Bool.or_self, Int.reduceBEq, Int.reduceBNe, Int.reduceNeg, decide_true, decide_false, Int.reduceLT, Int.reduceLE, Int.reduceGT]; done) | skip
  · exact h.elim
end Go.Proofs.Ytnjhbmcambofgaa
