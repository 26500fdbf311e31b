/- Layer 4: choosing wells one by one; Plan. -/
import Derived.Test.YtnjhbmcambofgaaS17
namespace Go.V
theorem ble_stk {v v' l l' e s : Nat} {g : Nat → List PV} (hv : v = v') (h : l = l') : BLe (.stk v l e s g) (.stk v' l' e s g) := by subst h; subst hv; exact .refl _
theorem ple_stk {s v v' l l' : Nat} (hv : v = v') (h : l = l') : PLe (.stk s v l) (.stk s v' l') := by subst h; subst hv; exact .refl _
def MInvO {α : Type} (live : List Nat) (vals : α → List PV) (bls : α → List (Nat × Blk)) (Q : α → Prop) (st : St) : Prop := ∃ m, Q m ∧ st = mkSt (live.zip (vals m)) (bls m)
theorem halt_muO {C : Ctx} {α : Type} {a : Code} {st : St} {k : Out → Prop} (off : Nat) (cn : St → Nat) (live keep : List Nat) (vals : α → List PV) (bls : α → List (Nat × Blk)) (Q : α → Prop) (m0 : α) (hoff : C.off = off)
    (h1 : HeadO off live keep st (vals m0) (bls m0)) (h3 : Q m0)
    (step : ∀ m, Q m → evalCode C a (mkSt (live.zip (vals m)) (bls m)) fun o => match o with
      | .normal st' => Halt (∃ st1, SLe (clean C.off live keep st') st1 ∧ MInvO live vals bls Q st1 ∧ cn st1 < cn (mkSt (live.zip (vals m)) (bls m)))
      | o => k o) :
    Halt (∃ (live keep : List Nat) (Inv : St → Prop) (μ : St → Nat), (∃ st1, SLe (clean C.off live keep st) st1 ∧ Inv st1) ∧
      ∀ st, Inv st → evalCode C a st fun o => match o with | .normal st' => Halt (∃ st1, SLe (clean C.off live keep st') st1 ∧ Inv st1 ∧ μ st1 < μ st) | o => k o) := by
  refine .mk ⟨live, keep, MInvO live vals bls Q, cn, ?_, ?_⟩
  · obtain ⟨g1, g2⟩ := h1
    rw [hoff]
    exact ⟨_, sle_headK off keep _ _ g1 g2, m0, h3, rfl⟩
  · rintro st ⟨m, hq, rfl⟩
    exact step m hq
theorem next_muO {off off' : Nat} {α : Type} {cn : St → Nat} {m : α} {live keep : List Nat} {vals : α → List PV} {bls : α → List (Nat × Blk)} {Q : α → Prop} {st' : St} (m' : α) (hoff : off' = off)
    (hlt : cn (mkSt (live.zip (vals m')) (bls m')) < cn (mkSt (live.zip (vals m)) (bls m))) (hq : Q m') (h : HeadO off live keep st' (vals m') (bls m')) :
    Halt (∃ st1, SLe (clean off' live keep st') st1 ∧ MInvO live vals bls Q st1 ∧ cn st1 < cn (mkSt (live.zip (vals m)) (bls m))) := by
  obtain ⟨g1, g2⟩ := h
  rw [hoff]
  exact .mk ⟨_, sle_headK off keep _ _ g1 g2, ⟨m', hq, rfl⟩, hlt⟩
def EN (f g : Nat → Blk) : List Nat → Prop
  | [] => True
  | n :: ns => f n = g n ∧ EN f g ns
theorem en_all {f g : Nat → Blk} : ∀ (ns : List Nat), EN f g ns → (∀ s, Off s ns → f s = g s) → ∀ s, f s = g s
  | [], _, h, s => h s trivial
  | n :: ns, ⟨h1, h2⟩, h, s => en_all ns h2 (fun s hs => by
      by_cases e : s = n
      · subst e; exact h1
      · exact h s ⟨e, hs⟩) s
end Go.V
namespace Go.Proofs.Ytnjhbmcambofgaa
open Go.V
set_option linter.unusedSimpArgs false
set_option linter.unusedVariables false

/-- A plan that grows and shrinks: its length, its numbers, the version. -/
structure PS where
  k : Nat
  g : Nat → List PV
  v : Nat
def pushP (p : PS) (q : Int) : PS := ⟨p.k + 1, fun i => bif Nat.blt i p.k then p.g i else ((([I q] : List PV).map toView).drop ((i - p.k) * 1)).take 1, p.v + 1⟩
def popP (p : PS) : PS := ⟨p.k - 1, p.g, p.v + 1⟩
def loopP (f : Int → PS → Bool × PS) : Nat → Int → PS → Bool × PS
  | 0, _, p => (false, p)
  | n + 1, q, p => bif (f (q + 1) (pushP p q)).1 then (true, (f (q + 1) (pushP p q)).2) else loopP f n (q + 1) (popP (f (q + 1) (pushP p q)).2)
def chooseP (W : Int) (N : Nat) (rows : Nat → List PV) : Nat → Int → PS → Bool × PS
  | 0, _, p => (decB N rows p.k p.g, p)
  | m + 1, q, p => loopP (chooseP W N rows m) (W - (m + 1) - q + 1).toNat q p
/-- Its numbers are wells. -/
def okPS (N : Nat) (p : PS) : Prop := ∀ i, i < p.k → ∃ x : Int, p.g i = intL x ∧ 0 ≤ x ∧ x < N
theorem okPS_push {N : Nat} {p : PS} {q : Int} (h : okPS N p) (h0 : 0 ≤ q) (h1 : q < N) : okPS N (pushP p q) := by
  intro i hi
  by_cases hk : i < p.k
  · obtain ⟨x, hx⟩ := h i hk
    refine ⟨x, ?_, hx.2⟩
    show (bif Nat.blt i p.k then p.g i else _) = _
    rw [blt_t hk]; exact hx.1
  · have hi : i < p.k + 1 := hi
    obtain rfl : i = p.k := by omega
    refine ⟨q, ?_, h0, h1⟩
    show (bif Nat.blt p.k p.k then p.g p.k else _) = _
    rw [blt_f hk, Nat.sub_self]; rfl
theorem okPS_pop {N : Nat} {p : PS} (h : okPS N p) : okPS N (popP p) := fun i hi => h i (by have hi : i < p.k - 1 := hi; omega)
theorem loopP_ok {N m : Nat} {f : Int → PS → Bool × PS} (W : Int) (hW : W ≤ N)
    (hf : ∀ q p, 0 ≤ q → okPS N p → okPS N (f q p).2 ∧ (f q p).2.k ≤ p.k + m ∧ ((f q p).1 = false → (f q p).2.k = p.k)) :
    ∀ (n : Nat) (q : Int) (p : PS), 0 ≤ q → q + n ≤ W → okPS N p → okPS N (loopP f n q p).2 ∧ (loopP f n q p).2.k ≤ p.k + (m + 1) ∧ ((loopP f n q p).1 = false → (loopP f n q p).2.k = p.k)
  | 0, q, p, _, _, h => ⟨h, by show p.k ≤ _; omega, fun _ => rfl⟩
  | n + 1, q, p, hq, hn, h => by
    have h1 := hf (q + 1) (pushP p q) (by omega) (okPS_push h hq (by omega))
    unfold loopP
    cases hb : (f (q + 1) (pushP p q)).1 with
    | true =>
      refine ⟨h1.1, ?_, fun h => by cases h⟩
      have := h1.2.1
      show (f (q + 1) (pushP p q)).2.k ≤ _
      have e : (pushP p q).k = p.k + 1 := rfl
      omega
    | false =>
      have h2 := loopP_ok W hW hf n (q + 1) (popP (f (q + 1) (pushP p q)).2) (by omega) (by omega) (okPS_pop h1.1)
      have e : (popP (f (q + 1) (pushP p q)).2).k = p.k := by
        show (f (q + 1) (pushP p q)).2.k - 1 = p.k
        rw [h1.2.2 hb]
        show p.k + 1 - 1 = p.k
        omega
      rw [e] at h2
      exact h2
theorem chooseP_ok {W : Int} {N : Nat} {rows : Nat → List PV} (hW : W ≤ N) : ∀ m q p, 0 ≤ q → okPS N p → okPS N (chooseP W N rows m q p).2 ∧ (chooseP W N rows m q p).2.k ≤ p.k + m ∧ ((chooseP W N rows m q p).1 = false → (chooseP W N rows m q p).2.k = p.k)
  | 0, q, p, _, h => ⟨h, Nat.le_refl _, fun _ => rfl⟩
  | m + 1, q, p, hq, h => by
    unfold chooseP
    by_cases hc : 0 ≤ W - (m + 1) - q + 1
    · exact loopP_ok (m := m) W hW (fun q p hq h => chooseP_ok hW m q p hq h) _ q p hq (by omega) h
    · have : (W - (m + 1) - q + 1).toNat = 0 := by omega
      rw [this]
      exact ⟨h, by show p.k ≤ _; omega, fun _ => rfl⟩
theorem firstN_congr {f g : Nat → Bool} : ∀ {n : Nat}, (∀ i, i < n → f i = g i) → firstN f n = firstN g n
  | 0, _ => rfl
  | n + 1, h => by
    simp only [firstN, firstN_congr fun i hi => h i (Nat.lt_succ_of_lt hi), h n (Nat.lt_succ_self n)]
theorem pulB_congr {rows : Nat → List PV} {k : Nat} {g g' : Nat → List PV} (h : ∀ i, i < k → g i = g' i) (q : Nat) : pulB rows k g q = pulB rows k g' q := by
  unfold pulB
  exact firstN_congr fun i hi => by rw [h i hi]
theorem decB_congr {N : Nat} {rows : Nat → List PV} {k : Nat} {g g' : Nat → List PV} (h : ∀ i, i < k → g i = g' i) : decB N rows k g = decB N rows k g' := by
  unfold decB
  congr 1
  funext a
  unfold rowB
  congr 1
  funext b
  unfold cellB
  rw [pulB_congr h, pulB_congr h]
inductive okGet (N k : Nat) (g : Nat → List PV) : Prop
  | mk (hk : k ≤ 1000) (h : ∀ i, i < k → ∃ x : Int, g i = intL x ∧ 0 ≤ x ∧ x < N)
  | no (h : False)
def decS2 : V.Spec
  | [.slice none N rows, .slice none k get] => (some (okGet N k get ∧ isR N rows), .bool (decB N rows k get))
  | _ => bad
theorem sf107b : SF Try.prog 107 decS2 := by
  refine sf_args sf107 fun args h => ?_
  unfold decS2 at h ⊢
  split at h
  · rename_i N rows k get
    obtain ⟨hg, hR⟩ : okGet N k get ∧ isR N rows := h
    cases hg with
    | no h => exact h.elim
    | mk hk hg =>
    obtain ⟨f, hf⟩ : ∃ f : Nat → Int, ∀ i, i < k → get i = intL (f i) ∧ 0 ≤ f i ∧ f i < N := ⟨fun i => if h : i < k then Classical.choose (hg i h) else 0, fun i h => by simp only [dif_pos h]; exact Classical.choose_spec (hg i h)⟩
    refine ⟨[.slice none N rows, .slice none k fun i => intL (f i)], rfl, ?_, ?_, ?_⟩
    · intro i hi
      match i, hi with
      | 0, _ => exact .refl _
      | 1, _ => exact .slice _ _ _ _ fun i hi => (hf i hi).1
    · exact ⟨⟨.mk f (by omega) rfl, fun i hi => (hf i hi).2⟩, hR⟩
    · exact congrArg PV.bool (decB_congr fun i hi => ((hf i hi).1).symm)
  · exact h.elim

def E106 : Nat → Eff
  | 0 => fun _ _ _ => False
  | m + 1 => fun args bl k => args.length = 6 ∧ effBody ⟨types, [(107, decS2)], [(106, 100, E106 m)], 100, false, [], [], [], none, false, [], [], []⟩ (Try.f106.body.getD .skip) Try.f106.results.toList args bl k
theorem se106 : ∀ m, SE Try.prog 106 100 (E106 m)
  | 0 => ⟨fun _ _ _ h => h.elim, ⟨_, _, Try.func106, by kernel_rfl, rfl⟩⟩
  | m + 1 => se_gen types_ok mixed (l := [(107, decS2)]) ⟨sf107b, trivial⟩ (es := [(106, 100, E106 m)]) ⟨se106 m, trivial⟩ (its := []) trivial (fr := []) trivial [] [] 100 6 Try.func106 rfl (by kernel_rfl)
def BLP (wl lv : Int) (n : Nat) (gt : Nat → List PV) (N : Nat) (rows : Nat → List PV) (p : PS) : List (Nat × Blk) :=
  [(1, .cells [I wl, I lv, .slice none n gt]), (4, .cells [.slice none N rows]), (6, .cells [.stk 60 p.v p.k]), (7, .cells [.fn (.func 106) [] [.ptr 4 0, .ptr 6 0, .ptr 1 0, .ptr 7 0]]), (60, .stk p.v p.k 3 1 p.g)]
def BFP (wl lv : Int) (n : Nat) (gt : Nat → List PV) (N : Nat) (rows : Nat → List PV) (p : PS) : Nat → Blk := fun s => (V.look (BLP wl lv n gt N rows p) s).getD .none
theorem bfp_none (wl lv : Int) (n : Nat) (gt : Nat → List PV) (N : Nat) (rows : Nat → List PV) (p : PS) {s : Nat} (h : Off s [1, 4, 6, 7, 60]) : BFP wl lv n gt N rows p s = .none := by
  obtain ⟨n1, n4, n6, n7, n60, _⟩ := h
  exact look_none n1 (look_none n4 (look_none n6 (look_none n7 (look_none n60 rfl))))
theorem bfp_cut (wl lv : Int) (n : Nat) (gt : Nat → List PV) (N : Nat) (rows : Nat → List PV) (p : PS) : ∀ s, (bif Nat.blt s 100 then pruneB (fun s => Nat.blt s 100) (BFP wl lv n gt N rows p s) else .none) = BFP wl lv n gt N rows p s :=
  en_all (g := BFP wl lv n gt N rows p) (f := fun s => bif Nat.blt s 100 then pruneB (fun s => Nat.blt s 100) (BFP wl lv n gt N rows p s) else .none) [1, 4, 6, 7, 60] ⟨rfl, rfl, rfl, rfl, rfl, trivial⟩ fun s h => by
    rw [bfp_none wl lv n gt N rows p h]
    cases Nat.blt s 100 <;> rfl
theorem bfp_head (wl lv : Int) (n : Nat) (gt : Nat → List PV) (N : Nat) (rows : Nat → List PV) (p : PS) : ∀ s, BLe (bif keepQ 100 [] s then pruneB (keepQ 100 []) (BFP wl lv n gt N rows p s) else .none) ((V.look (BLP wl lv n gt N rows p) s).getD .none) :=
  bn_all [1, 4, 6, 7, 60] ⟨.refl _, .refl _, .refl _, .refl _, .refl _, trivial⟩ fun s h => by
    have e := bfp_none wl lv n gt N rows p h
    refine ble_none ?_ e
    rw [e]
    cases keepQ 100 [] s <;> rfl
theorem bfp_push (wl lv : Int) (n : Nat) (gt : Nat → List PV) (N : Nat) (rows : Nat → List PV) (p : PS) (q : Int) : ∀ s, upd (upd (BFP wl lv n gt N rows p) 60 (.stk (pushP p q).v (pushP p q).k 3 1 (pushP p q).g)) 6 (.cells [.stk 60 (pushP p q).v (pushP p q).k]) s = BFP wl lv n gt N rows (pushP p q) s :=
  en_all [1, 4, 6, 7, 60] ⟨rfl, rfl, rfl, rfl, rfl, trivial⟩ fun s h => by
    have e := bfp_none wl lv n gt N rows p h
    have e2 := bfp_none wl lv n gt N rows (pushP p q) h
    obtain ⟨n1, n4, n6, n7, n60, _⟩ := h
    rw [e2]
    exact upd_none n6 (upd_none n60 e)
theorem bfp_pop (wl lv : Int) (n : Nat) (gt : Nat → List PV) (N : Nat) (rows : Nat → List PV) (p : PS) {l : Nat} (hl : l = p.k - 1) : ∀ s, upd (upd (BFP wl lv n gt N rows p) 60 (.stk (p.v + 1) l 3 1 p.g)) 6 (.cells [.stk 60 (p.v + 1) l]) s = BFP wl lv n gt N rows (popP p) s := by
  subst hl
  refine en_all [1, 4, 6, 7, 60] ⟨rfl, rfl, rfl, rfl, rfl, trivial⟩ fun s h => ?_
  have e := bfp_none wl lv n gt N rows p h
  have e2 := bfp_none wl lv n gt N rows (popP p) h
  obtain ⟨n1, n4, n6, n7, n60, _⟩ := h
  rw [e2]
  exact upd_none n6 (upd_none n60 e)
theorem bfp_popH (wl lv : Int) (n : Nat) (gt : Nat → List PV) (N : Nat) (rows : Nat → List PV) (p : PS) {l : Nat} (hl : l = p.k - 1) : ∀ s, BLe (bif keepQ 100 [] s then pruneB (keepQ 100 []) (upd (upd (BFP wl lv n gt N rows p) 60 (.stk (p.v + 1) l 3 1 p.g)) 6 (.cells [.stk 60 (p.v + 1) l]) s) else .none) ((V.look (BLP wl lv n gt N rows (popP p)) s).getD .none) := by
  rw [funext (bfp_pop wl lv n gt N rows p hl)]
  exact bfp_head wl lv n gt N rows (popP p)
def isBv (v : PV) (b : Bool) : Prop := v = .bool b ∨ (b = true ∧ v = .tt) ∨ (b = false ∧ v = .ff)
def cnD (c : Nat) (st : St) : Nat :=
  match st.slots c with
  | .int _ k => (5000 - k).toNat
  | _ => 0
set_option maxRecDepth 20000 in
set_option maxHeartbeats 2000000 in
theorem eff106 (wl lv : Int) (n : Nat) (gt : Nat → List PV) (N : Nat) (rows : Nat → List PV) (hR : isR N rows) (hN : N ≤ 10) (hW : wl ≤ N) (hW0 : 0 ≤ wl) :
    ∀ (m j : Nat) (hj : m < j) (a c q : Int) (p : PS) (bl : Nat → Blk) (K : PV → (Nat → Blk) → Prop) (ha : a = q) (hc : c = (m : Int)) (hq : 0 ≤ q) (hq2 : q ≤ 1000) (hm : m ≤ 100) (hp : okPS N p) (hpk : p.k + m ≤ 200)
      (hb : ∀ s, bl s = BFP wl lv n gt N rows p s) (hK : ∀ v bl', isBv v (chooseP wl N rows m q p).1 → (∀ s, bl' s = BFP wl lv n gt N rows (chooseP wl N rows m q p).2 s) → K v bl'),
      E106 j [.int .i64 a, .int .i64 c, .ptr 4 0, .ptr 6 0, .ptr 1 0, .ptr 7 0] bl K := by
  intro m
  induction m with
  | zero =>
    intro j hj a c q p bl K ha hc hq hq2 hm hp hpk hb hK
    obtain ⟨j, rfl⟩ : ∃ i, j = i + 1 := ⟨j - 1, by omega⟩
    obtain rfl := funext hb
    have hc : c = 0 := hc
    subst hc
    clear hb
    refine ⟨rfl, ?_⟩
    repeat' first | (exact PLe.refl _) | (exact BLe.refl _) | (exact PLeL.nil) | (exact BLeL.nil) | (refine ⟨?_, ?_⟩) | (refine PLeL.cons ?_ ?_) | (refine BLeL.cons ?_ ?_) | (refine ple_int ?_) | (refine ple_bool ?_) | (refine ple_tt ?_) | (refine ple_ff ?_) | (refine PLe.aggL ?_) | (refine PLe.tupL ?_) | (refine BLe.cellsL ?_) | (refine fun h => absurd h (by decide)) | (refine fun (h : @Eq Bool _ _) => ?_)
    all_goals first | trivial | rfl | omega | (exact hR) | (exact .mk (by omega) hp) | (exact ⟨.mk (by omega) hp, hR⟩) | skip
    exact hK _ _ (.inl rfl) (bfp_cut wl lv n gt N rows p)
  | succ m ih =>
    intro j hj a c q p bl K ha hc hq hq2 hm hp hpk hb hK
    obtain ⟨j, rfl⟩ : ∃ i, j = i + 1 := ⟨j - 1, by omega⟩
    obtain rfl := funext hb
    clear hb
    subst ha
    have d0 : (c == 0) = false := by rw [beq_eq_false_iff_ne]; omega
    have p0 : p.k = p.k := rfl
    generalize hr : chooseP wl N rows (m + 1) a p = r at hK
    have hr : loopP (chooseP wl N rows m) (wl - (m + 1) - a + 1).toNat a p = r := hr
    refine ⟨rfl, ?_⟩
    repeat' first | (exact PLe.refl _) | (exact BLe.refl _) | (exact PLeL.nil) | (exact BLeL.nil) | (refine ⟨?_, ?_⟩) | (refine PLeL.cons ?_ ?_) | (refine BLeL.cons ?_ ?_) | (refine ple_int ?_) | (refine ple_bool ?_) | (refine ple_tt ?_) | (refine ple_ff ?_) | (refine PLe.aggL ?_) | (refine PLe.tupL ?_) | (refine BLe.cellsL ?_) | (refine halt_muO (α := Int × PS) 100 (cnD 9) [1, 2, 3, 4, 5, 9] [] (fun x => [I c, .ptr 4 0, .ptr 6 0, .ptr 1 0, .ptr 7 0, I x.1]) (fun x => BLP wl lv n gt N rows x.2) (fun x => 0 ≤ x.1 ∧ x.1 ≤ 1000 ∧ okPS N x.2 ∧ x.2.k = p.k ∧ loopP (chooseP wl N rows m) (wl - (m + 1) - x.1 + 1).toNat x.1 x.2 = r) (a, p) rfl (.mk ?_ ?_) ?_ ?_) | (refine fun h => absurd h (by decide)) | (refine fun h => ?_; exfalso; simp only [d0, Int.toNat_natCast, Bool.cond_true_left, Bool.cond_false_right, Bool.cond_true_right, Bool.cond_false_left, cond_true, cond_false, Bool.not_true, Bool.not_false, Bool.not_not, Bool.and_true, Bool.true_and, Bool.and_false, Bool.false_and, Bool.or_true, Bool.true_or, Bool.or_false, Bool.false_or, beq_self_eq_true, bne_self_eq_false, Bool.true_eq_false, Bool.false_eq_true, reduceCtorEq, Bool.and_self, Bool.or_self, Int.reduceBEq, Int.reduceBNe, Int.reduceNeg, decide_true, decide_false, Int.reduceLT, Int.reduceLE, Int.reduceGT] at h; done) | (refine fun (h : @Eq Bool _ _) => ?_)
    all_goals first | trivial | rfl | omega | (exact bfp_head wl lv n gt N rows p) | (exact ⟨hq, hq2, hp, rfl, hr⟩) | (simp only [d0, Int.toNat_natCast, Bool.cond_true_left, Bool.cond_false_right, Bool.cond_true_right, Bool.cond_false_left, cond_true, cond_false, Bool.not_true, Bool.not_false, Bool.not_not, Bool.and_true, Bool.true_and, Bool.and_false, Bool.false_and, Bool.or_true, Bool.true_or, Bool.or_false, Bool.false_or, beq_self_eq_true, bne_self_eq_false, Bool.true_eq_false, Bool.false_eq_true, reduceCtorEq, Bool.and_self, Bool.or_self, Int.reduceBEq, Int.reduceBNe, Int.reduceNeg, decide_true, decide_false, Int.reduceLT, Int.reduceLE, Int.reduceGT]; done) | (show @Eq Bool _ _; simp only [d0, Int.toNat_natCast, Bool.cond_true_left, Bool.cond_false_right, Bool.cond_true_right, Bool.cond_false_left, cond_true, cond_false, Bool.not_true, Bool.not_false, Bool.not_not, Bool.and_true, Bool.true_and, Bool.and_false, Bool.false_and, Bool.or_true, Bool.true_or, Bool.or_false, Bool.false_or, beq_self_eq_true, bne_self_eq_false, Bool.true_eq_false, Bool.false_eq_true, reduceCtorEq, Bool.and_self, Bool.or_self, Int.reduceBEq, Int.reduceBNe, Int.reduceNeg, decide_true, decide_false, Int.reduceLT, Int.reduceLE, Int.reduceGT]; done) | skip
    · intro x hx
      obtain ⟨h1, h2, h3, h4, h5⟩ := hx
      refine ⟨fun g => ?_, fun g => ?_⟩
      · have g : w (x.1 + c) ≤ wl := of_decide_eq_true g
        have ew : w (x.1 + c) = x.1 + c := w64 (by omega) (by omega)
        rw [ew] at g
        have eN : (wl - (m + 1) - x.1 + 1).toNat = (wl - (m + 1) - (x.1 + 1) + 1).toNat + 1 := by omega
        rw [eN] at h5
        unfold loopP at h5
        have hc2 := chooseP_ok (rows := rows) hW m (x.1 + 1) (pushP x.2 x.1) (by omega) (okPS_push h3 h1 (by omega))
        have e1 : w (x.1 + 1) = x.1 + 1 := w64 (by omega) (by omega)
        have e2 : w (c - 1) = (m : Int) := (w64 (n := c - 1) (by omega) (by omega)).trans (by omega)
        generalize hcp : chooseP wl N rows m (x.1 + 1) (pushP x.2 x.1) = r2 at h5 hc2
        obtain ⟨k1, k2, k3⟩ := hc2
        have k2 : r2.2.k ≤ x.2.k + 1 + m := k2
        repeat' first | (exact PLe.refl _) | (exact BLe.refl _) | (exact PLeL.nil) | (exact BLeL.nil) | (refine ⟨?_, ?_⟩) | (refine PLeL.cons ?_ ?_) | (refine BLeL.cons ?_ ?_) | (refine ple_int ?_) | (refine ple_bool ?_) | (refine ple_tt ?_) | (refine ple_ff ?_) | (refine PLe.aggL ?_) | (refine PLe.tupL ?_) | (refine BLe.cellsL ?_) | (refine ih j (by omega) _ _ (x.1 + 1) (pushP x.2 x.1) _ _ ?_ ?_ (by omega) (by omega) (by omega) (okPS_push h3 h1 (by omega)) ?_ ?_ ?_) | (refine fun h => absurd h (by decide)) | (refine fun (h : @Eq Bool _ _) => ?_)
        all_goals first | trivial | rfl | omega | (exact e1) | (exact e2) | (exact bfp_push wl lv n gt N rows x.2 x.1) | (show x.2.k + 1 + m ≤ 200; omega) | (show (x.2.k + 1) * 8 ≤ 140737488355328; omega) | (show x.2.k + 1 < 2147483648; omega) | (intro i hi; exact ⟨rfl, rfl⟩) | (intro i hi; obtain rfl : i = 0 := (by omega); exact ⟨rfl, rfl⟩) | skip
        · rw [hcp]
          intro v bl' hv hbl
          obtain rfl := funext hbl
          clear hbl
          refine (Bool.eq_false_or_eq_true r2.1).elim (fun hd => ?_) fun hd => ?_
          · rw [hd] at h5
            have h5 : (true, r2.2) = r := h5
            subst h5
            rw [hd] at hv
            rcases hv with rfl | ⟨_, rfl⟩ | ⟨hv, _⟩
            · skip
              repeat' first | (exact PLe.refl _) | (exact BLe.refl _) | (exact PLeL.nil) | (exact BLeL.nil) | (refine ⟨?_, ?_⟩) | (refine PLeL.cons ?_ ?_) | (refine BLeL.cons ?_ ?_) | (refine ple_int ?_) | (refine ple_bool ?_) | (refine ple_tt ?_) | (refine ple_ff ?_) | (refine PLe.aggL ?_) | (refine PLe.tupL ?_) | (refine BLe.cellsL ?_) | (refine fun h => absurd h (by decide)) | (refine fun (h : @Eq Bool _ _) => ?_)
              all_goals first | trivial | rfl | omega | (exact hK _ _ (.inr (.inl ⟨rfl, rfl⟩)) (bfp_cut wl lv n gt N rows r2.2)) | skip
            · skip
              repeat' first | (exact PLe.refl _) | (exact BLe.refl _) | (exact PLeL.nil) | (exact BLeL.nil) | (refine ⟨?_, ?_⟩) | (refine PLeL.cons ?_ ?_) | (refine BLeL.cons ?_ ?_) | (refine ple_int ?_) | (refine ple_bool ?_) | (refine ple_tt ?_) | (refine ple_ff ?_) | (refine PLe.aggL ?_) | (refine PLe.tupL ?_) | (refine BLe.cellsL ?_) | (refine fun h => absurd h (by decide)) | (refine fun (h : @Eq Bool _ _) => ?_)
              all_goals first | trivial | rfl | omega | (exact hK _ _ (.inr (.inl ⟨rfl, rfl⟩)) (bfp_cut wl lv n gt N rows r2.2)) | skip
            · cases hv
          · rw [hd] at h5 hv
            have h5 : loopP (chooseP wl N rows m) (wl - (m + 1) - (x.1 + 1) + 1).toNat (x.1 + 1) (popP r2.2) = r := h5
            have k3 : r2.2.k = x.2.k + 1 := k3 hd
            have el : w ((r2.2.k : Int) - 1) = (r2.2.k - 1 : Nat) := (w64 (n := (r2.2.k : Int) - 1) (by omega) (by omega)).trans (by omega)
            have ek : (popP r2.2).k = p.k := by show r2.2.k - 1 = p.k; omega
            rcases hv with rfl | ⟨hv, _⟩ | ⟨_, rfl⟩
            · skip
              repeat' first | (exact PLe.refl _) | (exact BLe.refl _) | (exact PLeL.nil) | (exact BLeL.nil) | (refine ⟨?_, ?_⟩) | (refine PLeL.cons ?_ ?_) | (refine BLeL.cons ?_ ?_) | (refine ple_int ?_) | (refine ple_bool ?_) | (refine ple_tt ?_) | (refine ple_ff ?_) | (refine PLe.aggL ?_) | (refine PLe.tupL ?_) | (refine BLe.cellsL ?_) | (refine next_muO (cn := cnD 9) (x.1 + 1, popP r2.2) rfl ?_ ?_ (.mk ?_ ?_)) | (refine fun h => absurd h (by decide)) | (refine fun (h : @Eq Bool _ _) => ?_)
              all_goals first | trivial | rfl | omega | (exact e1) | (exact el) | (exact bfp_popH wl lv n gt N rows r2.2 (l := (w ((r2.2.k : Int) - 1)).toNat) (by rw [el]; rfl)) | (exact okPS_pop k1) | (exact ek) | (exact h5) | (exact ⟨by omega, by omega, okPS_pop k1, ek, h5⟩) | (show (0 : Int) ≤ w ((r2.2.k : Int) - 1); omega) | (show w ((r2.2.k : Int) - 1) ≤ (r2.2.k : Int); omega) | (show (5000 - (x.1 + 1)).toNat < (5000 - x.1).toNat; omega) | skip
            · cases hv
            · skip
              repeat' first | (exact PLe.refl _) | (exact BLe.refl _) | (exact PLeL.nil) | (exact BLeL.nil) | (refine ⟨?_, ?_⟩) | (refine PLeL.cons ?_ ?_) | (refine BLeL.cons ?_ ?_) | (refine ple_int ?_) | (refine ple_bool ?_) | (refine ple_tt ?_) | (refine ple_ff ?_) | (refine PLe.aggL ?_) | (refine PLe.tupL ?_) | (refine BLe.cellsL ?_) | (refine next_muO (cn := cnD 9) (x.1 + 1, popP r2.2) rfl ?_ ?_ (.mk ?_ ?_)) | (refine fun h => absurd h (by decide)) | (refine fun (h : @Eq Bool _ _) => ?_)
              all_goals first | trivial | rfl | omega | (exact e1) | (exact el) | (exact bfp_popH wl lv n gt N rows r2.2 (l := (w ((r2.2.k : Int) - 1)).toNat) (by rw [el]; rfl)) | (exact okPS_pop k1) | (exact ek) | (exact h5) | (exact ⟨by omega, by omega, okPS_pop k1, ek, h5⟩) | (show (0 : Int) ≤ w ((r2.2.k : Int) - 1); omega) | (show w ((r2.2.k : Int) - 1) ≤ (r2.2.k : Int); omega) | (show (5000 - (x.1 + 1)).toNat < (5000 - x.1).toNat; omega) | skip
      · have g : ¬ w (x.1 + c) ≤ wl := of_decide_eq_false g
        have ew : w (x.1 + c) = x.1 + c := w64 (by omega) (by omega)
        rw [ew] at g
        have e0 : (wl - (m + 1) - x.1 + 1).toNat = 0 := by omega
        rw [e0] at h5
        have h5 : (false, x.2) = r := h5
        subst h5
        repeat' first | (exact PLe.refl _) | (exact BLe.refl _) | (exact PLeL.nil) | (exact BLeL.nil) | (refine ⟨?_, ?_⟩) | (refine PLeL.cons ?_ ?_) | (refine BLeL.cons ?_ ?_) | (refine ple_int ?_) | (refine ple_bool ?_) | (refine ple_tt ?_) | (refine ple_ff ?_) | (refine PLe.aggL ?_) | (refine PLe.tupL ?_) | (refine BLe.cellsL ?_) | (refine fun h => absurd h (by decide)) | (refine fun (h : @Eq Bool _ _) => ?_)
        all_goals first | trivial | rfl | omega | (exact hK _ _ (.inr (.inr ⟨rfl, rfl⟩)) (bfp_cut wl lv n gt N rows x.2)) | skip
end Go.Proofs.Ytnjhbmcambofgaa
