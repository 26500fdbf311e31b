/- Layer 4: the families of a test. -/
import Derived.Test.YtnjhbmcambofgaaS3
namespace Go.Proofs.Ytnjhbmcambofgaa
open Go.V
set_option linter.unusedSimpArgs false

structure Tst where
  a : Rng
  b : Rng
  c : Rng
  n : Nat
  s : Nat → Stp
def tstC (t : Tst) : List PV := [I t.a.lo, I t.a.hi, I t.b.lo, I t.b.hi, I t.c.lo, I t.c.hi, .slice none t.n fun i => stpL (t.s i)]
def roomF (A B C : Int) (s : Stp) : Rng := ⟨w (s.lo + w (0 - dropI A B C s.q)), w (s.hi + w (0 - dropI A B C s.q))⟩
def roomsM (t : Tst) (b c : Int) : Nat → Rng
  | 0 => t.a
  | i + 1 => roomF 0 b c (t.s i)
def setM (t : Tst) (b c : Int) : Rng := cutM t.a (fun i => roomF 0 b c (t.s i)) t.n
def famM (t : Tst) (b c : Int) : Fam := ⟨0, b, c, (setM t b c).lo, (setM t b c).hi⟩
def addF (t : Tst) (b c : Int) (l : List Fam) : List Fam := bif decide ((setM t b c).lo ≤ (setM t b c).hi) then l ++ [famM t b c] else l
def rowF (t : Tst) (b : Int) (l : List Fam) : Nat → List Fam
  | 0 => l
  | j + 1 => addF t b (t.c.lo + j) (rowF t b l j)
def Tst.nb (t : Tst) : Nat := (t.b.hi - t.b.lo + 1).toNat
def Tst.nc (t : Tst) : Nat := (t.c.hi - t.c.lo + 1).toNat
def allF (t : Tst) : Nat → List Fam
  | 0 => []
  | i + 1 => rowF t (t.b.lo + i) (allF t i) t.nc
def famsM (t : Tst) : List Fam := allF t t.nb
def listG (l : List Fam) : Nat → List PV := fun i => famL (l.getD i ⟨0, 0, 0, 0, 0⟩)
theorem addF_len (t : Tst) (b c : Int) (l : List Fam) : (addF t b c l).length ≤ l.length + 1 := by
  unfold addF
  cases decide ((setM t b c).lo ≤ (setM t b c).hi) <;> simp
theorem rowF_len (t : Tst) (b : Int) (l : List Fam) : ∀ j, (rowF t b l j).length ≤ l.length + j
  | 0 => Nat.le_refl _
  | j + 1 => Nat.le_trans (addF_len ..) (by have := rowF_len t b l j; omega)
theorem allF_len (t : Tst) : ∀ i, (allF t i).length ≤ i * t.nc
  | 0 => Nat.zero_le _
  | i + 1 => Nat.le_trans (rowF_len ..) (by have := allF_len t i; rw [Nat.add_mul]; omega)
/-- A test that the loops can go through. -/
structure okT (t : Tst) : Prop where
  n : t.n ≤ 12
  a : 0 ≤ t.a.lo ∧ t.a.lo ≤ t.a.hi ∧ t.a.hi ≤ 100000
  b : 0 ≤ t.b.lo ∧ t.b.lo ≤ t.b.hi ∧ t.b.hi ≤ 10000 ∧ t.b.hi - t.b.lo ≤ 39
  c : 0 ≤ t.c.lo ∧ t.c.lo ≤ t.c.hi ∧ t.c.hi ≤ 1000 ∧ t.c.hi - t.c.lo ≤ 39
  s : ∀ i, i < t.n → okStp (t.s i).q (t.s i).lo (t.s i).hi
inductive isT (t : Tst) (get : Nat → List PV) : Prop
  | mk (h : okT t) (e : get = fun i => stpL (t.s i))
  | no (h : False)
theorem isT.get {t : Tst} {get : Nat → List PV} (h : isT t get) : okT t ∧ get = fun i => stpL (t.s i) := by
  cases h with
  | mk h e => exact ⟨h, e⟩
  | no h => exact h.elim
theorem rng_len {f : Nat → Rng} {n : Nat} : ∀ i, i < n → ((fun x => rngL (f x)) i).length = ti32.size := fun _ _ => rfl
theorem listG_add (l : List Fam) (x : Fam) : ∀ i, i < l.length + 1 → (bif Nat.blt i l.length then listG l i else famL x) = listG (l ++ [x]) i := by
  intro i hi
  by_cases h : i < l.length
  · rw [blt_t h]
    simp [listG, List.getD, List.getElem?_append_left h]
  · obtain rfl : i = l.length := by omega
    rw [blt_f h]
    simp [listG, List.getD]
theorem listG_app {l : List Fam} {x : Fam} {get' : Nat → List PV} (h : get' 0 = famL x) : ∀ i, i < l.length + 1 → (bif Nat.blt i l.length then listG l i else get' (i - l.length)) = listG (l ++ [x]) i := by
  intro i hi
  by_cases hl : i < l.length
  · rw [blt_t hl]
    simp [listG, List.getD, List.getElem?_append_left hl]
  · obtain rfl : i = l.length := by omega
    rw [blt_f hl, Nat.sub_self]
    simp [listG, List.getD, h]
theorem listG_old {l : List Fam} {y : Fam} {x : Nat} (h : x < l.length) : listG l x = listG (l ++ [y]) x := by
  simp [listG, List.getD, List.getElem?_append_left h]
theorem listG_new {l : List Fam} {y : Fam} : famL y = listG (l ++ [y]) l.length := by
  simp [listG, List.getD]
theorem fam_len {l : List Fam} {n : Nat} : ∀ i, i < n → (listG l i).length = ti135.size := fun _ _ => rfl
def roomCS : V.Spec
  | [.agg [.int .i64 q, .int .i64 a, .int .i64 b], .cptr [.int .i64 A, .int .i64 B, .int .i64 C]] => (none, encR (roomF A B C ⟨q, a, b⟩))
  | _ => bad
theorem sf122 : SF Try.prog 122 roomCS := by
  refine sf_of types_ok mixed (l := [(71, atQS), (119, plusS)]) ⟨sf71, sf119, trivial⟩ (es := []) trivial 2 Try.func122 rfl (by kernel_rfl) fun args h => ?_
  unfold roomCS at h
  split at h
  · rename_i q a b A B C
    clear h
    refine ⟨rfl, ?_⟩
    repeat' first | (exact PLe.refl _) | (exact BLe.refl _) | (exact PLeL.nil) | (exact BLeL.nil) | (refine ⟨?_, ?_⟩) | (refine PLeL.cons ?_ ?_) | (refine BLeL.cons ?_ ?_) | (refine ple_int ?_) | (refine ple_bool ?_) | (refine ple_tt ?_) | (refine ple_ff ?_) | (refine PLe.aggL ?_) | (refine PLe.tupL ?_) | (refine BLe.cellsL ?_) | (refine fun h => absurd h (by decide)) | (refine fun (h : @Eq Bool _ _) => ?_)
    all_goals first | trivial | rfl | omega | skip
    all_goals first | trivial | (show @Eq Int _ _) | (show @Eq Bool _ _) | skip
    all_goals try simp only [w, cond_true, cond_false, Bool.not_eq_true', Bool.not_eq_false', decide_eq_true_eq, decide_eq_false_iff_not, bne_iff_ne, bne_eq_false_iff_eq, beq_iff_eq, beq_eq_false_iff_ne, ne_eq, ite_eq_left_iff, Decidable.not_not, Bool.and_eq_true, Bool.or_eq_true, Bool.and_eq_false_iff, Bool.or_eq_false_iff, not_and, Bool.not_true, Bool.not_false] at *
    all_goals try simp (disch := omega) only [w64, if_pos, if_neg] at *
    all_goals first | trivial | omega | (split <;> omega) | (rw [if_pos (by omega)]; omega) | (rw [if_neg (by omega)]; omega) | (refine decide_eq_decide.2 ?_; omega) | (refine decide_eq_true ?_; omega) | (refine decide_eq_false ?_; omega)
  · exact h.elim
def roomsFS : V.Spec
  | [.agg [.int .i64 a1, .int .i64 a2, .int .i64 b1, .int .i64 b2, .int .i64 c1, .int .i64 c2, .slice none n get]] => (none, .fn (.func 121) [] [.cptr [I a1, I a2, I b1, I b2, I c1, I c2, .slice none n get]])
  | _ => bad
theorem sf88 : SF Try.prog 88 roomsFS := by
  refine sf_of types_ok mixed (l := []) trivial (es := []) trivial 1 Try.func88 rfl (by kernel_rfl) fun args h => ?_
  unfold roomsFS at h
  split at h
  · refine ⟨rfl, ?_⟩
    exact ⟨rfl, .refl _⟩
  · exact h.elim
def it121 : Iter := iterBody ⟨types, [(122, roomCS)], [], 1000, false, [], [], [], none, false, [], [], [1036]⟩ (Try.f121.body.getD .skip) Try.f121.results.toList 2
theorem si121 : SI Try.prog 121 900 1000 2000 it121 := si_gen types_ok mixed (l := [(122, roomCS)]) ⟨sf122, trivial⟩ (es := []) trivial (fr := []) trivial [] [1036] 900 1000 2000 2 Try.func121 rfl (by kernel_rfl)
def tstOf (a1 a2 b1 b2 c1 c2 : Int) (n : Nat) (get : Nat → List PV) : Tst := ⟨⟨a1, a2⟩, ⟨b1, b2⟩, ⟨c1, c2⟩, n, fun i => stpOf (get i)⟩
def famsS : V.Spec
  | [.agg [.int .i64 a1, .int .i64 a2, .int .i64 b1, .int .i64 b2, .int .i64 c1, .int .i64 c2, .slice none n get]] => (some (isT (tstOf a1 a2 b1 b2 c1 c2 n get) get), .slice none (famsM (tstOf a1 a2 b1 b2 c1 c2 n get)).length (listG (famsM (tstOf a1 a2 b1 b2 c1 c2 n get))))
  | _ => bad
theorem tstOf_C (t : Tst) : tstOf t.a.lo t.a.hi t.b.lo t.b.hi t.c.lo t.c.hi t.n (fun i => stpL (t.s i)) = t := rfl
set_option maxRecDepth 20000 in
set_option maxHeartbeats 4000000 in
theorem famsV (t : Tst) (hok : okT t) : SF Try.prog 87 (V.atS [.agg (tstC t)] (.slice none (famsM t).length (listG (famsM t)))) := by
  refine sf_gen types_ok mixed (l := [(88, roomsFS), (120, cutS)]) ⟨sf88, sf120, trivial⟩ (es := []) trivial (its := [(121, 900, 1000, 2000, it121)]) ⟨si121, trivial⟩ (fr := []) trivial [] [] false [] [] 1 Try.func87 rfl (by kernel_rfl) fun args h => ?_
  have h : args = _ := h
  subst h
  refine ⟨rfl, ?_⟩
  show evalCode _ _ _ fun o => match o with
    | .normal st | .ret st => withP _ (_ ∧ PLe _ (.slice none (famsM t).length (listG (famsM t))))
    | _ => False
  have hb := hok.b
  have hc := hok.c
  have hn := hok.n
  have hnb : t.nb ≤ 40 := by unfold Tst.nb; omega
  have hnc : t.nc ≤ 40 := by unfold Tst.nc; omega
  have ebn : t.b.lo + (t.nb : Int) = t.b.hi + 1 := by unfold Tst.nb; omega
  have ecn : t.c.lo + (t.nc : Int) = t.c.hi + 1 := by unfold Tst.nc; omega
  have hall : ∀ i, i ≤ t.nb → (allF t i).length ≤ 1600 := fun i hi => Nat.le_trans (allF_len t i) (Nat.le_trans (Nat.mul_le_mul hi hnc) (by omega))
  refine Halt.mk ⟨[(3, 0, 800, 135, 5)], ?_⟩
  refine ⟨rfl, fun L => ⟨rfl, ?_⟩⟩
  refine halt_rngO 1000 (cntF 3 t.b.lo) t.nb [0, 1, 3] [] (fun i => [.yld L, .cptr (tstC t), I (t.b.lo + i)]) (fun i => [(1, .cells (tstC t)), (2, .grow 0 135 5), (3, .cells [.slice (some 800) (allF t i).length (listG (allF t i))]), (800, .grow (allF t i).length 135 5), (900, .jmp .ready)]) (fun _ => True) rfl (.mk ?_ ?_) trivial ?_
  · exact .cons (.refl _) (.cons (.refl _) (.cons (ple_int (by simp)) .nil))
  · refine bn_all [1, 2, 3, 800, 900] ⟨.refl _, .refl _, ?_, .refl _, .refl _, trivial⟩ ?_
    · exact .cellsL (.cons (ple_slice rfl fun i hi => by cases hi) .nil)
    intro s hO
    obtain ⟨n1, n2, n3, n800, n900, _⟩ := hO
    refine ble_none (eb_none fun hk => ?_) (look_none n1 (look_none n2 (look_none n3 (look_none n800 (look_none n900 (rfl))))))
    have hs : s < 1000 := keepQ_lt hk
    repeat' first | (exact rfl) | (exact look_none n1 (look_none n2 (look_none n3 (look_none n800 (look_none n900 (rfl)))))) | (refine upd_none n1 ?_) | (refine upd_none n2 ?_) | (refine upd_none n3 ?_) | (refine upd_none n800 ?_) | (refine upd_none n900 ?_) | (refine cut_none' fun _ => ?_)
  · intro i hi _
    refine ⟨fun h1 => ?_, fun h1 => ?_⟩
    · have h1 : t.b.lo + (i : Int) ≤ t.b.hi := of_decide_eq_true h1
      have hib : i < t.nb := by unfold Tst.nb; omega
      have e1 : IntKind.i64.wrap (t.b.lo + (i : Int) + 1) = t.b.lo + ((i + 1 : Nat) : Int) := by rw [w64 (by omega) (by omega)]; omega
      refine halt_rngO 1000 (cntF 4 t.c.lo) t.nc [0, 1, 3, 4] [] (fun j => [.yld L, .cptr (tstC t), I (t.b.lo + i), I (t.c.lo + j)]) (fun j => [(1, .cells (tstC t)), (2, .grow 0 135 5), (3, .cells [.slice (some 800) (rowF t (t.b.lo + i) (allF t i) j).length (listG (rowF t (t.b.lo + i) (allF t i) j))]), (800, .grow (rowF t (t.b.lo + i) (allF t i) j).length 135 5), (900, .jmp .ready)]) (fun _ => True) rfl (.mk ?_ ?_) trivial ?_
      · exact .cons (.refl _) (.cons (.refl _) (.cons (.refl _) (.cons (ple_int (by simp)) .nil)))
      · refine bn_all [1, 2, 3, 800, 900] ⟨.refl _, .refl _, .refl _, .refl _, .refl _, trivial⟩ ?_
        intro s hO
        obtain ⟨n1, n2, n3, n800, n900, _⟩ := hO
        refine ble_none (eb_none fun hk => ?_) (look_none n1 (look_none n2 (look_none n3 (look_none n800 (look_none n900 (rfl))))))
        have hs : s < 1000 := keepQ_lt hk
        repeat' first | (exact rfl) | (exact look_none n1 (look_none n2 (look_none n3 (look_none n800 (look_none n900 (rfl)))))) | (refine upd_none n1 ?_) | (refine upd_none n2 ?_) | (refine upd_none n3 ?_) | (refine upd_none n800 ?_) | (refine upd_none n900 ?_) | (refine cut_none' fun _ => ?_)
      · intro j hj _
        refine ⟨fun h2 => ?_, fun h2 => ?_⟩
        · have h2 : t.c.lo + (j : Int) ≤ t.c.hi := of_decide_eq_true h2
          have hjc : j < t.nc := by unfold Tst.nc; omega
          have e2 : IntKind.i64.wrap (t.c.lo + (j : Int) + 1) = t.c.lo + ((j + 1 : Nat) : Int) := by rw [w64 (by omega) (by omega)]; omega
          have hlen : (rowF t (t.b.lo + i) (allF t i) j).length ≤ 1640 := Nat.le_trans (rowF_len ..) (by have := hall i (by omega); omega)
          generalize hl : rowF t (t.b.lo + i) (allF t i) j = l at hlen
          refine halt_rngO 1000 (cnt 40) t.n [0, 1, 3, 4, 5, 6, 7, 38, 39, 40] [1005, 1036] (fun k => [.yld L, .cptr (tstC t), I (t.b.lo + i), I (t.c.lo + j), .ptr 1005 0, .fn (.func 122) [] [.ptr 1005 0], .slice (some 1036) (k + 1) (fun x => rngL (roomsM t (t.b.lo + i) (t.c.lo + j) x)), .slice none t.n fun x => stpL (t.s x), I t.n, I k])
            (fun k => [(1, .cells (tstC t)), (2, .grow 0 135 5), (3, .cells [.slice (some 800) (l).length (listG (l))]), (800, .grow (l).length 135 5), (900, .jmp .ready)] ++ [(1005, .cells [I 0, I (t.b.lo + i), I (t.c.lo + j)]), (1036, .grow (k + 1) 32 2)]) (fun _ => True) rfl (.mk ?_ ?_) trivial ?_
          · refine .cons (.refl _) (.cons (.refl _) (.cons (.refl _) (.cons (.refl _) (.cons (.refl _) (.cons (.refl _) (.cons (ple_slice rfl fun x hx => ?_) (.cons (.refl _) (.cons (.refl _) (.cons (.refl _) .nil)))))))))
            have hx : x < 1 := hx
            obtain rfl : x = 0 := by omega
            rfl
          · refine bn_all [1, 2, 3, 800, 900, 1005, 1036] ⟨.refl _, .refl _, .refl _, .refl _, .refl _, .refl _, .refl _, trivial⟩ ?_
            intro s hO
            obtain ⟨n1, n2, n3, n800, n900, n1005, n1036, _⟩ := hO
            refine ble_none (eb_none fun hk => ?_) (look_none n1 (look_none n2 (look_none n3 (look_none n800 (look_none n900 (look_none n1005 (look_none n1036 (rfl))))))))
            have hs : s < 1000 := keepQ_off hk (by simp only [List.mem_cons, List.not_mem_nil, or_false]; rintro k (rfl | rfl) <;> assumption)
            repeat' first | (exact rfl) | (exact look_none n1 (look_none n2 (look_none n3 (look_none n800 (look_none n900 (rfl)))))) | (exact look_none n1 (look_none n2 (look_none n3 (look_none n800 (look_none n900 (look_none n1005 (look_none n1036 (rfl)))))))) | (refine upd_none n1 ?_) | (refine upd_none n2 ?_) | (refine upd_none n3 ?_) | (refine upd_none n800 ?_) | (refine upd_none n900 ?_) | (refine upd_none n1005 ?_) | (refine upd_none n1036 ?_) | (refine cut_none' fun _ => ?_)
          · intro k hk _
            refine ⟨fun h3 => ?_, fun h3 => ?_⟩
            · have hkn : k < t.n := by simpa using h3
              have e3 := succ_w (m := k) (n := t.n) hkn (by omega)
              clear h3
              repeat' first | (exact PLe.refl _) | (exact BLe.refl _) | (exact PLeL.nil) | (exact BLeL.nil) | (refine ⟨?_, ?_⟩) | (refine PLeL.cons ?_ ?_) | (refine BLeL.cons ?_ ?_) | (refine ple_int ?_) | (refine ple_bool ?_) | (refine ple_tt ?_) | (refine ple_ff ?_) | (refine PLe.aggL ?_) | (refine PLe.tupL ?_) | (refine BLe.cellsL ?_) | (refine next_rngO (off := 1000) (cn := cnt 40) rfl (fun _ => rfl) hkn trivial (.mk ?_ ?_)) | (refine fun h => absurd h (by decide)) | (refine fun (h : @Eq Bool _ _) => ?_)
              all_goals first | trivial | rfl | omega | (exact e3) | (exact rng_len) | (show (k + 1 + 1) * 16 ≤ 140737488355328; omega) | (intro x hx; obtain rfl : x = 0 := (by omega); exact ⟨rfl, rfl⟩) | skip
              · show PLe (.slice (some 1036) (k + 1 + 1) _) _
                refine ple_slice rfl fun x hx => ?_
                by_cases hxk : x < k + 1
                · rw [blt_t hxk]; rfl
                · obtain rfl : x = k + 1 := by omega
                  rw [blt_f hxk, Nat.sub_self]; rfl
              · refine bn_all [1, 2, 3, 800, 900, 1005, 1036] ⟨.refl _, .refl _, .refl _, .refl _, .refl _, .refl _, .refl _, trivial⟩ ?_
                intro s hO
                obtain ⟨n1, n2, n3, n800, n900, n1005, n1036, _⟩ := hO
                refine ble_none (eb_none fun hk => ?_) (look_none n1 (look_none n2 (look_none n3 (look_none n800 (look_none n900 (look_none n1005 (look_none n1036 (rfl))))))))
                have hs : s < 1000 := keepQ_off hk (by simp only [List.mem_cons, List.not_mem_nil, or_false]; rintro k (rfl | rfl) <;> assumption)
                repeat' first | (exact rfl) | (exact look_none n1 (look_none n2 (look_none n3 (look_none n800 (look_none n900 (look_none n1005 (look_none n1036 (rfl)))))))) | (refine upd_none n1 ?_) | (refine upd_none n2 ?_) | (refine upd_none n3 ?_) | (refine upd_none n800 ?_) | (refine upd_none n900 ?_) | (refine upd_none n1005 ?_) | (refine upd_none n1036 ?_) | (refine upd_none (show s ≠ 1009 by omega) ?_) | (refine cut_none' fun _ => ?_)
            · have hk2 : k = t.n := by
                have : ¬ ((k : Int) < t.n) := of_decide_eq_false h3
                omega
              subst hk2
              clear h3
              have hset : cutM (roomsM t (t.b.lo + i) (t.c.lo + j) 0) (fun x => roomF 0 (t.b.lo + i) (t.c.lo + j) (t.s x)) t.n = setM t (t.b.lo + i) (t.c.lo + j) := rfl
              have hR : isL rngL t.n (fun x => rngL (roomF 0 (t.b.lo + i) (t.c.lo + j) (t.s x))) := .mk _ (by omega) rfl
              have hlen2 : ∀ x, x < t.n + 1 → (rngL (roomsM t (t.b.lo + i) (t.c.lo + j) x)).length = ti32.size := fun _ _ => rfl
              refine (Bool.eq_false_or_eq_true (decide ((setM t (t.b.lo + i) (t.c.lo + j)).lo ≤ (setM t (t.b.lo + i) (t.c.lo + j)).hi))).elim (fun hd => ?_) fun hd => ?_
              · skip
                have hadd : rowF t (t.b.lo + i) (allF t i) (j + 1) = l ++ [famM t (t.b.lo + i) (t.c.lo + j)] := by
                  show addF t _ _ (rowF t (t.b.lo + i) (allF t i) j) = _
                  rw [hl]
                  unfold addF
                  rw [hd]; rfl
                repeat' first | (refine fun h => absurd (h.symm.trans hd) (by decide)) | (exact PLe.refl _) | (exact BLe.refl _) | (exact PLeL.nil) | (exact BLeL.nil) | (refine ⟨?_, ?_⟩) | (refine PLeL.cons ?_ ?_) | (refine BLeL.cons ?_ ?_) | (refine ple_int ?_) | (refine ple_bool ?_) | (refine ple_tt ?_) | (refine ple_ff ?_) | (refine PLe.aggL ?_) | (refine PLe.tupL ?_) | (refine BLe.cellsL ?_) | (refine next_rngO (off := 1000) (cn := cntF 4 t.c.lo) rfl (fun m => by show (t.c.lo + (m : Int) - t.c.lo).toNat = m; omega) hjc trivial (.mk ?_ ?_)) | (refine fun h => absurd h (by decide)) | (refine fun (h : @Eq Bool _ _) => ?_)
                all_goals first | trivial | rfl | omega | (exact e2) | (exact hR) | (exact hlen2) | (exact fam_len) | (show (l.length + 1) * 40 ≤ 140737488355328; omega) | (intro x hx; obtain rfl : x = 0 := (by omega); exact ⟨rfl, rfl⟩) | skip
                refine bn_all [1, 2, 3, 800, 900] ⟨.refl _, .refl _, ?_, ?_, .refl _, trivial⟩ ?_
                · show BLe (.cells [.slice (some 800) (l.length + 1) _]) (.cells [.slice (some 800) (rowF t (t.b.lo + i) (allF t i) (j + 1)).length (listG (rowF t (t.b.lo + i) (allF t i) (j + 1)))])
                  rw [hadd]
                  refine .cellsL (.cons (ple_slice (by simp) fun x hx => ?_) .nil)
                  by_cases hxl : x < l.length
                  · rw [blt_t hxl]; exact listG_old hxl
                  · obtain rfl : x = l.length := by
                      have hx : x < l.length + 1 := hx
                      omega
                    rw [blt_f hxl, Nat.sub_self]
                    refine Eq.trans ?_ (listG_new (l := l) (y := famM t (t.b.lo + i) (t.c.lo + j)))
                    rfl
                · show BLe (.grow (l.length + 1) 135 5) (.grow (rowF t (t.b.lo + i) (allF t i) (j + 1)).length 135 5)
                  rw [hadd]
                  exact ble_grow (by simp)
                intro s hO
                obtain ⟨n1, n2, n3, n800, n900, _⟩ := hO
                refine ble_none (eb_none fun hk => ?_) (look_none n1 (look_none n2 (look_none n3 (look_none n800 (look_none n900 (rfl))))))
                have hs : s < 1000 := keepQ_lt hk
                repeat' first | (exact rfl) | (exact look_none n1 (look_none n2 (look_none n3 (look_none n800 (look_none n900 (look_none (show s ≠ 1005 by omega) (look_none (show s ≠ 1036 by omega) (rfl)))))))) | (exact look_none n1 (look_none n2 (look_none n3 (look_none n800 (look_none n900 (rfl)))))) | (refine upd_none n1 ?_) | (refine upd_none n2 ?_) | (refine upd_none n3 ?_) | (refine upd_none n800 ?_) | (refine upd_none n900 ?_) | (refine upd_none (show s ≠ 1005 by omega) ?_) | (refine upd_none (show s ≠ 1036 by omega) ?_) | (refine upd_none (show s ≠ 2004 by omega) ?_) | (refine upd_none (show s ≠ 2006 by omega) ?_) | (refine cut_none' fun _ => ?_)
              · have hadd : rowF t (t.b.lo + i) (allF t i) (j + 1) = l := by
                  show addF t _ _ (rowF t (t.b.lo + i) (allF t i) j) = _
                  rw [hl]
                  unfold addF
                  rw [hd]; rfl
                repeat' first | (refine fun h => absurd (h.symm.trans hd) (by decide)) | (exact PLe.refl _) | (exact BLe.refl _) | (exact PLeL.nil) | (exact BLeL.nil) | (refine ⟨?_, ?_⟩) | (refine PLeL.cons ?_ ?_) | (refine BLeL.cons ?_ ?_) | (refine ple_int ?_) | (refine ple_bool ?_) | (refine ple_tt ?_) | (refine ple_ff ?_) | (refine PLe.aggL ?_) | (refine PLe.tupL ?_) | (refine BLe.cellsL ?_) | (refine next_rngO (off := 1000) (cn := cntF 4 t.c.lo) rfl (fun m => by show (t.c.lo + (m : Int) - t.c.lo).toNat = m; omega) hjc trivial (.mk ?_ ?_)) | (refine fun h => absurd h (by decide)) | (refine fun (h : @Eq Bool _ _) => ?_)
                all_goals first | trivial | rfl | omega | (exact e2) | (exact hR) | (exact hlen2) | (exact fam_len) | (show (l.length + 1) * 40 ≤ 140737488355328; omega) | (intro x hx; obtain rfl : x = 0 := (by omega); exact ⟨rfl, rfl⟩) | skip
                refine bn_all [1, 2, 3, 800, 900] ⟨.refl _, .refl _, ?_, ?_, .refl _, trivial⟩ ?_
                · show BLe (.cells [.slice (some 800) l.length (listG l)]) (.cells [.slice (some 800) (rowF t (t.b.lo + i) (allF t i) (j + 1)).length (listG (rowF t (t.b.lo + i) (allF t i) (j + 1)))])
                  rw [hadd]
                  exact .refl _
                · show BLe (.grow l.length 135 5) (.grow (rowF t (t.b.lo + i) (allF t i) (j + 1)).length 135 5)
                  rw [hadd]
                  exact .refl _
                intro s hO
                obtain ⟨n1, n2, n3, n800, n900, _⟩ := hO
                refine ble_none (eb_none fun hk => ?_) (look_none n1 (look_none n2 (look_none n3 (look_none n800 (look_none n900 (rfl))))))
                have hs : s < 1000 := keepQ_lt hk
                repeat' first | (exact rfl) | (exact look_none n1 (look_none n2 (look_none n3 (look_none n800 (look_none n900 (look_none (show s ≠ 1005 by omega) (look_none (show s ≠ 1036 by omega) (rfl)))))))) | (exact look_none n1 (look_none n2 (look_none n3 (look_none n800 (look_none n900 (rfl)))))) | (refine upd_none n1 ?_) | (refine upd_none n2 ?_) | (refine upd_none n3 ?_) | (refine upd_none n800 ?_) | (refine upd_none n900 ?_) | (refine upd_none (show s ≠ 1005 by omega) ?_) | (refine upd_none (show s ≠ 1036 by omega) ?_) | (refine upd_none (show s ≠ 2004 by omega) ?_) | (refine upd_none (show s ≠ 2006 by omega) ?_) | (refine cut_none' fun _ => ?_)
        · have hjc : j = t.nc := by
            have : ¬ (t.c.lo + (j : Int) ≤ t.c.hi) := of_decide_eq_false h2
            omega
          subst hjc
          have hall2 : allF t (i + 1) = rowF t (t.b.lo + i) (allF t i) t.nc := rfl
          repeat' first | (exact PLe.refl _) | (exact BLe.refl _) | (exact PLeL.nil) | (exact BLeL.nil) | (refine ⟨?_, ?_⟩) | (refine PLeL.cons ?_ ?_) | (refine BLeL.cons ?_ ?_) | (refine ple_int ?_) | (refine ple_bool ?_) | (refine ple_tt ?_) | (refine ple_ff ?_) | (refine PLe.aggL ?_) | (refine PLe.tupL ?_) | (refine BLe.cellsL ?_) | (refine next_rngO (off := 1000) (cn := cntF 3 t.b.lo) rfl (fun m => by show (t.b.lo + (m : Int) - t.b.lo).toNat = m; omega) hib trivial (.mk ?_ ?_)) | (refine fun h => absurd h (by decide)) | (refine fun (h : @Eq Bool _ _) => ?_)
          all_goals first | trivial | rfl | omega | (exact e1) | skip
          refine bn_all [1, 2, 3, 800, 900] ⟨.refl _, .refl _, .refl _, .refl _, .refl _, trivial⟩ ?_
          intro s hO
          obtain ⟨n1, n2, n3, n800, n900, _⟩ := hO
          refine ble_none (eb_none fun hk => ?_) (look_none n1 (look_none n2 (look_none n3 (look_none n800 (look_none n900 (rfl))))))
          have hs : s < 1000 := keepQ_lt hk
          repeat' first | (exact rfl) | (exact look_none n1 (look_none n2 (look_none n3 (look_none n800 (look_none n900 (rfl)))))) | (refine upd_none n1 ?_) | (refine upd_none n2 ?_) | (refine upd_none n3 ?_) | (refine upd_none n800 ?_) | (refine upd_none n900 ?_) | (refine cut_none' fun _ => ?_)
    · have hib : i = t.nb := by
        have : ¬ (t.b.lo + (i : Int) ≤ t.b.hi) := of_decide_eq_false h1
        omega
      subst hib
      refine ⟨rfl, ?_⟩
      exact ⟨rfl, .refl _⟩
theorem sf87 : SF Try.prog 87 famsS := by
  refine sf_each ⟨_, _, Try.func87, by kernel_rfl, rfl⟩ fun args h => ?_
  unfold famsS at h ⊢
  split at h
  · rename_i a1 a2 b1 b2 c1 c2 n get
    obtain ⟨hok, e⟩ := isT.get h
    have := famsV _ hok
    unfold tstC at this
    rw [← e] at this
    exact this
  · exact h.elim
end Go.Proofs.Ytnjhbmcambofgaa
