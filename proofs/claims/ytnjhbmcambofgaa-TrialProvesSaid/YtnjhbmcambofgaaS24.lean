/- Layer 4: all conflicts by the document's words. -/
import Derived.Test.YtnjhbmcambofgaaS23
namespace Go.Proofs.Ytnjhbmcambofgaa
open Go.V
set_option linter.unusedSimpArgs false
set_option linter.unusedVariables false

def pairL (p : Int × Int) : List PV := [I p.1, I p.2]
def getP (l : List (Int × Int)) : Nat → List PV := fun i => pairL (l.getD i (0, 0))
def rowP (t : Tst) (b : Int) (l : List (Int × Int)) : Nat → List (Int × Int)
  | 0 => l
  | j + 1 => rowP t b l j ++ [fstP t b (t.c.lo + j)]
def allP (t : Tst) : Nat → List (Int × Int)
  | 0 => []
  | i + 1 => rowP t (t.b.lo + i) (allP t i) t.nc
theorem rowP_len (t : Tst) (b : Int) (l : List (Int × Int)) : ∀ j, (rowP t b l j).length = l.length + j
  | 0 => rfl
  | j + 1 => by
    show (rowP t b l j ++ [_]).length = _
    rw [List.length_append, rowP_len t b l j]
    rfl
theorem allP_len (t : Tst) : ∀ i, (allP t i).length = i * t.nc
  | 0 => by simp [allP]
  | i + 1 => by
    show (rowP t _ (allP t i) t.nc).length = _
    rw [rowP_len, allP_len t i, Nat.add_mul, Nat.one_mul]
theorem getP_old {l : List (Int × Int)} {y : Int × Int} {x : Nat} (h : x < l.length) : getP l x = getP (l ++ [y]) x := by
  simp [getP, List.getD, List.getElem?_append_left h]
theorem getP_new {l : List (Int × Int)} {y : Int × Int} : pairL y = getP (l ++ [y]) l.length := by
  simp [getP, List.getD]
def refConsS : V.Spec
  | [.agg [.int .i64 a1, .int .i64 a2, .int .i64 b1, .int .i64 b2, .int .i64 c1, .int .i64 c2, .slice none n get]] => (some (isT (tstOf a1 a2 b1 b2 c1 c2 n get) get), .slice none (allP (tstOf a1 a2 b1 b2 c1 c2 n get) (tstOf a1 a2 b1 b2 c1 c2 n get).nb).length (getP (allP (tstOf a1 a2 b1 b2 c1 c2 n get) (tstOf a1 a2 b1 b2 c1 c2 n get).nb)))
  | _ => bad
set_option maxRecDepth 20000 in
set_option maxHeartbeats 1000000 in
theorem sf37 : SF Try.prog 37 refConsS := by
  refine sf_of types_ok mixed (l := [(90, firstS)]) ⟨sf90, trivial⟩ (es := []) trivial 1 Try.func37 rfl (by kernel_rfl) fun args h => ?_
  unfold refConsS at h
  split at h
  · rename_i a1 a2 b1 b2 c1 c2 n get
    obtain ⟨hok, e⟩ := isT.get h
    obtain ⟨s, rfl⟩ : ∃ s : Nat → Stp, get = fun i => stpL (s i) := ⟨_, e⟩
    clear h e
    refine ⟨rfl, ?_⟩
    show evalCode _ _ _ fun o => match o with
      | .normal st | .ret st => withP _ (_ ∧ PLe _ (.slice none (allP (tstOf a1 a2 b1 b2 c1 c2 n fun i => stpL (s i)) ((tstOf a1 a2 b1 b2 c1 c2 n fun i => stpL (s i))).nb).length (getP (allP (tstOf a1 a2 b1 b2 c1 c2 n fun i => stpL (s i)) ((tstOf a1 a2 b1 b2 c1 c2 n fun i => stpL (s i))).nb))))
      | _ => False
    have hn : n ≤ 12 := hok.n
    have hL : isL stpL n fun i => stpL (s i) := .mk s (by omega) rfl
    have hb : 0 ≤ b1 ∧ b1 ≤ b2 ∧ b2 ≤ 10000 ∧ b2 - b1 ≤ 39 := hok.b
    have hc : 0 ≤ c1 ∧ c1 ≤ c2 ∧ c2 ≤ 1000 ∧ c2 - c1 ≤ 39 := hok.c
    have hnbD : ((tstOf a1 a2 b1 b2 c1 c2 n fun i => stpL (s i))).nb = (b2 - b1 + 1).toNat := rfl
    have hncD : ((tstOf a1 a2 b1 b2 c1 c2 n fun i => stpL (s i))).nc = (c2 - c1 + 1).toNat := rfl
    have hnb : ((tstOf a1 a2 b1 b2 c1 c2 n fun i => stpL (s i))).nb ≤ 40 := by rw [hnbD]; omega
    have hnc : ((tstOf a1 a2 b1 b2 c1 c2 n fun i => stpL (s i))).nc ≤ 40 := by rw [hncD]; omega
    have hall : ∀ i, i ≤ ((tstOf a1 a2 b1 b2 c1 c2 n fun i => stpL (s i))).nb → (allP (tstOf a1 a2 b1 b2 c1 c2 n fun i => stpL (s i)) i).length ≤ 1600 := fun i hi => by rw [allP_len]; exact Nat.le_trans (Nat.mul_le_mul hi hnc) (Nat.le_trans (Nat.mul_le_mul_right _ hnb) (by omega))
    repeat' first | (exact ple_slice rfl fun i hi => by cases hi) | (exact PLe.refl _) | (exact BLe.refl _) | (exact PLeL.nil) | (exact BLeL.nil) | (refine ⟨?_, ?_⟩) | (refine PLeL.cons ?_ ?_) | (refine BLeL.cons ?_ ?_) | (refine ple_int ?_) | (refine ple_bool ?_) | (refine ple_tt ?_) | (refine ple_ff ?_) | (refine PLe.aggL ?_) | (refine PLe.tupL ?_) | (refine BLe.cellsL ?_) | (refine halt_rng (cntF 4 b1) ((tstOf a1 a2 b1 b2 c1 c2 n fun i => stpL (s i))).nb [1, 3, 4] [1, 3] (fun i => [.ptr 1 0, .slice (some 3) (allP (tstOf a1 a2 b1 b2 c1 c2 n fun i => stpL (s i)) i).length (getP (allP (tstOf a1 a2 b1 b2 c1 c2 n fun i => stpL (s i)) i)), I (b1 + (i : Nat))]) (fun i => [.cells [I a1, I a2, I b1, I b2, I c1, I c2, .slice none n fun i => stpL (s i)], .grow (allP (tstOf a1 a2 b1 b2 c1 c2 n fun i => stpL (s i)) i).length 67 2]) (fun _ => True) rfl (.mk ?_ ?_) trivial ?_) | (refine fun h => absurd h (by decide)) | (refine fun (h : @Eq Bool _ _) => ?_)
    all_goals first | trivial | rfl | omega | skip
    intro i hi _
    refine ⟨fun h1 => ?_, fun h1 => ?_⟩
    · have h1 : b1 + (i : Int) ≤ b2 := of_decide_eq_true h1
      have hib : i < ((tstOf a1 a2 b1 b2 c1 c2 n fun i => stpL (s i))).nb := by rw [hnbD]; omega
      have e1 : IntKind.i64.wrap (b1 + (i : Int) + 1) = b1 + ((i + 1 : Nat) : Int) := by rw [w64 (by omega) (by omega)]; omega
      repeat' first | (exact PLe.refl _) | (exact BLe.refl _) | (exact PLeL.nil) | (exact BLeL.nil) | (refine ⟨?_, ?_⟩) | (refine PLeL.cons ?_ ?_) | (refine BLeL.cons ?_ ?_) | (refine ple_int ?_) | (refine ple_bool ?_) | (refine ple_tt ?_) | (refine ple_ff ?_) | (refine PLe.aggL ?_) | (refine PLe.tupL ?_) | (refine BLe.cellsL ?_) | (refine halt_rng (cntF 5 c1) ((tstOf a1 a2 b1 b2 c1 c2 n fun i => stpL (s i))).nc [1, 3, 4, 5] [1, 3] (fun j => [.ptr 1 0, .slice (some 3) (rowP (tstOf a1 a2 b1 b2 c1 c2 n fun i => stpL (s i)) (b1 + (i : Int)) (allP (tstOf a1 a2 b1 b2 c1 c2 n fun i => stpL (s i)) i) j).length (getP (rowP (tstOf a1 a2 b1 b2 c1 c2 n fun i => stpL (s i)) (b1 + (i : Int)) (allP (tstOf a1 a2 b1 b2 c1 c2 n fun i => stpL (s i)) i) j)), I (b1 + (i : Nat)), I (c1 + (j : Nat))]) (fun j => [.cells [I a1, I a2, I b1, I b2, I c1, I c2, .slice none n fun i => stpL (s i)], .grow (rowP (tstOf a1 a2 b1 b2 c1 c2 n fun i => stpL (s i)) (b1 + (i : Int)) (allP (tstOf a1 a2 b1 b2 c1 c2 n fun i => stpL (s i)) i) j).length 67 2]) (fun _ => True) rfl (.mk ?_ ?_) trivial ?_) | (refine fun h => absurd h (by decide)) | (refine fun (h : @Eq Bool _ _) => ?_)
      all_goals first | trivial | rfl | omega | skip
      intro j hj _
      refine ⟨fun h2 => ?_, fun h2 => ?_⟩
      · have h2 : c1 + (j : Int) ≤ c2 := of_decide_eq_true h2
        have hjc : j < ((tstOf a1 a2 b1 b2 c1 c2 n fun i => stpL (s i))).nc := by rw [hncD]; omega
        have e2 : IntKind.i64.wrap (c1 + (j : Int) + 1) = c1 + ((j + 1 : Nat) : Int) := by rw [w64 (by omega) (by omega)]; omega
        have hlen : (rowP (tstOf a1 a2 b1 b2 c1 c2 n fun i => stpL (s i)) (b1 + (i : Int)) (allP (tstOf a1 a2 b1 b2 c1 c2 n fun i => stpL (s i)) i) j).length ≤ 1640 := by rw [rowP_len]; have := hall i (by omega); omega
        have eN : (rowP (tstOf a1 a2 b1 b2 c1 c2 n fun i => stpL (s i)) (b1 + (i : Int)) (allP (tstOf a1 a2 b1 b2 c1 c2 n fun i => stpL (s i)) i) (j + 1)) = (rowP (tstOf a1 a2 b1 b2 c1 c2 n fun i => stpL (s i)) (b1 + (i : Int)) (allP (tstOf a1 a2 b1 b2 c1 c2 n fun i => stpL (s i)) i) j) ++ [fstP (tstOf a1 a2 b1 b2 c1 c2 n fun i => stpL (s i)) (b1 + (i : Int)) (c1 + (j : Int))] := rfl
        have eL : (rowP (tstOf a1 a2 b1 b2 c1 c2 n fun i => stpL (s i)) (b1 + (i : Int)) (allP (tstOf a1 a2 b1 b2 c1 c2 n fun i => stpL (s i)) i) (j + 1)).length = (rowP (tstOf a1 a2 b1 b2 c1 c2 n fun i => stpL (s i)) (b1 + (i : Int)) (allP (tstOf a1 a2 b1 b2 c1 c2 n fun i => stpL (s i)) i) j).length + 1 := by rw [eN, List.length_append]; rfl
        repeat' first | (exact PLe.refl _) | (exact BLe.refl _) | (exact PLeL.nil) | (exact BLeL.nil) | (refine ⟨?_, ?_⟩) | (refine PLeL.cons ?_ ?_) | (refine BLeL.cons ?_ ?_) | (refine ple_int ?_) | (refine ple_bool ?_) | (refine ple_tt ?_) | (refine ple_ff ?_) | (refine PLe.aggL ?_) | (refine PLe.tupL ?_) | (refine BLe.cellsL ?_) | (refine next_rng (cn := cntF 5 c1) rfl (fun m => by show (c1 + (m : Int) - c1).toNat = m; omega) hjc trivial (.mk ?_ ?_)) | (exact ble_grow eL.symm) | (refine fun h => absurd h (by decide)) | (refine fun (h : @Eq Bool _ _) => ?_)
        all_goals first | trivial | rfl | omega | (exact hL) | (exact e2) | (exact fun _ _ => rfl) | (show ((rowP (tstOf a1 a2 b1 b2 c1 c2 n fun i => stpL (s i)) (b1 + (i : Int)) (allP (tstOf a1 a2 b1 b2 c1 c2 n fun i => stpL (s i)) i) j).length + 1) * 16 ≤ 140737488355328; omega) | (intro x hx; obtain rfl : x = 0 := (by omega); exact ⟨rfl, rfl⟩) | skip
        rw [eN]
        refine ple_slice (by rw [List.length_append]; rfl) fun x hx => ?_
        by_cases hxk : x < (rowP (tstOf a1 a2 b1 b2 c1 c2 n fun i => stpL (s i)) (b1 + (i : Int)) (allP (tstOf a1 a2 b1 b2 c1 c2 n fun i => stpL (s i)) i) j).length
        · rw [blt_t hxk]; exact getP_old hxk
        · obtain rfl : x = (rowP (tstOf a1 a2 b1 b2 c1 c2 n fun i => stpL (s i)) (b1 + (i : Int)) (allP (tstOf a1 a2 b1 b2 c1 c2 n fun i => stpL (s i)) i) j).length := by
            have hx : x < (rowP (tstOf a1 a2 b1 b2 c1 c2 n fun i => stpL (s i)) (b1 + (i : Int)) (allP (tstOf a1 a2 b1 b2 c1 c2 n fun i => stpL (s i)) i) j).length + 1 := hx
            omega
          rw [blt_f hxk, Nat.sub_self]
          exact getP_new
      · have hjn : j = ((tstOf a1 a2 b1 b2 c1 c2 n fun i => stpL (s i))).nc := by
          have h2 : ¬ c1 + (j : Int) ≤ c2 := of_decide_eq_false h2
          rw [hncD] at hj ⊢; omega
        subst hjn
        clear h2
        repeat' first | (exact PLe.refl _) | (exact BLe.refl _) | (exact PLeL.nil) | (exact BLeL.nil) | (refine ⟨?_, ?_⟩) | (refine PLeL.cons ?_ ?_) | (refine BLeL.cons ?_ ?_) | (refine ple_int ?_) | (refine ple_bool ?_) | (refine ple_tt ?_) | (refine ple_ff ?_) | (refine PLe.aggL ?_) | (refine PLe.tupL ?_) | (refine BLe.cellsL ?_) | (refine next_rng (cn := cntF 4 b1) rfl (fun m => by show (b1 + (m : Int) - b1).toNat = m; omega) hib trivial (.mk ?_ ?_)) | (refine fun h => absurd h (by decide)) | (refine fun (h : @Eq Bool _ _) => ?_)
        all_goals first | trivial | rfl | omega | (exact e1) | skip
    · have hin : i = ((tstOf a1 a2 b1 b2 c1 c2 n fun i => stpL (s i))).nb := by
        have h1 : ¬ b1 + (i : Int) ≤ b2 := of_decide_eq_false h1
        rw [hnbD] at hi ⊢; omega
      subst hin
      clear h1
      repeat' first | (exact PLe.refl _) | (exact BLe.refl _) | (exact PLeL.nil) | (exact BLeL.nil) | (refine ⟨?_, ?_⟩) | (refine PLeL.cons ?_ ?_) | (refine BLeL.cons ?_ ?_) | (refine ple_int ?_) | (refine ple_bool ?_) | (refine ple_tt ?_) | (refine ple_ff ?_) | (refine PLe.aggL ?_) | (refine PLe.tupL ?_) | (refine BLe.cellsL ?_) | (refine fun h => absurd h (by decide)) | (refine fun (h : @Eq Bool _ _) => ?_)
      all_goals first | trivial | rfl | omega | skip
  · exact h.elim
end Go.Proofs.Ytnjhbmcambofgaa
