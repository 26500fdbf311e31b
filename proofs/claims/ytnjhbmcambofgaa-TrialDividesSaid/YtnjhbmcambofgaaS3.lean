/- Layer 4: families of curves, what encloses them. -/
import Derived.Test.YtnjhbmcambofgaaS2
namespace Go.Proofs.Ytnjhbmcambofgaa
open Go.V
set_option linter.unusedSimpArgs false

structure Fam where
  A : Int
  B : Int
  C : Int
  lo : Int
  hi : Int
def famL (f : Fam) : List PV := [I f.A, I f.B, I f.C, I f.lo, I f.hi]
def famOf : List PV → Fam
  | [.int .i64 a, .int .i64 b, .int .i64 c, .int .i64 d, .int .i64 e] => ⟨a, b, c, d, e⟩
  | _ => ⟨0, 0, 0, 0, 0⟩
def span (a r : Rng) : Rng := ⟨gmin a.lo r.lo, gmax a.hi r.hi⟩
def encM (g : Fam → Rng) (fs : Nat → Fam) : Nat → Rng
  | 0 => g (fs 0)
  | k + 1 => span (encM g fs k) (g (fs k))
def restsF (f : Fam) : Rng := ⟨f.lo, f.hi⟩
def bF (f : Fam) : Rng := ⟨f.B, f.B⟩
def cF (f : Fam) : Rng := ⟨f.C, f.C⟩
def dropF (q : Int) (f : Fam) : Rng := ⟨w (f.lo + dropI f.A f.B f.C q), w (f.hi + dropI f.A f.B f.C q)⟩
def famS (g : Fam → Rng) : V.Spec
  | [.agg [.int .i64 a, .int .i64 b, .int .i64 c, .int .i64 d, .int .i64 e]] => (none, encR (g ⟨a, b, c, d, e⟩))
  | _ => bad
def dropFS : V.Spec
  | [.agg [.int .i64 a, .int .i64 b, .int .i64 c, .int .i64 d, .int .i64 e], .cptr [.int .i64 q]] => (none, encR (dropF q ⟨a, b, c, d, e⟩))
  | _ => bad
theorem sf75 : SF Try.prog 75 (famS restsF) := by
  refine sf_of types_ok mixed (l := []) trivial (es := []) trivial 1 Try.func75 rfl (by kernel_rfl) fun args h => ?_
  unfold famS at h
  split at h
  · rename_i a b c d e
    clear h
    refine ⟨rfl, ?_⟩
    repeat' first | (exact PLe.refl _) | (exact BLe.refl _) | (exact PLeL.nil) | (exact BLeL.nil) | (refine ⟨?_, ?_⟩) | (refine PLeL.cons ?_ ?_) | (refine BLeL.cons ?_ ?_) | (refine ple_int ?_) | (refine ple_bool ?_) | (refine ple_tt ?_) | (refine ple_ff ?_) | (refine PLe.aggL ?_) | (refine PLe.tupL ?_) | (refine BLe.cellsL ?_) | (refine fun h => absurd h (by decide)) | (refine fun (h : @Eq Bool _ _) => ?_)
    all_goals first | trivial | rfl | omega | skip
    all_goals first | trivial | (show @Eq Int _ _) | (show @Eq Bool _ _) | skip
    all_goals try simp only [w, cond_true, cond_false, Bool.not_eq_true', Bool.not_eq_false', decide_eq_true_eq, decide_eq_false_iff_not, bne_iff_ne, bne_eq_false_iff_eq, beq_iff_eq, beq_eq_false_iff_ne, ne_eq, ite_eq_left_iff, Decidable.not_not, Bool.and_eq_true, Bool.or_eq_true, Bool.and_eq_false_iff, Bool.or_eq_false_iff, not_and, Bool.not_true, Bool.not_false] at *
    all_goals try simp (disch := omega) only [w64, if_pos, if_neg] at *
    all_goals first | trivial | omega | (split <;> omega) | (rw [if_pos (by omega)]; omega) | (rw [if_neg (by omega)]; omega) | (refine decide_eq_decide.2 ?_; omega) | (refine decide_eq_true ?_; omega) | (refine decide_eq_false ?_; omega)
  · exact h.elim
theorem sf76 : SF Try.prog 76 (famS bF) := by
  refine sf_of types_ok mixed (l := []) trivial (es := []) trivial 1 Try.func76 rfl (by kernel_rfl) fun args h => ?_
  unfold famS at h
  split at h
  · rename_i a b c d e
    clear h
    refine ⟨rfl, ?_⟩
    repeat' first | (exact PLe.refl _) | (exact BLe.refl _) | (exact PLeL.nil) | (exact BLeL.nil) | (refine ⟨?_, ?_⟩) | (refine PLeL.cons ?_ ?_) | (refine BLeL.cons ?_ ?_) | (refine ple_int ?_) | (refine ple_bool ?_) | (refine ple_tt ?_) | (refine ple_ff ?_) | (refine PLe.aggL ?_) | (refine PLe.tupL ?_) | (refine BLe.cellsL ?_) | (refine fun h => absurd h (by decide)) | (refine fun (h : @Eq Bool _ _) => ?_)
    all_goals first | trivial | rfl | omega | skip
    all_goals first | trivial | (show @Eq Int _ _) | (show @Eq Bool _ _) | skip
    all_goals try simp only [w, cond_true, cond_false, Bool.not_eq_true', Bool.not_eq_false', decide_eq_true_eq, decide_eq_false_iff_not, bne_iff_ne, bne_eq_false_iff_eq, beq_iff_eq, beq_eq_false_iff_ne, ne_eq, ite_eq_left_iff, Decidable.not_not, Bool.and_eq_true, Bool.or_eq_true, Bool.and_eq_false_iff, Bool.or_eq_false_iff, not_and, Bool.not_true, Bool.not_false] at *
    all_goals try simp (disch := omega) only [w64, if_pos, if_neg] at *
    all_goals first | trivial | omega | (split <;> omega) | (rw [if_pos (by omega)]; omega) | (rw [if_neg (by omega)]; omega) | (refine decide_eq_decide.2 ?_; omega) | (refine decide_eq_true ?_; omega) | (refine decide_eq_false ?_; omega)
  · exact h.elim
theorem sf77 : SF Try.prog 77 (famS cF) := by
  refine sf_of types_ok mixed (l := []) trivial (es := []) trivial 1 Try.func77 rfl (by kernel_rfl) fun args h => ?_
  unfold famS at h
  split at h
  · rename_i a b c d e
    clear h
    refine ⟨rfl, ?_⟩
    repeat' first | (exact PLe.refl _) | (exact BLe.refl _) | (exact PLeL.nil) | (exact BLeL.nil) | (refine ⟨?_, ?_⟩) | (refine PLeL.cons ?_ ?_) | (refine BLeL.cons ?_ ?_) | (refine ple_int ?_) | (refine ple_bool ?_) | (refine ple_tt ?_) | (refine ple_ff ?_) | (refine PLe.aggL ?_) | (refine PLe.tupL ?_) | (refine BLe.cellsL ?_) | (refine fun h => absurd h (by decide)) | (refine fun (h : @Eq Bool _ _) => ?_)
    all_goals first | trivial | rfl | omega | skip
    all_goals first | trivial | (show @Eq Int _ _) | (show @Eq Bool _ _) | skip
    all_goals try simp only [w, cond_true, cond_false, Bool.not_eq_true', Bool.not_eq_false', decide_eq_true_eq, decide_eq_false_iff_not, bne_iff_ne, bne_eq_false_iff_eq, beq_iff_eq, beq_eq_false_iff_ne, ne_eq, ite_eq_left_iff, Decidable.not_not, Bool.and_eq_true, Bool.or_eq_true, Bool.and_eq_false_iff, Bool.or_eq_false_iff, not_and, Bool.not_true, Bool.not_false] at *
    all_goals try simp (disch := omega) only [w64, if_pos, if_neg] at *
    all_goals first | trivial | omega | (split <;> omega) | (rw [if_pos (by omega)]; omega) | (rw [if_neg (by omega)]; omega) | (refine decide_eq_decide.2 ?_; omega) | (refine decide_eq_true ?_; omega) | (refine decide_eq_false ?_; omega)
  · exact h.elim
theorem sf118 : SF Try.prog 118 dropFS := by
  refine sf_of types_ok mixed (l := [(71, atQS), (119, plusS)]) ⟨sf71, sf119, trivial⟩ (es := []) trivial 2 Try.func118 rfl (by kernel_rfl) fun args h => ?_
  unfold dropFS at h
  split at h
  · rename_i a b c d e q
    clear h
    refine ⟨rfl, ?_⟩
    repeat' first | (exact PLe.refl _) | (exact BLe.refl _) | (exact PLeL.nil) | (exact BLeL.nil) | (refine ⟨?_, ?_⟩) | (refine PLeL.cons ?_ ?_) | (refine BLeL.cons ?_ ?_) | (refine ple_int ?_) | (refine ple_bool ?_) | (refine ple_tt ?_) | (refine ple_ff ?_) | (refine PLe.aggL ?_) | (refine PLe.tupL ?_) | (refine BLe.cellsL ?_) | (refine fun h => absurd h (by decide)) | (refine fun (h : @Eq Bool _ _) => ?_)
    all_goals first | trivial | rfl | omega | skip
    all_goals first | trivial | (show @Eq Int _ _) | (show @Eq Bool _ _) | skip
    all_goals try simp only [w, cond_true, cond_false, Bool.not_eq_true', Bool.not_eq_false', decide_eq_true_eq, decide_eq_false_iff_not, bne_iff_ne, bne_eq_false_iff_eq, beq_iff_eq, beq_eq_false_iff_ne, ne_eq, ite_eq_left_iff, Decidable.not_not, Bool.and_eq_true, Bool.or_eq_true, Bool.and_eq_false_iff, Bool.or_eq_false_iff, not_and, Bool.not_true, Bool.not_false] at *
    all_goals try simp (disch := omega) only [w64, if_pos, if_neg] at *
    all_goals first | trivial | omega | (split <;> omega) | (rw [if_pos (by omega)]; omega) | (rw [if_neg (by omega)]; omega) | (refine decide_eq_decide.2 ?_; omega) | (refine decide_eq_true ?_; omega) | (refine decide_eq_false ?_; omega)
  · exact h.elim
def enclRS : V.Spec
  | [.slice none n get, .fn (.func 75) [] []] => (some (isL famL n get ∧ 0 < n), encR (encM (restsF) (fun i => famOf (get i)) n))
  | _ => bad
set_option maxRecDepth 20000 in
theorem sf74a : SF Try.prog 74 enclRS := by
  refine sf_of types_ok mixed (l := [(75, famS restsF)]) ⟨sf75, trivial⟩ (es := []) trivial 2 Try.func74 rfl (by kernel_rfl) fun args h => ?_
  unfold enclRS at h
  split at h
  · rename_i n get
    obtain ⟨h, hn0⟩ : isL famL n get ∧ 0 < n := h
    obtain ⟨hn, s, rfl⟩ := isL.get h
    clear h
    refine ⟨rfl, ?_⟩
    show evalCode _ _ _ fun o => match o with
      | .normal st | .ret st => withP _ (_ ∧ PLe _ (encR (encM (restsF) s n)))
      | _ => False
    refine ⟨⟨by decide, by simpa using hn0, rfl⟩, ?_⟩
    refine halt_rng (cnt 16) n [1, 4, 5, 14, 15, 16] [4, 5] (fun m => [.fn (.func 75) [] [], .ptr 4 0, .ptr 5 0, .slice none n fun i => famL (s i), I n, I m]) (fun m => [.cells [I 0, I 0], .cells (rngL (encM (restsF) s m))]) (fun _ => True) rfl ?_ trivial ?_
    · repeat' first | (exact PLe.refl _) | (exact BLe.refl _) | (exact PLeL.nil) | (exact BLeL.nil) | (refine ⟨?_, ?_⟩) | (refine PLeL.cons ?_ ?_) | (refine BLeL.cons ?_ ?_)
    · intro m hm _
      refine ⟨fun h1 => ?_, fun h1 => ?_⟩
      · have hlt : m < n := by simpa using h1
        have e1 := succ_w hlt hn
        clear h1
        repeat' first | (exact PLe.refl _) | (exact BLe.refl _) | (exact PLeL.nil) | (exact BLeL.nil) | (refine ⟨?_, ?_⟩) | (refine PLeL.cons ?_ ?_) | (refine BLeL.cons ?_ ?_) | (refine ple_int ?_) | (refine ple_bool ?_) | (refine ple_tt ?_) | (refine ple_ff ?_) | (refine PLe.aggL ?_) | (refine PLe.tupL ?_) | (refine BLe.cellsL ?_) | (refine next_rng (cn := cnt 16) rfl (fun _ => rfl) hlt trivial ?_) | (refine fun h => absurd h (by decide)) | (refine fun (h : @Eq Bool _ _) => ?_)
        all_goals first | trivial | rfl | omega | (exact e1) | skip
      · obtain rfl : n = m := by
          have : ¬ ((m : Int) < n) := of_decide_eq_false h1
          omega
        clear h1
        repeat' first | (exact PLe.refl _) | (exact BLe.refl _) | (exact PLeL.nil) | (exact BLeL.nil) | (refine ⟨?_, ?_⟩) | (refine PLeL.cons ?_ ?_) | (refine BLeL.cons ?_ ?_) | (refine ple_int ?_) | (refine ple_bool ?_) | (refine ple_tt ?_) | (refine ple_ff ?_) | (refine PLe.aggL ?_) | (refine PLe.tupL ?_) | (refine BLe.cellsL ?_) | (refine fun h => absurd h (by decide)) | (refine fun (h : @Eq Bool _ _) => ?_)
        all_goals first | trivial | rfl | omega | skip
  · exact h.elim
def enclBS : V.Spec
  | [.slice none n get, .fn (.func 76) [] []] => (some (isL famL n get ∧ 0 < n), encR (encM (bF) (fun i => famOf (get i)) n))
  | _ => bad
set_option maxRecDepth 20000 in
theorem sf74b : SF Try.prog 74 enclBS := by
  refine sf_of types_ok mixed (l := [(76, famS bF)]) ⟨sf76, trivial⟩ (es := []) trivial 2 Try.func74 rfl (by kernel_rfl) fun args h => ?_
  unfold enclBS at h
  split at h
  · rename_i n get
    obtain ⟨h, hn0⟩ : isL famL n get ∧ 0 < n := h
    obtain ⟨hn, s, rfl⟩ := isL.get h
    clear h
    refine ⟨rfl, ?_⟩
    show evalCode _ _ _ fun o => match o with
      | .normal st | .ret st => withP _ (_ ∧ PLe _ (encR (encM (bF) s n)))
      | _ => False
    refine ⟨⟨by decide, by simpa using hn0, rfl⟩, ?_⟩
    refine halt_rng (cnt 16) n [1, 4, 5, 14, 15, 16] [4, 5] (fun m => [.fn (.func 76) [] [], .ptr 4 0, .ptr 5 0, .slice none n fun i => famL (s i), I n, I m]) (fun m => [.cells [I 0, I 0], .cells (rngL (encM (bF) s m))]) (fun _ => True) rfl ?_ trivial ?_
    · repeat' first | (exact PLe.refl _) | (exact BLe.refl _) | (exact PLeL.nil) | (exact BLeL.nil) | (refine ⟨?_, ?_⟩) | (refine PLeL.cons ?_ ?_) | (refine BLeL.cons ?_ ?_)
    · intro m hm _
      refine ⟨fun h1 => ?_, fun h1 => ?_⟩
      · have hlt : m < n := by simpa using h1
        have e1 := succ_w hlt hn
        clear h1
        repeat' first | (exact PLe.refl _) | (exact BLe.refl _) | (exact PLeL.nil) | (exact BLeL.nil) | (refine ⟨?_, ?_⟩) | (refine PLeL.cons ?_ ?_) | (refine BLeL.cons ?_ ?_) | (refine ple_int ?_) | (refine ple_bool ?_) | (refine ple_tt ?_) | (refine ple_ff ?_) | (refine PLe.aggL ?_) | (refine PLe.tupL ?_) | (refine BLe.cellsL ?_) | (refine next_rng (cn := cnt 16) rfl (fun _ => rfl) hlt trivial ?_) | (refine fun h => absurd h (by decide)) | (refine fun (h : @Eq Bool _ _) => ?_)
        all_goals first | trivial | rfl | omega | (exact e1) | skip
      · obtain rfl : n = m := by
          have : ¬ ((m : Int) < n) := of_decide_eq_false h1
          omega
        clear h1
        repeat' first | (exact PLe.refl _) | (exact BLe.refl _) | (exact PLeL.nil) | (exact BLeL.nil) | (refine ⟨?_, ?_⟩) | (refine PLeL.cons ?_ ?_) | (refine BLeL.cons ?_ ?_) | (refine ple_int ?_) | (refine ple_bool ?_) | (refine ple_tt ?_) | (refine ple_ff ?_) | (refine PLe.aggL ?_) | (refine PLe.tupL ?_) | (refine BLe.cellsL ?_) | (refine fun h => absurd h (by decide)) | (refine fun (h : @Eq Bool _ _) => ?_)
        all_goals first | trivial | rfl | omega | skip
  · exact h.elim
def enclCS : V.Spec
  | [.slice none n get, .fn (.func 77) [] []] => (some (isL famL n get ∧ 0 < n), encR (encM (cF) (fun i => famOf (get i)) n))
  | _ => bad
set_option maxRecDepth 20000 in
theorem sf74c : SF Try.prog 74 enclCS := by
  refine sf_of types_ok mixed (l := [(77, famS cF)]) ⟨sf77, trivial⟩ (es := []) trivial 2 Try.func74 rfl (by kernel_rfl) fun args h => ?_
  unfold enclCS at h
  split at h
  · rename_i n get
    obtain ⟨h, hn0⟩ : isL famL n get ∧ 0 < n := h
    obtain ⟨hn, s, rfl⟩ := isL.get h
    clear h
    refine ⟨rfl, ?_⟩
    show evalCode _ _ _ fun o => match o with
      | .normal st | .ret st => withP _ (_ ∧ PLe _ (encR (encM (cF) s n)))
      | _ => False
    refine ⟨⟨by decide, by simpa using hn0, rfl⟩, ?_⟩
    refine halt_rng (cnt 16) n [1, 4, 5, 14, 15, 16] [4, 5] (fun m => [.fn (.func 77) [] [], .ptr 4 0, .ptr 5 0, .slice none n fun i => famL (s i), I n, I m]) (fun m => [.cells [I 0, I 0], .cells (rngL (encM (cF) s m))]) (fun _ => True) rfl ?_ trivial ?_
    · repeat' first | (exact PLe.refl _) | (exact BLe.refl _) | (exact PLeL.nil) | (exact BLeL.nil) | (refine ⟨?_, ?_⟩) | (refine PLeL.cons ?_ ?_) | (refine BLeL.cons ?_ ?_)
    · intro m hm _
      refine ⟨fun h1 => ?_, fun h1 => ?_⟩
      · have hlt : m < n := by simpa using h1
        have e1 := succ_w hlt hn
        clear h1
        repeat' first | (exact PLe.refl _) | (exact BLe.refl _) | (exact PLeL.nil) | (exact BLeL.nil) | (refine ⟨?_, ?_⟩) | (refine PLeL.cons ?_ ?_) | (refine BLeL.cons ?_ ?_) | (refine ple_int ?_) | (refine ple_bool ?_) | (refine ple_tt ?_) | (refine ple_ff ?_) | (refine PLe.aggL ?_) | (refine PLe.tupL ?_) | (refine BLe.cellsL ?_) | (refine next_rng (cn := cnt 16) rfl (fun _ => rfl) hlt trivial ?_) | (refine fun h => absurd h (by decide)) | (refine fun (h : @Eq Bool _ _) => ?_)
        all_goals first | trivial | rfl | omega | (exact e1) | skip
      · obtain rfl : n = m := by
          have : ¬ ((m : Int) < n) := of_decide_eq_false h1
          omega
        clear h1
        repeat' first | (exact PLe.refl _) | (exact BLe.refl _) | (exact PLeL.nil) | (exact BLeL.nil) | (refine ⟨?_, ?_⟩) | (refine PLeL.cons ?_ ?_) | (refine BLeL.cons ?_ ?_) | (refine ple_int ?_) | (refine ple_bool ?_) | (refine ple_tt ?_) | (refine ple_ff ?_) | (refine PLe.aggL ?_) | (refine PLe.tupL ?_) | (refine BLe.cellsL ?_) | (refine fun h => absurd h (by decide)) | (refine fun (h : @Eq Bool _ _) => ?_)
        all_goals first | trivial | rfl | omega | skip
  · exact h.elim
def enclDS : V.Spec
  | [.slice none n get, .fn (.func 118) [] [.cptr [.int .i64 q]]] => (some (isL famL n get ∧ 0 < n), encR (encM (dropF q) (fun i => famOf (get i)) n))
  | _ => bad
set_option maxRecDepth 20000 in
theorem sf74d : SF Try.prog 74 enclDS := by
  refine sf_of types_ok mixed (l := [(118, dropFS)]) ⟨sf118, trivial⟩ (es := []) trivial 2 Try.func74 rfl (by kernel_rfl) fun args h => ?_
  unfold enclDS at h
  split at h
  · rename_i n get q
    obtain ⟨h, hn0⟩ : isL famL n get ∧ 0 < n := h
    obtain ⟨hn, s, rfl⟩ := isL.get h
    clear h
    refine ⟨rfl, ?_⟩
    show evalCode _ _ _ fun o => match o with
      | .normal st | .ret st => withP _ (_ ∧ PLe _ (encR (encM (dropF q) s n)))
      | _ => False
    refine ⟨⟨by decide, by simpa using hn0, rfl⟩, ?_⟩
    refine halt_rng (cnt 16) n [1, 4, 5, 14, 15, 16] [4, 5] (fun m => [.fn (.func 118) [] [.cptr [I q]], .ptr 4 0, .ptr 5 0, .slice none n fun i => famL (s i), I n, I m]) (fun m => [.cells [I 0, I 0], .cells (rngL (encM (dropF q) s m))]) (fun _ => True) rfl ?_ trivial ?_
    · repeat' first | (exact PLe.refl _) | (exact BLe.refl _) | (exact PLeL.nil) | (exact BLeL.nil) | (refine ⟨?_, ?_⟩) | (refine PLeL.cons ?_ ?_) | (refine BLeL.cons ?_ ?_)
    · intro m hm _
      refine ⟨fun h1 => ?_, fun h1 => ?_⟩
      · have hlt : m < n := by simpa using h1
        have e1 := succ_w hlt hn
        clear h1
        repeat' first | (exact PLe.refl _) | (exact BLe.refl _) | (exact PLeL.nil) | (exact BLeL.nil) | (refine ⟨?_, ?_⟩) | (refine PLeL.cons ?_ ?_) | (refine BLeL.cons ?_ ?_) | (refine ple_int ?_) | (refine ple_bool ?_) | (refine ple_tt ?_) | (refine ple_ff ?_) | (refine PLe.aggL ?_) | (refine PLe.tupL ?_) | (refine BLe.cellsL ?_) | (refine next_rng (cn := cnt 16) rfl (fun _ => rfl) hlt trivial ?_) | (refine fun h => absurd h (by decide)) | (refine fun (h : @Eq Bool _ _) => ?_)
        all_goals first | trivial | rfl | omega | (exact e1) | skip
      · obtain rfl : n = m := by
          have : ¬ ((m : Int) < n) := of_decide_eq_false h1
          omega
        clear h1
        repeat' first | (exact PLe.refl _) | (exact BLe.refl _) | (exact PLeL.nil) | (exact BLeL.nil) | (refine ⟨?_, ?_⟩) | (refine PLeL.cons ?_ ?_) | (refine BLeL.cons ?_ ?_) | (refine ple_int ?_) | (refine ple_bool ?_) | (refine ple_tt ?_) | (refine ple_ff ?_) | (refine PLe.aggL ?_) | (refine PLe.tupL ?_) | (refine BLe.cellsL ?_) | (refine fun h => absurd h (by decide)) | (refine fun (h : @Eq Bool _ _) => ?_)
        all_goals first | trivial | rfl | omega | skip
  · exact h.elim
def selF (f : Nat) : Fam → Rng := bif Nat.beq f 75 then restsF else bif Nat.beq f 76 then bF else cF
def enclS : V.Spec
  | [.slice none n get, .fn (.func f) [] []] => (some ((isL famL n get ∧ 0 < n) ∧ (f = 75 ∨ f = 76 ∨ f = 77)), encR (encM (selF f) (fun i => famOf (get i)) n))
  | _ => bad
theorem sf74 : SF Try.prog 74 enclS := by
  refine sf_each ⟨_, _, Try.func74, by kernel_rfl, rfl⟩ fun args h => ?_
  unfold enclS at h ⊢
  split at h
  · obtain ⟨h, h1 | h1 | h1⟩ := h
    · subst h1; exact sf_at sf74a h rfl
    · subst h1; exact sf_at sf74b h rfl
    · subst h1; exact sf_at sf74c h rfl
  · exact h.elim
def drawsS : V.Spec
  | [.slice none n get, .int .i64 q] => (some (isL famL n get ∧ 0 < n), encR (encM (dropF q) (fun i => famOf (get i)) n))
  | _ => bad
set_option maxRecDepth 20000 in
theorem sf81 : SF Try.prog 81 drawsS := by
  refine sf_of types_ok mixed (l := [(74, enclDS)]) ⟨sf74d, trivial⟩ (es := []) trivial 2 Try.func81 rfl (by kernel_rfl) fun args h => ?_
  unfold drawsS at h
  split at h
  · rename_i n get q
    obtain ⟨h, hn0⟩ : isL famL n get ∧ 0 < n := h
    refine ⟨rfl, ?_⟩
    repeat' first | (exact PLe.refl _) | (exact BLe.refl _) | (exact PLeL.nil) | (exact BLeL.nil) | (refine ⟨?_, ?_⟩) | (refine PLeL.cons ?_ ?_) | (refine BLeL.cons ?_ ?_) | (refine ple_int ?_) | (refine ple_bool ?_) | (refine ple_tt ?_) | (refine ple_ff ?_) | (refine PLe.aggL ?_) | (refine PLe.tupL ?_) | (refine BLe.cellsL ?_) | (refine fun h => absurd h (by decide)) | (refine fun (h : @Eq Bool _ _) => ?_)
    all_goals first | trivial | rfl | omega | skip
    all_goals exact h
  · exact h.elim
end Go.Proofs.Ytnjhbmcambofgaa
