/- Layer 4: the document's first examples come out so. -/
import Derived.Test.YtnjhbmcambofgaaS31
import Derived.Test.YtnjhbmcambofgaaS13
import Derived.Test.YtnjhbmcambofgaaS9
namespace Go.V
theorem sf_le {P : Program} {f : Nat} {s s' : Spec} (h : SF P f s) (hn : ∀ args, (s' args).1.getD True → (s args).1.getD True ∧ PLe (s args).2 (s' args).2) : SF P f s' := by
  refine ⟨?_, h.2⟩
  intro args σ w vals hv hr hσ hp
  obtain ⟨h1, h2⟩ := hn args hp
  have h0 := h.1 args σ w vals hv hr hσ h1
  intro cs
  obtain ⟨e, w', fr, ⟨v, σ', a1, a2, a3, a4, a5⟩, h3⟩ := h0 cs
  exact ⟨e, w', fr, ⟨v, σ', a1, a2, a3, a4, RelP.le h2 a5⟩, h3⟩
theorem sf_atle {P : Program} {f : Nat} {s : Spec} (h : SF P f s) {args : List PV} {v : PV} (h1 : (s args).1.getD True) (h2 : PLe (s args).2 v) : SF P f (atS args v) :=
  sf_le h fun xs hx => by
    have hx : xs = args := hx
    subst hx
    exact ⟨h1, h2⟩
end Go.V
namespace Go.Proofs.Ytnjhbmcambofgaa
open Go.V
set_option linter.unusedSimpArgs false
set_option linter.unusedVariables false

def exW : Tst := ⟨⟨0, 10⟩, ⟨1, 3⟩, ⟨0, 1⟩, 2, fun i => [⟨0, 2, 3⟩, ⟨10, 22, 33⟩].getD i ⟨0, 0, 0⟩⟩
def exS : Svy := ⟨4, 5, 3, fun i => [⟨0, 1, 6, 9⟩, ⟨1, 2, 0, 3⟩, ⟨2, 3, 4, 7⟩].getD i ⟨0, 0, 0, 0⟩⟩
def exG : List Int := [0, 0, 2, 3]
def exGV : PV := .slice none 4 fun i => intL (exG.getD i 0)
def exPV : PV := .slice none 1 fun i => intL ([3].getD i 0)
set_option maxRecDepth 20000 in
set_option maxHeartbeats 1000000 in
theorem sf60 : SF Try.prog 60 (V.atS [] (.agg (tstC exW))) := by
  refine sf_of types_ok mixed (l := []) trivial (es := []) trivial 0 Try.func60 rfl (by kernel_rfl) fun args h => ?_
  have h : args = _ := h
  subst h
  refine ⟨rfl, ?_⟩
  show evalCode _ _ _ fun o => match o with
    | .normal st | .ret st => withP _ (_ ∧ PLe _ (.agg (tstC exW)))
    | _ => False
  repeat' first | (refine ple_slice rfl fun i hi => ?_; match i, hi with | 0, _ => rfl | 1, _ => rfl) | (exact PLe.refl _) | (exact BLe.refl _) | (exact PLeL.nil) | (exact BLeL.nil) | (refine ⟨?_, ?_⟩) | (refine PLeL.cons ?_ ?_) | (refine BLeL.cons ?_ ?_) | (refine ple_int ?_) | (refine ple_bool ?_) | (refine ple_tt ?_) | (refine ple_ff ?_) | (refine PLe.aggL ?_) | (refine PLe.tupL ?_) | (refine BLe.cellsL ?_) | (refine fun h => absurd h (by decide)) | (refine fun (h : @Eq Bool _ _) => ?_)
  all_goals first | trivial | rfl | omega | skip

set_option maxRecDepth 20000 in
set_option maxHeartbeats 1000000 in
theorem sf61 : SF Try.prog 61 (V.atS [] (.agg (svyC exS))) := by
  refine sf_of types_ok mixed (l := []) trivial (es := []) trivial 0 Try.func61 rfl (by kernel_rfl) fun args h => ?_
  have h : args = _ := h
  subst h
  refine ⟨rfl, ?_⟩
  show evalCode _ _ _ fun o => match o with
    | .normal st | .ret st => withP _ (_ ∧ PLe _ (.agg (svyC exS)))
    | _ => False
  repeat' first | (refine ple_slice rfl fun i hi => ?_; match i, hi with | 0, _ => rfl | 1, _ => rfl | 2, _ => rfl) | (exact PLe.refl _) | (exact BLe.refl _) | (exact PLeL.nil) | (exact BLeL.nil) | (refine ⟨?_, ?_⟩) | (refine PLeL.cons ?_ ?_) | (refine BLeL.cons ?_ ?_) | (refine ple_int ?_) | (refine ple_bool ?_) | (refine ple_tt ?_) | (refine ple_ff ?_) | (refine PLe.aggL ?_) | (refine PLe.tupL ?_) | (refine BLe.cellsL ?_) | (refine fun h => absurd h (by decide)) | (refine fun (h : @Eq Bool _ _) => ?_)
  all_goals first | trivial | rfl | omega | skip

theorem sf24w : SF Try.prog 24 (V.atS [.agg (tstC exW)] (.tup [I 4, encR ⟨2, 3⟩, encR ⟨2, 3⟩, encR ⟨0, 0⟩, I 0])) :=
  sf_at sf24 (show isL stpL 2 _ from .mk exW.s (by decide) rfl) (by kernel_rfl)
theorem sf28w : SF Try.prog 28 (V.atS [.agg (tstC exW), I 20] (.tup [encR ⟨42, 63⟩, I 0])) :=
  sf_at sf28 (show isL stpL 2 _ from .mk exW.s (by decide) rfl) (by kernel_rfl)
theorem gw0 : groupsM exS 0 = 0 := by kernel_rfl
theorem gw1 : groupsM exS 1 = 0 := by kernel_rfl
theorem gw2 : groupsM exS 2 = 2 := by kernel_rfl
theorem gw3 : groupsM exS 3 = 3 := by kernel_rfl
theorem groups_w : ∀ i, i < 4 → intL (groupsM exS i) = intL (exG.getD i 0) := by
  intro i hi
  match i, hi with
  | 0, _ => exact congrArg intL gw0
  | 1, _ => exact congrArg intL gw1
  | 2, _ => exact congrArg intL gw2
  | 3, _ => exact congrArg intL gw3
theorem sf42w : SF Try.prog 42 (V.atS [.agg (svyC exS)] (.tup [exGV, I 0])) := by
  refine sf_atle sf42 (show isL obsL 3 _ from .mk exS.s (by decide) rfl) ?_
  refine PLe.tupL (.cons ?_ (.cons ?_ .nil))
  · exact ple_slice (by kernel_rfl) fun i hi => groups_w i (by rw [show groupsN _ = 4 by kernel_rfl] at hi; exact hi)
  · exact ple_int (by kernel_rfl)
theorem plan_k : (planR exS).k = 1 := by kernel_rfl
theorem plan_g : (planR exS).g 0 = intL 3 := by kernel_rfl
theorem sf51w : SF Try.prog 51 (V.atS [.agg (svyC exS)] (.tup [exPV, I 0])) := by
  refine sf_atle sf51 (show isL obsL 3 _ from .mk exS.s (by decide) rfl) ?_
  refine PLe.tupL (.cons ?_ (.cons ?_ .nil))
  · refine ple_slice plan_k fun i hi => ?_
    have hi : i < (planR exS).k := hi
    rw [plan_k] at hi
    obtain rfl : i = 0 := by omega
    exact plan_g
  · exact ple_int (by kernel_rfl)
def intsW : V.Spec := fun xs => (some (xs = [exGV, .slice none 4 fun i => ((([I 0, I 0, I 2, I 3] : List PV).map toView).drop (i * 1)).take 1] ∨ xs = [exPV, .slice none 1 fun i => ((([I 3] : List PV).map toView).drop (i * 1)).take 1]), .bool true)
theorem sf46w : SF Try.prog 46 intsW := by
  refine sf_le sf46b fun args h => ?_
  rcases h with rfl | rfl
  · refine ⟨⟨.mk (by decide) fun i hi => ⟨_, rfl⟩, .mk (by decide) fun i hi => ?_⟩, ple_bool (by kernel_rfl)⟩
    match i, hi with
    | 0, _ => exact ⟨_, rfl⟩
    | 1, _ => exact ⟨_, rfl⟩
    | 2, _ => exact ⟨_, rfl⟩
    | 3, _ => exact ⟨_, rfl⟩
  · refine ⟨⟨.mk (by decide) fun i hi => ⟨_, rfl⟩, .mk (by decide) fun i hi => ?_⟩, ple_bool (by kernel_rfl)⟩
    match i, hi with
    | 0, _ => exact ⟨_, rfl⟩
set_option maxRecDepth 20000 in
set_option maxHeartbeats 1000000 in
theorem sf18 : SF Try.prog 18 (V.atS [] (.bool true)) := by
  refine sf_of types_ok mixed (l := [(60, V.atS [] (.agg (tstC exW))), (61, V.atS [] (.agg (svyC exS))), (24, V.atS [.agg (tstC exW)] (.tup [I 4, encR ⟨2, 3⟩, encR ⟨2, 3⟩, encR ⟨0, 0⟩, I 0])), (28, V.atS [.agg (tstC exW), I 20] (.tup [encR ⟨42, 63⟩, I 0])), (42, V.atS [.agg (svyC exS)] (.tup [exGV, I 0])), (51, V.atS [.agg (svyC exS)] (.tup [exPV, I 0])), (46, intsW)]) ⟨sf60, sf61, sf24w, sf28w, sf42w, sf51w, sf46w, trivial⟩ (es := []) trivial 0 Try.func18 rfl (by kernel_rfl) fun args h => ?_
  have h : args = _ := h
  subst h
  refine ⟨rfl, ?_⟩
  show evalCode _ _ _ fun o => match o with
    | .normal st | .ret st => withP _ (_ ∧ PLe _ (.bool true))
    | _ => False
  repeat' first | (exact PLe.refl _) | (exact BLe.refl _) | (exact PLeL.nil) | (exact BLeL.nil) | (refine ⟨?_, ?_⟩) | (refine PLeL.cons ?_ ?_) | (refine BLeL.cons ?_ ?_) | (refine ple_int ?_) | (refine ple_bool ?_) | (refine ple_tt ?_) | (refine ple_ff ?_) | (refine PLe.aggL ?_) | (refine PLe.tupL ?_) | (refine BLe.cellsL ?_) | (refine fun h => absurd h (by decide)) | (refine fun (h : @Eq Bool _ _) => ?_)
  all_goals first | trivial | rfl | omega | (exact .inl rfl) | (exact .inr rfl) | skip

end Go.Proofs.Ytnjhbmcambofgaa
