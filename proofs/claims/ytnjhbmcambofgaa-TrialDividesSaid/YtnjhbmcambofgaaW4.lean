/- Layer 4: loops whose heads are told by a parameter of any kind. -/
import Derived.Test.YtnjhbmcambofgaaW3
namespace Go.V
theorem ble_arrv {len len' : Nat} {get get' : Nat → PV} (hl : len = len') (h : ∀ i, i < len → PLe (get i) (get' i)) : BLe (.arrv len get) (.arrv len' get') := by
  subst hl; exact .arrv _ _ _ h
/-- A loop whose heads are told by a parameter of any kind; a measure of the state falls. -/
def MInv {α : Type} (live keep : List Nat) (vals : α → List PV) (bls : α → List Blk) (Q : α → Prop) (st : St) : Prop := ∃ m, Q m ∧ st = mkSt (live.zip (vals m)) (keep.zip (bls m))
theorem halt_mu {C : Ctx} {α : Type} {a : Code} {st : St} {k : Out → Prop} (cn : St → Nat) (live keep : List Nat) (vals : α → List PV) (bls : α → List Blk) (Q : α → Prop) (m0 : α) (hoff : C.off = 0)
    (h1 : HeadIs live keep st (vals m0) (bls m0)) (h3 : Q m0)
    (step : ∀ m, Q m → evalCode C a (mkSt (live.zip (vals m)) (keep.zip (bls m))) fun o => match o with
      | .normal st' => Halt (∃ st1, SLe (clean C.off live keep st') st1 ∧ MInv live keep vals bls Q st1 ∧ cn st1 < cn (mkSt (live.zip (vals m)) (keep.zip (bls m))))
      | o => k o) :
    Halt (∃ (live keep : List Nat) (Inv : St → Prop) (μ : St → Nat), (∃ st1, SLe (clean C.off live keep st) st1 ∧ Inv st1) ∧
      ∀ st, Inv st → evalCode C a st fun o => match o with | .normal st' => Halt (∃ st1, SLe (clean C.off live keep st') st1 ∧ Inv st1 ∧ μ st1 < μ st) | o => k o) := by
  refine .mk ⟨live, keep, MInv live keep vals bls Q, cn, ?_, ?_⟩
  · obtain ⟨g1, g2⟩ := h1
    rw [hoff]
    exact ⟨_, sle_head _ _ g1 g2, m0, h3, rfl⟩
  · rintro st ⟨m, hq, rfl⟩
    exact step m hq
theorem next_mu {off : Nat} {α : Type} {cn : St → Nat} {m : α} {live keep : List Nat} {vals : α → List PV} {bls : α → List Blk} {Q : α → Prop} {st' : St} (m' : α) (hoff : off = 0)
    (hlt : cn (mkSt (live.zip (vals m')) (keep.zip (bls m'))) < cn (mkSt (live.zip (vals m)) (keep.zip (bls m)))) (hq : Q m') (h : HeadIs live keep st' (vals m') (bls m')) :
    Halt (∃ st1, SLe (clean off live keep st') st1 ∧ MInv live keep vals bls Q st1 ∧ cn st1 < cn (mkSt (live.zip (vals m)) (keep.zip (bls m)))) := by
  obtain ⟨g1, g2⟩ := h
  rw [hoff]
  exact .mk ⟨_, sle_head _ _ g1 g2, ⟨m', hq, rfl⟩, hlt⟩
end Go.V
