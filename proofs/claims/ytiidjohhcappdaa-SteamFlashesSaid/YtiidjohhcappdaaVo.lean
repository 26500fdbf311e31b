/- Part 12: 'says no more than', reckoned down to equations on numbers. -/
import Derived.Test.YtiidjohhcappdaaVm
namespace Go.V

def ple1 (p q : PV) : Prop :=
  match q with
  | .junk => True
  | .int k n => match p with
    | .int k' m => bif kindEq k' k then m = n else False
    | _ => False
  | .bool b => match p with
    | .bool c => c = b
    | .tt => b = true
    | .ff => b = false
    | _ => False
  | .slice none len get => match p with
    | .slice none len' get' => len' = len ∧ ∀ i, i < len' → get' i = get i
    | _ => False
  | .nilp => match p with | .nilp => True | _ => False
  | .nils => match p with | .nils => True | _ => False
  | .tt => match p with | .tt => True | _ => False
  | .ff => match p with | .ff => True | _ => False
  | _ => False
def pleL (f : PV → PV → Prop) : List PV → List PV → Prop
  | [], [] => True
  | p :: ps, q :: qs => f p q ∧ pleL f ps qs
  | _, _ => False
def ple2 (p q : PV) : Prop :=
  match q with
  | .agg ys => match p with
    | .agg xs => pleL ple1 xs ys
    | _ => False
  | q => ple1 p q
def ple (p q : PV) : Prop :=
  match q with
  | .tup ys => match p with
    | .tup xs => pleL ple2 xs ys
    | _ => False
  | q => ple2 p q

theorem ple1_ok {p q : PV} (h : ple1 p q) : PLe p q := by
  unfold ple1 at h
  split at h
  · exact .junk _
  · rename_i k n
    split at h
    · rename_i k' m
      cases hk : kindEq k' k with
      | true =>
        rw [hk] at h
        obtain rfl := kindEq_eq hk
        exact .int _ _ _ h
      | false => rw [hk] at h; exact h.elim
    · exact h.elim
  · split at h
    · exact .bool _ _ h
    · exact .tt _ h
    · exact .ff _ h
    · exact h.elim
  · split at h
    · obtain ⟨rfl, h⟩ := h
      exact .slice _ _ _ _ h
    · exact h.elim
  · split at h
    · exact .refl _
    · exact h.elim
  · split at h
    · exact .refl _
    · exact h.elim
  · split at h
    · exact .refl _
    · exact h.elim
  · split at h
    · exact .refl _
    · exact h.elim
  · exact h.elim
theorem pleL_ok {f : PV → PV → Prop} (hf : ∀ p q, f p q → PLe p q) : ∀ {ps qs : List PV}, pleL f ps qs → PLeL ps qs
  | [], [], _ => .nil
  | _ :: _, _ :: _, h => .cons (hf _ _ h.1) (pleL_ok hf h.2)
  | [], _ :: _, h => h.elim
  | _ :: _, [], h => h.elim
theorem ple2_ok {p q : PV} (h : ple2 p q) : PLe p q := by
  unfold ple2 at h
  split at h
  · split at h
    · exact PLe.aggL (pleL_ok (fun _ _ => ple1_ok) h)
    · exact h.elim
  · exact ple1_ok h
theorem ple_ok {p q : PV} (h : ple p q) : PLe p q := by
  unfold ple at h
  split at h
  · split at h
    · exact PLe.tupL (pleL_ok (fun _ _ => ple2_ok) h)
    · exact h.elim
  · exact ple2_ok h

end Go.V
