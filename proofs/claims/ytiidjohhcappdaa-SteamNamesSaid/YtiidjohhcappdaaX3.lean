/- The examples come out so. -/
import Derived.Test.YtiidjohhcappdaaX1
import Derived.Test.YtiidjohhcappdaaS31
namespace Go.Proofs.Ytiidjohhcappdaa
open Go.V
theorem ok40 : okFn Try.prog xL 40 Try.f40 := ⟨Try.func40, by kernel_rfl⟩
theorem ok9 : okFn Try.prog xL 9 Try.f9 := ⟨Try.func9, by kernel_rfl⟩
noncomputable def xT2 : XT := ⟨types, (9, Try.f9) :: (40, Try.f40) :: xG, xL⟩
def xO2 : XO' := [(40, g40)]
theorem xO2_ok : ∀ f g, V.look xO2 f = some g → has (xT2.G.map Prod.fst) f = true ∧ SF Try.prog f fun xs => (some ((g xs).isSome = true), (g xs).getD .junk) := by
  intro f g h
  unfold xO2 at h
  simp only [V.look] at h
  cases hb : Nat.beq 40 f with
  | true =>
    rw [hb] at h
    obtain rfl := Nat.eq_of_beq_eq_true hb
    have h : some g40 = some g := h
    cases h
    exact ⟨by kernel_rfl, sf40x⟩
  | false => rw [hb] at h; cases h
theorem xFo_sound (n : Nat) : XSound Try.prog xT2 (xFo xT2 1000 xO2 n) := xFo_ok (T := xT2) types_ok mixed (And.intro ok9 (And.intro ok40 xG_ok)) (by kernel_rfl) 1000 xO2_ok n
theorem names_run : (xFo xT2 1000 xO2 40).s 9 [] = some (.bool true) := by kernel_rfl
theorem sf9 : SF Try.prog 9 fun xs => (some (xs = []), .bool true) := sf_x (xFo_sound 40) names_run
end Go.Proofs.Ytiidjohhcappdaa
