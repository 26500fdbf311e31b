/- What the chapter shows comes out so. -/
import Derived.Test.YtiidjohhcappdaaX1
namespace Go.Proofs.Ytiidjohhcappdaa
open Go.V
theorem awake_runs : (xF xT 1000 40).s 17 [] = some (.bool true) := by kernel_rfl
theorem sf17 : SF Try.prog 17 fun xs => (some (xs = []), .bool true) := sf_x (xF_sound 40) awake_runs
end Go.Proofs.Ytiidjohhcappdaa
