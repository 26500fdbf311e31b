/- The types of the seat, by program: closed facts of the loaded text. -/
import Derived.Test.YtnjhbmcambofgaaW2
import Derived.Test.YtnjhbmcambofgaaChecked
namespace Go.Proofs.Ytnjhbmcambofgaa
open Go.V
def ti3 : TI := ⟨.scalar (some .i64), 1, 8, [.int .i64 0], false⟩     -- int
theorem ti3_ok : TIok Try.prog 3 ti3 := tiok 3 ti3 (by kernel_rfl) (by kernel_rfl) (by kernel_rfl) (by kernel_rfl) 5 (by kernel_rfl)
def ti4 : TI := ⟨.bool, 1, 1, [.ff], false⟩     -- bool
theorem ti4_ok : TIok Try.prog 4 ti4 := tiok 4 ti4 (by kernel_rfl) (by kernel_rfl) (by kernel_rfl) (by kernel_rfl) 5 (by kernel_rfl)
def ti5 : TI := ⟨.scalar (some .u8), 1, 1, [.int .u8 0], false⟩     -- uint8
theorem ti5_ok : TIok Try.prog 5 ti5 := tiok 5 ti5 (by kernel_rfl) (by kernel_rfl) (by kernel_rfl) (by kernel_rfl) 5 (by kernel_rfl)
def ti9 : TI := ⟨.scalar none, 1, 16, [.str ⟨#[]⟩], false⟩     -- string
theorem ti9_ok : TIok Try.prog 9 ti9 := tiok 9 ti9 (by kernel_rfl) (by kernel_rfl) (by kernel_rfl) (by kernel_rfl) 5 (by kernel_rfl)
def ti12 : TI := ⟨.scalar (some .u64), 1, 8, [.int .u64 0], false⟩     -- uintptr
theorem ti12_ok : TIok Try.prog 12 ti12 := tiok 12 ti12 (by kernel_rfl) (by kernel_rfl) (by kernel_rfl) (by kernel_rfl) 5 (by kernel_rfl)
def ti13 : TI := ⟨.struct [(0, 9), (1, 12)], 2, 24, [.str ⟨#[]⟩, .int .u64 0], false⟩     -- struct { msg string; addr uintptr }
theorem ti13_ok : TIok Try.prog 13 ti13 := tiok 13 ti13 (by kernel_rfl) (by kernel_rfl) (by kernel_rfl) (by kernel_rfl) 5 (by kernel_rfl)
def ti21 : TI := ⟨.scalar (some .i32), 1, 4, [.int .i32 0], false⟩     -- int32
theorem ti21_ok : TIok Try.prog 21 ti21 := tiok 21 ti21 (by kernel_rfl) (by kernel_rfl) (by kernel_rfl) (by kernel_rfl) 5 (by kernel_rfl)
def ti22 : TI := ⟨.struct [(0, 3), (1, 3)], 2, 16, [.int .i64 0, .int .i64 0], true⟩     -- struct { Lo int; Hi int }
theorem ti22_ok : TIok Try.prog 22 ti22 := tiok 22 ti22 (by kernel_rfl) (by kernel_rfl) (by kernel_rfl) (by kernel_rfl) 5 (by kernel_rfl)
def ti23 : TI := ⟨.struct [(0, 3), (1, 3)], 2, 16, [.int .i64 0, .int .i64 0], true⟩     -- fumaroleref04.Range
theorem ti23_ok : TIok Try.prog 23 ti23 := tiok 23 ti23 (by kernel_rfl) (by kernel_rfl) (by kernel_rfl) (by kernel_rfl) 5 (by kernel_rfl)
def ti24 : TI := ⟨.slice 113, 1, 24, [.nils], false⟩     -- []fumaroleref04.Step
theorem ti24_ok : TIok Try.prog 24 ti24 := tiok 24 ti24 (by kernel_rfl) (by kernel_rfl) (by kernel_rfl) (by kernel_rfl) 5 (by kernel_rfl)
def ti25 : TI := ⟨.struct [(0, 23), (2, 23), (4, 23), (6, 24)], 7, 72, [.int .i64 0, .int .i64 0, .int .i64 0, .int .i64 0, .int .i64 0, .int .i64 0, .nils], false⟩     -- struct { A fumaroleref04.Range; B fumaroleref04.Range; C fumaroleref04.Range; Steps []fumaroleref04.Step }
theorem ti25_ok : TIok Try.prog 25 ti25 := tiok 25 ti25 (by kernel_rfl) (by kernel_rfl) (by kernel_rfl) (by kernel_rfl) 5 (by kernel_rfl)
def ti26 : TI := ⟨.struct [(0, 23), (2, 23), (4, 23), (6, 24)], 7, 72, [.int .i64 0, .int .i64 0, .int .i64 0, .int .i64 0, .int .i64 0, .int .i64 0, .nils], false⟩     -- fumaroleref04.Test
theorem ti26_ok : TIok Try.prog 26 ti26 := tiok 26 ti26 (by kernel_rfl) (by kernel_rfl) (by kernel_rfl) (by kernel_rfl) 5 (by kernel_rfl)
def ti27 : TI := ⟨.struct [(0, 3), (1, 3), (2, 3)], 3, 24, [.int .i64 0, .int .i64 0, .int .i64 0], true⟩     -- struct { A int; B int; C int }
theorem ti27_ok : TIok Try.prog 27 ti27 := tiok 27 ti27 (by kernel_rfl) (by kernel_rfl) (by kernel_rfl) (by kernel_rfl) 5 (by kernel_rfl)
def ti28 : TI := ⟨.struct [(0, 3), (1, 3), (2, 3)], 3, 24, [.int .i64 0, .int .i64 0, .int .i64 0], true⟩     -- fumaroleref04.Curve
theorem ti28_ok : TIok Try.prog 28 ti28 := tiok 28 ti28 (by kernel_rfl) (by kernel_rfl) (by kernel_rfl) (by kernel_rfl) 5 (by kernel_rfl)
def ti29 : TI := ⟨.scalar none, 1, 8, [.junk], false⟩     -- func() bool
theorem ti29_ok : TIok Try.prog 29 ti29 := tiok 29 ti29 (by kernel_rfl) (by kernel_rfl) (by kernel_rfl) (by kernel_rfl) 5 (by kernel_rfl)
def ti30 : TI := ⟨.scalar (some .i64), 1, 8, [.int .i64 0], false⟩     -- api.Errno
theorem ti30_ok : TIok Try.prog 30 ti30 := tiok 30 ti30 (by kernel_rfl) (by kernel_rfl) (by kernel_rfl) (by kernel_rfl) 5 (by kernel_rfl)
def ti31 : TI := ⟨.scalar none, 1, 8, [.junk], false⟩     -- func(trial.Test) api.Errno
theorem ti31_ok : TIok Try.prog 31 ti31 := tiok 31 ti31 (by kernel_rfl) (by kernel_rfl) (by kernel_rfl) (by kernel_rfl) 5 (by kernel_rfl)
def ti32 : TI := ⟨.struct [(0, 3), (1, 3)], 2, 16, [.int .i64 0, .int .i64 0], true⟩     -- trial.Range
theorem ti32_ok : TIok Try.prog 32 ti32 := tiok 32 ti32 (by kernel_rfl) (by kernel_rfl) (by kernel_rfl) (by kernel_rfl) 5 (by kernel_rfl)
def ti33 : TI := ⟨.slice 107, 1, 24, [.nils], false⟩     -- []trial.Step
theorem ti33_ok : TIok Try.prog 33 ti33 := tiok 33 ti33 (by kernel_rfl) (by kernel_rfl) (by kernel_rfl) (by kernel_rfl) 5 (by kernel_rfl)
def ti34 : TI := ⟨.struct [(0, 32), (2, 32), (4, 32), (6, 33)], 7, 72, [.int .i64 0, .int .i64 0, .int .i64 0, .int .i64 0, .int .i64 0, .int .i64 0, .nils], false⟩     -- struct { A trial.Range; B trial.Range; C trial.Range; Steps []trial.Step }
theorem ti34_ok : TIok Try.prog 34 ti34 := tiok 34 ti34 (by kernel_rfl) (by kernel_rfl) (by kernel_rfl) (by kernel_rfl) 5 (by kernel_rfl)
def ti35 : TI := ⟨.struct [(0, 32), (2, 32), (4, 32), (6, 33)], 7, 72, [.int .i64 0, .int .i64 0, .int .i64 0, .int .i64 0, .int .i64 0, .int .i64 0, .nils], false⟩     -- trial.Test
theorem ti35_ok : TIok Try.prog 35 ti35 := tiok 35 ti35 (by kernel_rfl) (by kernel_rfl) (by kernel_rfl) (by kernel_rfl) 5 (by kernel_rfl)
def ti36 : TI := ⟨.scalar none, 1, 8, [.junk], false⟩     -- func(fumaroleref04.Test) trial.Test
theorem ti36_ok : TIok Try.prog 36 ti36 := tiok 36 ti36 (by kernel_rfl) (by kernel_rfl) (by kernel_rfl) (by kernel_rfl) 5 (by kernel_rfl)
def ti37 : TI := ⟨.scalar none, 1, 8, [.junk], false⟩     -- func(fumaroleref04.Test) int
theorem ti37_ok : TIok Try.prog 37 ti37 := tiok 37 ti37 (by kernel_rfl) (by kernel_rfl) (by kernel_rfl) (by kernel_rfl) 5 (by kernel_rfl)
def ti38 : TI := ⟨.scalar none, 1, 8, [.junk], false⟩     -- func(trial.Test, trial.Curve) bool
theorem ti38_ok : TIok Try.prog 38 ti38 := tiok 38 ti38 (by kernel_rfl) (by kernel_rfl) (by kernel_rfl) (by kernel_rfl) 5 (by kernel_rfl)
def ti39 : TI := ⟨.struct [(0, 3), (1, 3), (2, 3)], 3, 24, [.int .i64 0, .int .i64 0, .int .i64 0], true⟩     -- trial.Curve
theorem ti39_ok : TIok Try.prog 39 ti39 := tiok 39 ti39 (by kernel_rfl) (by kernel_rfl) (by kernel_rfl) (by kernel_rfl) 5 (by kernel_rfl)
def ti40 : TI := ⟨.scalar none, 1, 8, [.junk], false⟩     -- func(fumaroleref04.Test, fumaroleref04.Curve) bool
theorem ti40_ok : TIok Try.prog 40 ti40 := tiok 40 ti40 (by kernel_rfl) (by kernel_rfl) (by kernel_rfl) (by kernel_rfl) 5 (by kernel_rfl)
def ti42 : TI := ⟨.scalar none, 1, 8, [.junk], false⟩     -- func(trial.Test) (int, trial.Range, trial.Range, trial.Range, api.Errno)
theorem ti42_ok : TIok Try.prog 42 ti42 := tiok 42 ti42 (by kernel_rfl) (by kernel_rfl) (by kernel_rfl) (by kernel_rfl) 5 (by kernel_rfl)
def ti43 : TI := ⟨.scalar none, 1, 8, [.junk], false⟩     -- func(fumaroleref04.Test, bool, api.Errno) api.Errno
theorem ti43_ok : TIok Try.prog 43 ti43 := tiok 43 ti43 (by kernel_rfl) (by kernel_rfl) (by kernel_rfl) (by kernel_rfl) 5 (by kernel_rfl)
def ti45 : TI := ⟨.scalar none, 1, 8, [.junk], false⟩     -- func(fumaroleref04.Test) (int, fumaroleref04.Range, fumaroleref04.Range, fumaroleref04.Range)
theorem ti45_ok : TIok Try.prog 45 ti45 := tiok 45 ti45 (by kernel_rfl) (by kernel_rfl) (by kernel_rfl) (by kernel_rfl) 5 (by kernel_rfl)
def ti46 : TI := ⟨.scalar none, 1, 8, [.junk], false⟩     -- func(fumaroleref04.Range) trial.Range
theorem ti46_ok : TIok Try.prog 46 ti46 := tiok 46 ti46 (by kernel_rfl) (by kernel_rfl) (by kernel_rfl) (by kernel_rfl) 5 (by kernel_rfl)
def ti47 : TI := ⟨.slice 3, 1, 24, [.nils], false⟩     -- []int
theorem ti47_ok : TIok Try.prog 47 ti47 := tiok 47 ti47 (by kernel_rfl) (by kernel_rfl) (by kernel_rfl) (by kernel_rfl) 5 (by kernel_rfl)
def ti49 : TI := ⟨.scalar none, 1, 8, [.junk], false⟩     -- func(trial.Test, int) (trial.Range, api.Errno)
theorem ti49_ok : TIok Try.prog 49 ti49 := tiok 49 ti49 (by kernel_rfl) (by kernel_rfl) (by kernel_rfl) (by kernel_rfl) 5 (by kernel_rfl)
def ti51 : TI := ⟨.scalar none, 1, 8, [.junk], false⟩     -- func(trial.Test, []int) (int, api.Errno)
theorem ti51_ok : TIok Try.prog 51 ti51 := tiok 51 ti51 (by kernel_rfl) (by kernel_rfl) (by kernel_rfl) (by kernel_rfl) 5 (by kernel_rfl)
def ti52 : TI := ⟨.scalar none, 1, 8, [.junk], false⟩     -- func(int, int, int) bool
theorem ti52_ok : TIok Try.prog 52 ti52 := tiok 52 ti52 (by kernel_rfl) (by kernel_rfl) (by kernel_rfl) (by kernel_rfl) 5 (by kernel_rfl)
def ti54 : TI := ⟨.scalar none, 1, 8, [.junk], false⟩     -- func(fumaroleref04.Test, int) (fumaroleref04.Range, bool)
theorem ti54_ok : TIok Try.prog 54 ti54 := tiok 54 ti54 (by kernel_rfl) (by kernel_rfl) (by kernel_rfl) (by kernel_rfl) 5 (by kernel_rfl)
def ti55 : TI := ⟨.scalar none, 1, 8, [.junk], false⟩     -- func(fumaroleref04.Test, []int) int
theorem ti55_ok : TIok Try.prog 55 ti55 := tiok 55 ti55 (by kernel_rfl) (by kernel_rfl) (by kernel_rfl) (by kernel_rfl) 5 (by kernel_rfl)
def ti56 : TI := ⟨.scalar none, 1, 8, [.junk], false⟩     -- func(fumaroleref04.Test, int, []int) bool
theorem ti56_ok : TIok Try.prog 56 ti56 := tiok 56 ti56 (by kernel_rfl) (by kernel_rfl) (by kernel_rfl) (by kernel_rfl) 5 (by kernel_rfl)
def ti58 : TI := ⟨.scalar none, 1, 8, [.junk], false⟩     -- func(trial.Test, int) (int, int, api.Errno)
theorem ti58_ok : TIok Try.prog 58 ti58 := tiok 58 ti58 (by kernel_rfl) (by kernel_rfl) (by kernel_rfl) (by kernel_rfl) 5 (by kernel_rfl)
def ti60 : TI := ⟨.scalar none, 1, 8, [.junk], false⟩     -- func(fumaroleref04.Test, int) (int, int)
theorem ti60_ok : TIok Try.prog 60 ti60 := tiok 60 ti60 (by kernel_rfl) (by kernel_rfl) (by kernel_rfl) (by kernel_rfl) 5 (by kernel_rfl)
def ti61 : TI := ⟨.scalar none, 1, 8, [.junk], false⟩     -- func(fumaroleref04.Test, int) bool
theorem ti61_ok : TIok Try.prog 61 ti61 := tiok 61 ti61 (by kernel_rfl) (by kernel_rfl) (by kernel_rfl) (by kernel_rfl) 5 (by kernel_rfl)
def ti62 : TI := ⟨.scalar none, 1, 8, [.junk], false⟩     -- func(trial.Test) (int, api.Errno)
theorem ti62_ok : TIok Try.prog 62 ti62 := tiok 62 ti62 (by kernel_rfl) (by kernel_rfl) (by kernel_rfl) (by kernel_rfl) 5 (by kernel_rfl)
def ti63 : TI := ⟨.slice 67, 1, 24, [.nils], false⟩     -- [][2]int
theorem ti63_ok : TIok Try.prog 63 ti63 := tiok 63 ti63 (by kernel_rfl) (by kernel_rfl) (by kernel_rfl) (by kernel_rfl) 5 (by kernel_rfl)
def ti65 : TI := ⟨.scalar none, 1, 8, [.junk], false⟩     -- func(trial.Test) ([][2]int, api.Errno)
theorem ti65_ok : TIok Try.prog 65 ti65 := tiok 65 ti65 (by kernel_rfl) (by kernel_rfl) (by kernel_rfl) (by kernel_rfl) 5 (by kernel_rfl)
def ti66 : TI := ⟨.scalar none, 1, 8, [.junk], false⟩     -- func(fumaroleref04.Test) [][2]int
theorem ti66_ok : TIok Try.prog 66 ti66 := tiok 66 ti66 (by kernel_rfl) (by kernel_rfl) (by kernel_rfl) (by kernel_rfl) 5 (by kernel_rfl)
def ti67 : TI := ⟨.array 2 3, 2, 16, [.int .i64 0, .int .i64 0], true⟩     -- [2]int
theorem ti67_ok : TIok Try.prog 67 ti67 := tiok 67 ti67 (by kernel_rfl) (by kernel_rfl) (by kernel_rfl) (by kernel_rfl) 5 (by kernel_rfl)
def ti68 : TI := ⟨.scalar none, 1, 8, [.junk], false⟩     -- func(fumaroleref04.Test) bool
theorem ti68_ok : TIok Try.prog 68 ti68 := tiok 68 ti68 (by kernel_rfl) (by kernel_rfl) (by kernel_rfl) (by kernel_rfl) 5 (by kernel_rfl)
def ti69 : TI := ⟨.scalar none, 1, 8, [.junk], false⟩     -- func(trial.Test, [][2]int) bool
theorem ti69_ok : TIok Try.prog 69 ti69 := tiok 69 ti69 (by kernel_rfl) (by kernel_rfl) (by kernel_rfl) (by kernel_rfl) 5 (by kernel_rfl)
def ti70 : TI := ⟨.scalar none, 1, 8, [.junk], false⟩     -- func(fumaroleref04.Test, [][2]int) bool
theorem ti70_ok : TIok Try.prog 70 ti70 := tiok 70 ti70 (by kernel_rfl) (by kernel_rfl) (by kernel_rfl) (by kernel_rfl) 5 (by kernel_rfl)
def ti71 : TI := ⟨.scalar none, 1, 8, [.junk], false⟩     -- func(fumaroleref04.Test, [][2]int, bool, int, [2]int) bool
theorem ti71_ok : TIok Try.prog 71 ti71 := tiok 71 ti71 (by kernel_rfl) (by kernel_rfl) (by kernel_rfl) (by kernel_rfl) 5 (by kernel_rfl)
def ti72 : TI := ⟨.slice 89, 1, 24, [.nils], false⟩     -- []fumaroleref04.Seen
theorem ti72_ok : TIok Try.prog 72 ti72 := tiok 72 ti72 (by kernel_rfl) (by kernel_rfl) (by kernel_rfl) (by kernel_rfl) 5 (by kernel_rfl)
def ti73 : TI := ⟨.struct [(0, 3), (1, 3), (2, 72)], 3, 40, [.int .i64 0, .int .i64 0, .nils], false⟩     -- struct { Wells int; Level int; Seen []fumaroleref04.Seen }
theorem ti73_ok : TIok Try.prog 73 ti73 := tiok 73 ti73 (by kernel_rfl) (by kernel_rfl) (by kernel_rfl) (by kernel_rfl) 5 (by kernel_rfl)
def ti74 : TI := ⟨.struct [(0, 3), (1, 3), (2, 72)], 3, 40, [.int .i64 0, .int .i64 0, .nils], false⟩     -- fumaroleref04.Survey
theorem ti74_ok : TIok Try.prog 74 ti74 := tiok 74 ti74 (by kernel_rfl) (by kernel_rfl) (by kernel_rfl) (by kernel_rfl) 5 (by kernel_rfl)
def ti75 : TI := ⟨.scalar none, 1, 8, [.junk], false⟩     -- func(fumaroleref04.Survey) int
theorem ti75_ok : TIok Try.prog 75 ti75 := tiok 75 ti75 (by kernel_rfl) (by kernel_rfl) (by kernel_rfl) (by kernel_rfl) 5 (by kernel_rfl)
def ti77 : TI := ⟨.scalar none, 1, 8, [.junk], false⟩     -- func(trial.Survey) ([]int, api.Errno)
theorem ti77_ok : TIok Try.prog 77 ti77 := tiok 77 ti77 (by kernel_rfl) (by kernel_rfl) (by kernel_rfl) (by kernel_rfl) 5 (by kernel_rfl)
def ti78 : TI := ⟨.slice 110, 1, 24, [.nils], false⟩     -- []trial.Seen
theorem ti78_ok : TIok Try.prog 78 ti78 := tiok 78 ti78 (by kernel_rfl) (by kernel_rfl) (by kernel_rfl) (by kernel_rfl) 5 (by kernel_rfl)
def ti79 : TI := ⟨.struct [(0, 3), (1, 3), (2, 78)], 3, 40, [.int .i64 0, .int .i64 0, .nils], false⟩     -- struct { Wells int; Level int; Seen []trial.Seen }
theorem ti79_ok : TIok Try.prog 79 ti79 := tiok 79 ti79 (by kernel_rfl) (by kernel_rfl) (by kernel_rfl) (by kernel_rfl) 5 (by kernel_rfl)
def ti80 : TI := ⟨.struct [(0, 3), (1, 3), (2, 78)], 3, 40, [.int .i64 0, .int .i64 0, .nils], false⟩     -- trial.Survey
theorem ti80_ok : TIok Try.prog 80 ti80 := tiok 80 ti80 (by kernel_rfl) (by kernel_rfl) (by kernel_rfl) (by kernel_rfl) 5 (by kernel_rfl)
def ti81 : TI := ⟨.scalar none, 1, 8, [.junk], false⟩     -- func(fumaroleref04.Survey) trial.Survey
theorem ti81_ok : TIok Try.prog 81 ti81 := tiok 81 ti81 (by kernel_rfl) (by kernel_rfl) (by kernel_rfl) (by kernel_rfl) 5 (by kernel_rfl)
def ti83 : TI := ⟨.scalar none, 1, 8, [.junk], false⟩     -- func(trial.Survey) (int, []int, api.Errno)
theorem ti83_ok : TIok Try.prog 83 ti83 := tiok 83 ti83 (by kernel_rfl) (by kernel_rfl) (by kernel_rfl) (by kernel_rfl) 5 (by kernel_rfl)
def ti84 : TI := ⟨.scalar none, 1, 8, [.junk], false⟩     -- func(trial.Survey) api.Errno
theorem ti84_ok : TIok Try.prog 84 ti84 := tiok 84 ti84 (by kernel_rfl) (by kernel_rfl) (by kernel_rfl) (by kernel_rfl) 5 (by kernel_rfl)
def ti85 : TI := ⟨.scalar none, 1, 8, [.junk], false⟩     -- func([]int, []int) bool
theorem ti85_ok : TIok Try.prog 85 ti85 := tiok 85 ti85 (by kernel_rfl) (by kernel_rfl) (by kernel_rfl) (by kernel_rfl) 5 (by kernel_rfl)
def ti86 : TI := ⟨.scalar none, 1, 8, [.junk], false⟩     -- func(fumaroleref04.Survey) []int
theorem ti86_ok : TIok Try.prog 86 ti86 := tiok 86 ti86 (by kernel_rfl) (by kernel_rfl) (by kernel_rfl) (by kernel_rfl) 5 (by kernel_rfl)
def ti87 : TI := ⟨.scalar none, 1, 8, [.junk], false⟩     -- func(fumaroleref04.Survey, int, int) []int
theorem ti87_ok : TIok Try.prog 87 ti87 := tiok 87 ti87 (by kernel_rfl) (by kernel_rfl) (by kernel_rfl) (by kernel_rfl) 5 (by kernel_rfl)
def ti88 : TI := ⟨.struct [(0, 3), (1, 3), (2, 23)], 4, 32, [.int .i64 0, .int .i64 0, .int .i64 0, .int .i64 0], true⟩     -- struct { From int; To int; In fumaroleref04.Range }
theorem ti88_ok : TIok Try.prog 88 ti88 := tiok 88 ti88 (by kernel_rfl) (by kernel_rfl) (by kernel_rfl) (by kernel_rfl) 5 (by kernel_rfl)
def ti89 : TI := ⟨.struct [(0, 3), (1, 3), (2, 23)], 4, 32, [.int .i64 0, .int .i64 0, .int .i64 0, .int .i64 0], true⟩     -- fumaroleref04.Seen
theorem ti89_ok : TIok Try.prog 89 ti89 := tiok 89 ti89 (by kernel_rfl) (by kernel_rfl) (by kernel_rfl) (by kernel_rfl) 5 (by kernel_rfl)
def ti90 : TI := ⟨.scalar none, 1, 8, [.junk], false⟩     -- func(fumaroleref04.Survey) bool
theorem ti90_ok : TIok Try.prog 90 ti90 := tiok 90 ti90 (by kernel_rfl) (by kernel_rfl) (by kernel_rfl) (by kernel_rfl) 5 (by kernel_rfl)
def ti91 : TI := ⟨.slice 94, 1, 24, [.nils], false⟩     -- [][]uint8
theorem ti91_ok : TIok Try.prog 91 ti91 := tiok 91 ti91 (by kernel_rfl) (by kernel_rfl) (by kernel_rfl) (by kernel_rfl) 5 (by kernel_rfl)
def ti93 : TI := ⟨.scalar none, 1, 8, [.junk], false⟩     -- func(trial.Survey) ([][]uint8, api.Errno)
theorem ti93_ok : TIok Try.prog 93 ti93 := tiok 93 ti93 (by kernel_rfl) (by kernel_rfl) (by kernel_rfl) (by kernel_rfl) 5 (by kernel_rfl)
def ti94 : TI := ⟨.slice 5, 1, 24, [.nils], false⟩     -- []uint8
theorem ti94_ok : TIok Try.prog 94 ti94 := tiok 94 ti94 (by kernel_rfl) (by kernel_rfl) (by kernel_rfl) (by kernel_rfl) 5 (by kernel_rfl)
def ti95 : TI := ⟨.scalar none, 1, 8, [.junk], false⟩     -- func(fumaroleref04.Survey, int, int) uint8
theorem ti95_ok : TIok Try.prog 95 ti95 := tiok 95 ti95 (by kernel_rfl) (by kernel_rfl) (by kernel_rfl) (by kernel_rfl) 5 (by kernel_rfl)
def ti96 : TI := ⟨.scalar none, 1, 8, [.junk], false⟩     -- func(trial.Survey, []int) bool
theorem ti96_ok : TIok Try.prog 96 ti96 := tiok 96 ti96 (by kernel_rfl) (by kernel_rfl) (by kernel_rfl) (by kernel_rfl) 5 (by kernel_rfl)
def ti97 : TI := ⟨.scalar none, 1, 8, [.junk], false⟩     -- func(fumaroleref04.Survey, []int) bool
theorem ti97_ok : TIok Try.prog 97 ti97 := tiok 97 ti97 (by kernel_rfl) (by kernel_rfl) (by kernel_rfl) (by kernel_rfl) 5 (by kernel_rfl)
def ti99 : TI := ⟨.scalar none, 1, 8, [.junk], false⟩     -- func(trial.Survey, int, []int) (trial.Survey, api.Errno)
theorem ti99_ok : TIok Try.prog 99 ti99 := tiok 99 ti99 (by kernel_rfl) (by kernel_rfl) (by kernel_rfl) (by kernel_rfl) 5 (by kernel_rfl)
def ti101 : TI := ⟨.scalar none, 1, 8, [.junk], false⟩     -- func(fumaroleref04.Survey, int, []int) (fumaroleref04.Survey, int)
theorem ti101_ok : TIok Try.prog 101 ti101 := tiok 101 ti101 (by kernel_rfl) (by kernel_rfl) (by kernel_rfl) (by kernel_rfl) 5 (by kernel_rfl)
def ti102 : TI := ⟨.scalar none, 1, 8, [.junk], false⟩     -- func(fumaroleref04.Survey, fumaroleref04.Survey) bool
theorem ti102_ok : TIok Try.prog 102 ti102 := tiok 102 ti102 (by kernel_rfl) (by kernel_rfl) (by kernel_rfl) (by kernel_rfl) 5 (by kernel_rfl)
def ti103 : TI := ⟨.scalar none, 1, 8, [.junk], false⟩     -- func(trial.Survey) fumaroleref04.Survey
theorem ti103_ok : TIok Try.prog 103 ti103 := tiok 103 ti103 (by kernel_rfl) (by kernel_rfl) (by kernel_rfl) (by kernel_rfl) 5 (by kernel_rfl)
def ti104 : TI := ⟨.scalar none, 1, 8, [.junk], false⟩     -- func(fumaroleref04.Survey, int, []int) bool
theorem ti104_ok : TIok Try.prog 104 ti104 := tiok 104 ti104 (by kernel_rfl) (by kernel_rfl) (by kernel_rfl) (by kernel_rfl) 5 (by kernel_rfl)
def ti105 : TI := ⟨.scalar none, 1, 8, [.junk], false⟩     -- func() trial.Test
theorem ti105_ok : TIok Try.prog 105 ti105 := tiok 105 ti105 (by kernel_rfl) (by kernel_rfl) (by kernel_rfl) (by kernel_rfl) 5 (by kernel_rfl)
def ti106 : TI := ⟨.struct [(0, 3), (1, 32)], 3, 24, [.int .i64 0, .int .i64 0, .int .i64 0], true⟩     -- struct { Flow int; In trial.Range }
theorem ti106_ok : TIok Try.prog 106 ti106 := tiok 106 ti106 (by kernel_rfl) (by kernel_rfl) (by kernel_rfl) (by kernel_rfl) 5 (by kernel_rfl)
def ti107 : TI := ⟨.struct [(0, 3), (1, 32)], 3, 24, [.int .i64 0, .int .i64 0, .int .i64 0], true⟩     -- trial.Step
theorem ti107_ok : TIok Try.prog 107 ti107 := tiok 107 ti107 (by kernel_rfl) (by kernel_rfl) (by kernel_rfl) (by kernel_rfl) 5 (by kernel_rfl)
def ti108 : TI := ⟨.scalar none, 1, 8, [.junk], false⟩     -- func() trial.Survey
theorem ti108_ok : TIok Try.prog 108 ti108 := tiok 108 ti108 (by kernel_rfl) (by kernel_rfl) (by kernel_rfl) (by kernel_rfl) 5 (by kernel_rfl)
def ti109 : TI := ⟨.struct [(0, 3), (1, 3), (2, 32)], 4, 32, [.int .i64 0, .int .i64 0, .int .i64 0, .int .i64 0], true⟩     -- struct { From int; To int; In trial.Range }
theorem ti109_ok : TIok Try.prog 109 ti109 := tiok 109 ti109 (by kernel_rfl) (by kernel_rfl) (by kernel_rfl) (by kernel_rfl) 5 (by kernel_rfl)
def ti110 : TI := ⟨.struct [(0, 3), (1, 3), (2, 32)], 4, 32, [.int .i64 0, .int .i64 0, .int .i64 0, .int .i64 0], true⟩     -- trial.Seen
theorem ti110_ok : TIok Try.prog 110 ti110 := tiok 110 ti110 (by kernel_rfl) (by kernel_rfl) (by kernel_rfl) (by kernel_rfl) 5 (by kernel_rfl)
def ti111 : TI := ⟨.scalar (some .u16), 1, 2, [.int .u16 0], false⟩     -- uint16
theorem ti111_ok : TIok Try.prog 111 ti111 := tiok 111 ti111 (by kernel_rfl) (by kernel_rfl) (by kernel_rfl) (by kernel_rfl) 5 (by kernel_rfl)
def ti112 : TI := ⟨.struct [(0, 3), (1, 23)], 3, 24, [.int .i64 0, .int .i64 0, .int .i64 0], true⟩     -- struct { Flow int; In fumaroleref04.Range }
theorem ti112_ok : TIok Try.prog 112 ti112 := tiok 112 ti112 (by kernel_rfl) (by kernel_rfl) (by kernel_rfl) (by kernel_rfl) 5 (by kernel_rfl)
def ti113 : TI := ⟨.struct [(0, 3), (1, 23)], 3, 24, [.int .i64 0, .int .i64 0, .int .i64 0], true⟩     -- fumaroleref04.Step
theorem ti113_ok : TIok Try.prog 113 ti113 := tiok 113 ti113 (by kernel_rfl) (by kernel_rfl) (by kernel_rfl) (by kernel_rfl) 5 (by kernel_rfl)
def ti114 : TI := ⟨.scalar none, 1, 8, [.junk], false⟩     -- func(fumaroleref04.Range, int, int) bool
theorem ti114_ok : TIok Try.prog 114 ti114 := tiok 114 ti114 (by kernel_rfl) (by kernel_rfl) (by kernel_rfl) (by kernel_rfl) 5 (by kernel_rfl)
def ti115 : TI := ⟨.scalar none, 1, 8, [.junk], false⟩     -- func(fumaroleref04.Curve, int) int
theorem ti115_ok : TIok Try.prog 115 ti115 := tiok 115 ti115 (by kernel_rfl) (by kernel_rfl) (by kernel_rfl) (by kernel_rfl) 5 (by kernel_rfl)
def ti116 : TI := ⟨.scalar none, 1, 8, [.junk], false⟩     -- func(fumaroleref04.Test, fumaroleref04.Curve, uint16) bool
theorem ti116_ok : TIok Try.prog 116 ti116 := tiok 116 ti116 (by kernel_rfl) (by kernel_rfl) (by kernel_rfl) (by kernel_rfl) 5 (by kernel_rfl)
def ti117 : TI := ⟨.scalar none, 1, 8, [.junk], false⟩     -- func(fumaroleref04.Test, int, int, uint16) bool
theorem ti117_ok : TIok Try.prog 117 ti117 := tiok 117 ti117 (by kernel_rfl) (by kernel_rfl) (by kernel_rfl) (by kernel_rfl) 5 (by kernel_rfl)
def ti118 : TI := ⟨.scalar none, 1, 8, [.junk], false⟩     -- func(fumaroleref04.Test, [][2]int, fumaroleref04.Curve) bool
theorem ti118_ok : TIok Try.prog 118 ti118 := tiok 118 ti118 (by kernel_rfl) (by kernel_rfl) (by kernel_rfl) (by kernel_rfl) 5 (by kernel_rfl)
def ti119 : TI := ⟨.scalar (some .u64), 1, 8, [.int .u64 0], false⟩     -- uint64
theorem ti119_ok : TIok Try.prog 119 ti119 := tiok 119 ti119 (by kernel_rfl) (by kernel_rfl) (by kernel_rfl) (by kernel_rfl) 5 (by kernel_rfl)
def ti120 : TI := ⟨.scalar none, 1, 8, [.junk], false⟩     -- func(int, uint64) []int
theorem ti120_ok : TIok Try.prog 120 ti120 := tiok 120 ti120 (by kernel_rfl) (by kernel_rfl) (by kernel_rfl) (by kernel_rfl) 5 (by kernel_rfl)
def ti121 : TI := ⟨.scalar none, 1, 8, [.junk], false⟩     -- func(fumaroleref04.Survey, uint64) bool
theorem ti121_ok : TIok Try.prog 121 ti121 := tiok 121 ti121 (by kernel_rfl) (by kernel_rfl) (by kernel_rfl) (by kernel_rfl) 5 (by kernel_rfl)
def ti123 : TI := ⟨.scalar none, 1, 8, [.junk], false⟩     -- func(trial.Survey, []int, []int) (bool, bool)
theorem ti123_ok : TIok Try.prog 123 ti123 := tiok 123 ti123 (by kernel_rfl) (by kernel_rfl) (by kernel_rfl) (by kernel_rfl) 5 (by kernel_rfl)
def ti124 : TI := ⟨.scalar (some .u64), 1, 8, [.int .u64 0], false⟩     -- uint
theorem ti124_ok : TIok Try.prog 124 ti124 := tiok 124 ti124 (by kernel_rfl) (by kernel_rfl) (by kernel_rfl) (by kernel_rfl) 5 (by kernel_rfl)
def ti125 : TI := ⟨.scalar none, 1, 8, [.junk], false⟩     -- func(fumaroleref04.Survey, uint64, uint16) bool
theorem ti125_ok : TIok Try.prog 125 ti125 := tiok 125 ti125 (by kernel_rfl) (by kernel_rfl) (by kernel_rfl) (by kernel_rfl) 5 (by kernel_rfl)
def ti126 : TI := ⟨.scalar none, 1, 8, [.junk], false⟩     -- func(fumaroleref04.Survey, uint64, uint8) bool
theorem ti126_ok : TIok Try.prog 126 ti126 := tiok 126 ti126 (by kernel_rfl) (by kernel_rfl) (by kernel_rfl) (by kernel_rfl) 5 (by kernel_rfl)
def ti127 : TI := ⟨.scalar none, 1, 8, [.junk], false⟩     -- func([]trial.Step, func(trial.Step) bool) bool
theorem ti127_ok : TIok Try.prog 127 ti127 := tiok 127 ti127 (by kernel_rfl) (by kernel_rfl) (by kernel_rfl) (by kernel_rfl) 5 (by kernel_rfl)
def ti128 : TI := ⟨.scalar none, 1, 8, [.junk], false⟩     -- func(trial.Step) bool
theorem ti128_ok : TIok Try.prog 128 ti128 := tiok 128 ti128 (by kernel_rfl) (by kernel_rfl) (by kernel_rfl) (by kernel_rfl) 5 (by kernel_rfl)
def ti129 : TI := ⟨.scalar none, 1, 8, [.junk], false⟩     -- func(int) bool
theorem ti129_ok : TIok Try.prog 129 ti129 := tiok 129 ti129 (by kernel_rfl) (by kernel_rfl) (by kernel_rfl) (by kernel_rfl) 5 (by kernel_rfl)
def ti130 : TI := ⟨.scalar none, 1, 8, [.junk], false⟩     -- func(int) int
theorem ti130_ok : TIok Try.prog 130 ti130 := tiok 130 ti130 (by kernel_rfl) (by kernel_rfl) (by kernel_rfl) (by kernel_rfl) 5 (by kernel_rfl)
def ti131 : TI := ⟨.slice 135, 1, 24, [.nils], false⟩     -- []trial.family
theorem ti131_ok : TIok Try.prog 131 ti131 := tiok 131 ti131 (by kernel_rfl) (by kernel_rfl) (by kernel_rfl) (by kernel_rfl) 5 (by kernel_rfl)
def ti133 : TI := ⟨.scalar none, 1, 8, [.junk], false⟩     -- func(trial.Test, bool) ([]trial.family, api.Errno)
theorem ti133_ok : TIok Try.prog 133 ti133 := tiok 133 ti133 (by kernel_rfl) (by kernel_rfl) (by kernel_rfl) (by kernel_rfl) 5 (by kernel_rfl)
def ti134 : TI := ⟨.struct [(0, 39), (3, 32)], 5, 40, [.int .i64 0, .int .i64 0, .int .i64 0, .int .i64 0, .int .i64 0], true⟩     -- struct { trial.Curve; rests trial.Range }
theorem ti134_ok : TIok Try.prog 134 ti134 := tiok 134 ti134 (by kernel_rfl) (by kernel_rfl) (by kernel_rfl) (by kernel_rfl) 5 (by kernel_rfl)
def ti135 : TI := ⟨.struct [(0, 39), (3, 32)], 5, 40, [.int .i64 0, .int .i64 0, .int .i64 0, .int .i64 0, .int .i64 0], true⟩     -- trial.family
theorem ti135_ok : TIok Try.prog 135 ti135 := tiok 135 ti135 (by kernel_rfl) (by kernel_rfl) (by kernel_rfl) (by kernel_rfl) 5 (by kernel_rfl)
def ti136 : TI := ⟨.scalar none, 1, 8, [.junk], false⟩     -- func() int
theorem ti136_ok : TIok Try.prog 136 ti136 := tiok 136 ti136 (by kernel_rfl) (by kernel_rfl) (by kernel_rfl) (by kernel_rfl) 5 (by kernel_rfl)
def ti137 : TI := ⟨.scalar none, 1, 8, [.junk], false⟩     -- func([]trial.family, func(trial.family) trial.Range) trial.Range
theorem ti137_ok : TIok Try.prog 137 ti137 := tiok 137 ti137 (by kernel_rfl) (by kernel_rfl) (by kernel_rfl) (by kernel_rfl) 5 (by kernel_rfl)
def ti138 : TI := ⟨.scalar none, 1, 8, [.junk], false⟩     -- func(trial.family) trial.Range
theorem ti138_ok : TIok Try.prog 138 ti138 := tiok 138 ti138 (by kernel_rfl) (by kernel_rfl) (by kernel_rfl) (by kernel_rfl) 5 (by kernel_rfl)
def ti139 : TI := ⟨.scalar none, 1, 8, [.junk], false⟩     -- func(fumaroleref04.Test, int, int) fumaroleref04.Range
theorem ti139_ok : TIok Try.prog 139 ti139 := tiok 139 ti139 (by kernel_rfl) (by kernel_rfl) (by kernel_rfl) (by kernel_rfl) 5 (by kernel_rfl)
def ti140 : TI := ⟨.scalar none, 1, 8, [.junk], false⟩     -- func(fumaroleref04.Range, fumaroleref04.Range) fumaroleref04.Range
theorem ti140_ok : TIok Try.prog 140 ti140 := tiok 140 ti140 (by kernel_rfl) (by kernel_rfl) (by kernel_rfl) (by kernel_rfl) 5 (by kernel_rfl)
def ti141 : TI := ⟨.scalar none, 1, 8, [.junk], false⟩     -- func([]trial.family, int) trial.Range
theorem ti141_ok : TIok Try.prog 141 ti141 := tiok 141 ti141 (by kernel_rfl) (by kernel_rfl) (by kernel_rfl) (by kernel_rfl) 5 (by kernel_rfl)
def ti142 : TI := ⟨.scalar none, 1, 8, [.junk], false⟩     -- func([]int, func(int) bool) bool
theorem ti142_ok : TIok Try.prog 142 ti142 := tiok 142 ti142 (by kernel_rfl) (by kernel_rfl) (by kernel_rfl) (by kernel_rfl) 5 (by kernel_rfl)
def ti143 : TI := ⟨.scalar none, 1, 8, [.junk], false⟩     -- func(int, func(int) bool) int
theorem ti143_ok : TIok Try.prog 143 ti143 := tiok 143 ti143 (by kernel_rfl) (by kernel_rfl) (by kernel_rfl) (by kernel_rfl) 5 (by kernel_rfl)
def ti144 : TI := ⟨.scalar none, 1, 8, [.junk], false⟩     -- func() []trial.family
theorem ti144_ok : TIok Try.prog 144 ti144 := tiok 144 ti144 (by kernel_rfl) (by kernel_rfl) (by kernel_rfl) (by kernel_rfl) 5 (by kernel_rfl)
def ti145 : TI := ⟨.scalar none, 1, 8, [.junk], false⟩     -- func(func(trial.Curve, []trial.Range) bool)
theorem ti145_ok : TIok Try.prog 145 ti145 := tiok 145 ti145 (by kernel_rfl) (by kernel_rfl) (by kernel_rfl) (by kernel_rfl) 5 (by kernel_rfl)
def ti146 : TI := ⟨.scalar none, 1, 8, [.junk], false⟩     -- iter.Seq2[fumarole/trial.Curve,[]fumarole/trial.Range]
theorem ti146_ok : TIok Try.prog 146 ti146 := tiok 146 ti146 (by kernel_rfl) (by kernel_rfl) (by kernel_rfl) (by kernel_rfl) 5 (by kernel_rfl)
def ti147 : TI := ⟨.scalar none, 1, 8, [.junk], false⟩     -- func() iter.Seq2[fumarole/trial.Curve,[]fumarole/trial.Range]
theorem ti147_ok : TIok Try.prog 147 ti147 := tiok 147 ti147 (by kernel_rfl) (by kernel_rfl) (by kernel_rfl) (by kernel_rfl) 5 (by kernel_rfl)
def ti148 : TI := ⟨.slice 32, 1, 24, [.nils], false⟩     -- []trial.Range
theorem ti148_ok : TIok Try.prog 148 ti148 := tiok 148 ti148 (by kernel_rfl) (by kernel_rfl) (by kernel_rfl) (by kernel_rfl) 5 (by kernel_rfl)
def ti149 : TI := ⟨.scalar none, 1, 8, [.junk], false⟩     -- func(trial.Range) bool
theorem ti149_ok : TIok Try.prog 149 ti149 := tiok 149 ti149 (by kernel_rfl) (by kernel_rfl) (by kernel_rfl) (by kernel_rfl) 5 (by kernel_rfl)
def ti150 : TI := ⟨.scalar none, 1, 8, [.junk], false⟩     -- func(fumaroleref04.Test, int, int) [2]int
theorem ti150_ok : TIok Try.prog 150 ti150 := tiok 150 ti150 (by kernel_rfl) (by kernel_rfl) (by kernel_rfl) (by kernel_rfl) 5 (by kernel_rfl)
def ti151 : TI := ⟨.scalar none, 1, 8, [.junk], false⟩     -- func([]trial.Range, [2]int) bool
theorem ti151_ok : TIok Try.prog 151 ti151 := tiok 151 ti151 (by kernel_rfl) (by kernel_rfl) (by kernel_rfl) (by kernel_rfl) 5 (by kernel_rfl)
def ti152 : TI := ⟨.scalar none, 1, 8, [.junk], false⟩     -- func(fumaroleref04.Test, int, int, [2]int) bool
theorem ti152_ok : TIok Try.prog 152 ti152 := tiok 152 ti152 (by kernel_rfl) (by kernel_rfl) (by kernel_rfl) (by kernel_rfl) 5 (by kernel_rfl)
def ti153 : TI := ⟨.array 10 3, 10, 80, [.int .i64 0, .int .i64 0, .int .i64 0, .int .i64 0, .int .i64 0, .int .i64 0, .int .i64 0, .int .i64 0, .int .i64 0, .int .i64 0], true⟩     -- [10]int
theorem ti153_ok : TIok Try.prog 153 ti153 := tiok 153 ti153 (by kernel_rfl) (by kernel_rfl) (by kernel_rfl) (by kernel_rfl) 5 (by kernel_rfl)
def ti154 : TI := ⟨.array 10 3, 10, 80, [.int .i64 0, .int .i64 0, .int .i64 0, .int .i64 0, .int .i64 0, .int .i64 0, .int .i64 0, .int .i64 0, .int .i64 0, .int .i64 0], true⟩     -- trial.groups
theorem ti154_ok : TIok Try.prog 154 ti154 := tiok 154 ti154 (by kernel_rfl) (by kernel_rfl) (by kernel_rfl) (by kernel_rfl) 5 (by kernel_rfl)
def ti155 : TI := ⟨.struct [(0, 80), (3, 154)], 13, 120, [.int .i64 0, .int .i64 0, .nils, .int .i64 0, .int .i64 0, .int .i64 0, .int .i64 0, .int .i64 0, .int .i64 0, .int .i64 0, .int .i64 0, .int .i64 0, .int .i64 0], false⟩     -- struct { trial.Survey; trial.groups }
theorem ti155_ok : TIok Try.prog 155 ti155 := tiok 155 ti155 (by kernel_rfl) (by kernel_rfl) (by kernel_rfl) (by kernel_rfl) 5 (by kernel_rfl)
def ti156 : TI := ⟨.struct [(0, 80), (3, 154)], 13, 120, [.int .i64 0, .int .i64 0, .nils, .int .i64 0, .int .i64 0, .int .i64 0, .int .i64 0, .int .i64 0, .int .i64 0, .int .i64 0, .int .i64 0, .int .i64 0, .int .i64 0], false⟩     -- trial.asked
theorem ti156_ok : TIok Try.prog 156 ti156 := tiok 156 ti156 (by kernel_rfl) (by kernel_rfl) (by kernel_rfl) (by kernel_rfl) 5 (by kernel_rfl)
def ti158 : TI := ⟨.scalar none, 1, 8, [.junk], false⟩     -- func(trial.Survey) (trial.asked, api.Errno)
theorem ti158_ok : TIok Try.prog 158 ti158 := tiok 158 ti158 (by kernel_rfl) (by kernel_rfl) (by kernel_rfl) (by kernel_rfl) 5 (by kernel_rfl)
def ti159 : TI := ⟨.scalar none, 1, 8, [.junk], false⟩     -- func([]int) []int
theorem ti159_ok : TIok Try.prog 159 ti159 := tiok 159 ti159 (by kernel_rfl) (by kernel_rfl) (by kernel_rfl) (by kernel_rfl) 5 (by kernel_rfl)
def ti160 : TI := ⟨.scalar none, 1, 8, [.junk], false⟩     -- func([]trial.Seen, func(trial.Seen) bool) int
theorem ti160_ok : TIok Try.prog 160 ti160 := tiok 160 ti160 (by kernel_rfl) (by kernel_rfl) (by kernel_rfl) (by kernel_rfl) 5 (by kernel_rfl)
def ti161 : TI := ⟨.scalar none, 1, 8, [.junk], false⟩     -- func(trial.Seen) bool
theorem ti161_ok : TIok Try.prog 161 ti161 := tiok 161 ti161 (by kernel_rfl) (by kernel_rfl) (by kernel_rfl) (by kernel_rfl) 5 (by kernel_rfl)
def ti162 : TI := ⟨.scalar none, 1, 8, [.junk], false⟩     -- func(int, int) []int
theorem ti162_ok : TIok Try.prog 162 ti162 := tiok 162 ti162 (by kernel_rfl) (by kernel_rfl) (by kernel_rfl) (by kernel_rfl) 5 (by kernel_rfl)
def ti163 : TI := ⟨.scalar none, 1, 8, [.junk], false⟩     -- func([]trial.Seen, func(trial.Seen) bool) bool
theorem ti163_ok : TIok Try.prog 163 ti163 := tiok 163 ti163 (by kernel_rfl) (by kernel_rfl) (by kernel_rfl) (by kernel_rfl) 5 (by kernel_rfl)
def ti164 : TI := ⟨.scalar none, 1, 8, [.junk], false⟩     -- func(fumaroleref04.Survey, fumaroleref04.Seen) bool
theorem ti164_ok : TIok Try.prog 164 ti164 := tiok 164 ti164 (by kernel_rfl) (by kernel_rfl) (by kernel_rfl) (by kernel_rfl) 5 (by kernel_rfl)
def ti165 : TI := ⟨.scalar none, 1, 8, [.junk], false⟩     -- func(fumaroleref04.Survey, int) []int
theorem ti165_ok : TIok Try.prog 165 ti165 := tiok 165 ti165 (by kernel_rfl) (by kernel_rfl) (by kernel_rfl) (by kernel_rfl) 5 (by kernel_rfl)
def ti166 : TI := ⟨.scalar none, 1, 8, [.junk], false⟩     -- func(fumaroleref04.Survey, int, int) bool
theorem ti166_ok : TIok Try.prog 166 ti166 := tiok 166 ti166 (by kernel_rfl) (by kernel_rfl) (by kernel_rfl) (by kernel_rfl) 5 (by kernel_rfl)
def ti167 : TI := ⟨.scalar none, 1, 8, [.junk], false⟩     -- func(int, int) uint8
theorem ti167_ok : TIok Try.prog 167 ti167 := tiok 167 ti167 (by kernel_rfl) (by kernel_rfl) (by kernel_rfl) (by kernel_rfl) 5 (by kernel_rfl)
def ti168 : TI := ⟨.scalar none, 1, 8, [.junk], false⟩     -- func(int, int) bool
theorem ti168_ok : TIok Try.prog 168 ti168 := tiok 168 ti168 (by kernel_rfl) (by kernel_rfl) (by kernel_rfl) (by kernel_rfl) 5 (by kernel_rfl)
def ti169 : TI := ⟨.slice 94, 1, 24, [.nils], false⟩     -- trial.relations
theorem ti169_ok : TIok Try.prog 169 ti169 := tiok 169 ti169 (by kernel_rfl) (by kernel_rfl) (by kernel_rfl) (by kernel_rfl) 5 (by kernel_rfl)
def ti170 : TI := ⟨.scalar none, 1, 8, [.junk], false⟩     -- func([]int) bool
theorem ti170_ok : TIok Try.prog 170 ti170 := tiok 170 ti170 (by kernel_rfl) (by kernel_rfl) (by kernel_rfl) (by kernel_rfl) 5 (by kernel_rfl)
def ti171 : TI := ⟨.scalar none, 1, 8, [.junk], false⟩     -- func(int) []int
theorem ti171_ok : TIok Try.prog 171 ti171 := tiok 171 ti171 (by kernel_rfl) (by kernel_rfl) (by kernel_rfl) (by kernel_rfl) 5 (by kernel_rfl)
def ti172 : TI := ⟨.scalar none, 1, 8, [.junk], false⟩     -- func(fumaroleref04.Survey, int) bool
theorem ti172_ok : TIok Try.prog 172 ti172 := tiok 172 ti172 (by kernel_rfl) (by kernel_rfl) (by kernel_rfl) (by kernel_rfl) 5 (by kernel_rfl)
def ti173 : TI := ⟨.scalar none, 1, 8, [.junk], false⟩     -- func([]trial.Seen) []trial.Seen
theorem ti173_ok : TIok Try.prog 173 ti173 := tiok 173 ti173 (by kernel_rfl) (by kernel_rfl) (by kernel_rfl) (by kernel_rfl) 5 (by kernel_rfl)
def ti174 : TI := ⟨.scalar none, 1, 8, [.junk], false⟩     -- func(fumaroleref04.Test, int, int, int) fumaroleref04.Range
theorem ti174_ok : TIok Try.prog 174 ti174 := tiok 174 ti174 (by kernel_rfl) (by kernel_rfl) (by kernel_rfl) (by kernel_rfl) 5 (by kernel_rfl)
def ti175 : TI := ⟨.scalar none, 1, 8, [.junk], false⟩     -- func(int) trial.Range
theorem ti175_ok : TIok Try.prog 175 ti175 := tiok 175 ti175 (by kernel_rfl) (by kernel_rfl) (by kernel_rfl) (by kernel_rfl) 5 (by kernel_rfl)
def ti176 : TI := ⟨.scalar none, 1, 8, [.junk], false⟩     -- func(trial.Range, ...trial.Range) trial.Range
theorem ti176_ok : TIok Try.prog 176 ti176 := tiok 176 ti176 (by kernel_rfl) (by kernel_rfl) (by kernel_rfl) (by kernel_rfl) 5 (by kernel_rfl)
def ti177 : TI := ⟨.scalar none, 1, 8, [.junk], false⟩     -- func(trial.Curve, []trial.Range) bool
theorem ti177_ok : TIok Try.prog 177 ti177 := tiok 177 ti177 (by kernel_rfl) (by kernel_rfl) (by kernel_rfl) (by kernel_rfl) 5 (by kernel_rfl)
def ti178 : TI := ⟨.scalar none, 1, 8, [.junk], false⟩     -- func(trial.Step) trial.Range
theorem ti178_ok : TIok Try.prog 178 ti178 := tiok 178 ti178 (by kernel_rfl) (by kernel_rfl) (by kernel_rfl) (by kernel_rfl) 5 (by kernel_rfl)
def ti179 : TI := ⟨.scalar none, 1, 8, [.junk], false⟩     -- func() trial.groups
theorem ti179_ok : TIok Try.prog 179 ti179 := tiok 179 ti179 (by kernel_rfl) (by kernel_rfl) (by kernel_rfl) (by kernel_rfl) 5 (by kernel_rfl)
def ti180 : TI := ⟨.slice 47, 1, 24, [.nils], false⟩     -- [][]int
theorem ti180_ok : TIok Try.prog 180 ti180 := tiok 180 ti180 (by kernel_rfl) (by kernel_rfl) (by kernel_rfl) (by kernel_rfl) 5 (by kernel_rfl)
def ti181 : TI := ⟨.array 10 4, 10, 10, [.ff, .ff, .ff, .ff, .ff, .ff, .ff, .ff, .ff, .ff], false⟩     -- [10]bool
theorem ti181_ok : TIok Try.prog 181 ti181 := tiok 181 ti181 (by kernel_rfl) (by kernel_rfl) (by kernel_rfl) (by kernel_rfl) 5 (by kernel_rfl)
def ti182 : TI := ⟨.scalar none, 1, 8, [.junk], false⟩     -- func([]int, func(int) bool) int
theorem ti182_ok : TIok Try.prog 182 ti182 := tiok 182 ti182 (by kernel_rfl) (by kernel_rfl) (by kernel_rfl) (by kernel_rfl) 5 (by kernel_rfl)
def ti183 : TI := ⟨.scalar none, 1, 8, [.junk], false⟩     -- func() string
theorem ti183_ok : TIok Try.prog 183 ti183 := tiok 183 ti183 (by kernel_rfl) (by kernel_rfl) (by kernel_rfl) (by kernel_rfl) 5 (by kernel_rfl)
def ti189 : TI := ⟨.scalar (some .u32), 1, 4, [.int .u32 0], false⟩     -- uint32
theorem ti189_ok : TIok Try.prog 189 ti189 := tiok 189 ti189 (by kernel_rfl) (by kernel_rfl) (by kernel_rfl) (by kernel_rfl) 5 (by kernel_rfl)
def ti193 : TI := ⟨.scalar none, 1, 8, [.nilp], false⟩     -- *uint8
theorem ti193_ok : TIok Try.prog 193 ti193 := tiok 193 ti193 (by kernel_rfl) (by kernel_rfl) (by kernel_rfl) (by kernel_rfl) 5 (by kernel_rfl)
def types : List (Nat × TI) := [(3, ti3), (4, ti4), (5, ti5), (9, ti9), (12, ti12), (13, ti13), (21, ti21), (22, ti22), (23, ti23), (24, ti24), (25, ti25), (26, ti26), (27, ti27), (28, ti28), (29, ti29), (30, ti30), (31, ti31), (32, ti32), (33, ti33), (34, ti34), (35, ti35), (36, ti36), (37, ti37), (38, ti38), (39, ti39), (40, ti40), (42, ti42), (43, ti43), (45, ti45), (46, ti46), (47, ti47), (49, ti49), (51, ti51), (52, ti52), (54, ti54), (55, ti55), (56, ti56), (58, ti58), (60, ti60), (61, ti61), (62, ti62), (63, ti63), (65, ti65), (66, ti66), (67, ti67), (68, ti68), (69, ti69), (70, ti70), (71, ti71), (72, ti72), (73, ti73), (74, ti74), (75, ti75), (77, ti77), (78, ti78), (79, ti79), (80, ti80), (81, ti81), (83, ti83), (84, ti84), (85, ti85), (86, ti86), (87, ti87), (88, ti88), (89, ti89), (90, ti90), (91, ti91), (93, ti93), (94, ti94), (95, ti95), (96, ti96), (97, ti97), (99, ti99), (101, ti101), (102, ti102), (103, ti103), (104, ti104), (105, ti105), (106, ti106), (107, ti107), (108, ti108), (109, ti109), (110, ti110), (111, ti111), (112, ti112), (113, ti113), (114, ti114), (115, ti115), (116, ti116), (117, ti117), (118, ti118), (119, ti119), (120, ti120), (121, ti121), (123, ti123), (124, ti124), (125, ti125), (126, ti126), (127, ti127), (128, ti128), (129, ti129), (130, ti130), (131, ti131), (133, ti133), (134, ti134), (135, ti135), (136, ti136), (137, ti137), (138, ti138), (139, ti139), (140, ti140), (141, ti141), (142, ti142), (143, ti143), (144, ti144), (145, ti145), (146, ti146), (147, ti147), (148, ti148), (149, ti149), (150, ti150), (151, ti151), (152, ti152), (153, ti153), (154, ti154), (155, ti155), (156, ti156), (158, ti158), (159, ti159), (160, ti160), (161, ti161), (162, ti162), (163, ti163), (164, ti164), (165, ti165), (166, ti166), (167, ti167), (168, ti168), (169, ti169), (170, ti170), (171, ti171), (172, ti172), (173, ti173), (174, ti174), (175, ti175), (176, ti176), (177, ti177), (178, ti178), (179, ti179), (180, ti180), (181, ti181), (182, ti182), (183, ti183), (189, ti189), (193, ti193)]
theorem look_all {p : Nat → TI → Prop} : ∀ (l : List (Nat × TI)), (∀ x ∈ l, p x.1 x.2) → ∀ t ti, V.look l t = some ti → p t ti
  | [], _, t, ti, h => by cases h
  | (m, a) :: l, hl, t, ti, h => by
    simp only [V.look] at h
    cases hb : Nat.beq m t with
    | true =>
      rw [hb] at h
      obtain rfl := Nat.eq_of_beq_eq_true hb
      have := Option.some.inj h
      subst this
      exact hl _ (List.mem_cons_self ..)
    | false => rw [hb] at h; exact look_all l (fun x hx => hl x (List.mem_cons_of_mem _ hx)) t ti h
theorem types_ok : ∀ t ti, V.look types t = some ti → TIok Try.prog t ti := by
  refine look_all types ?_
  intro x hx
  simp only [types, List.mem_cons, List.not_mem_nil, or_false] at hx
  rcases hx with rfl | rfl | rfl | rfl | rfl | rfl | rfl | rfl | rfl | rfl | rfl | rfl | rfl | rfl | rfl | rfl | rfl | rfl | rfl | rfl | rfl | rfl | rfl | rfl | rfl | rfl | rfl | rfl | rfl | rfl | rfl | rfl | rfl | rfl | rfl | rfl | rfl | rfl | rfl | rfl | rfl | rfl | rfl | rfl | rfl | rfl | rfl | rfl | rfl | rfl | rfl | rfl | rfl | rfl | rfl | rfl | rfl | rfl | rfl | rfl | rfl | rfl | rfl | rfl | rfl | rfl | rfl | rfl | rfl | rfl | rfl | rfl | rfl | rfl | rfl | rfl | rfl | rfl | rfl | rfl | rfl | rfl | rfl | rfl | rfl | rfl | rfl | rfl | rfl | rfl | rfl | rfl | rfl | rfl | rfl | rfl | rfl | rfl | rfl | rfl | rfl | rfl | rfl | rfl | rfl | rfl | rfl | rfl | rfl | rfl | rfl | rfl | rfl | rfl | rfl | rfl | rfl | rfl | rfl | rfl | rfl | rfl | rfl | rfl | rfl | rfl | rfl | rfl | rfl | rfl | rfl | rfl | rfl | rfl | rfl | rfl | rfl | rfl | rfl | rfl | rfl | rfl | rfl | rfl | rfl | rfl | rfl | rfl | rfl | rfl | rfl | rfl | rfl | rfl | rfl
  · exact ti3_ok
  · exact ti4_ok
  · exact ti5_ok
  · exact ti9_ok
  · exact ti12_ok
  · exact ti13_ok
  · exact ti21_ok
  · exact ti22_ok
  · exact ti23_ok
  · exact ti24_ok
  · exact ti25_ok
  · exact ti26_ok
  · exact ti27_ok
  · exact ti28_ok
  · exact ti29_ok
  · exact ti30_ok
  · exact ti31_ok
  · exact ti32_ok
  · exact ti33_ok
  · exact ti34_ok
  · exact ti35_ok
  · exact ti36_ok
  · exact ti37_ok
  · exact ti38_ok
  · exact ti39_ok
  · exact ti40_ok
  · exact ti42_ok
  · exact ti43_ok
  · exact ti45_ok
  · exact ti46_ok
  · exact ti47_ok
  · exact ti49_ok
  · exact ti51_ok
  · exact ti52_ok
  · exact ti54_ok
  · exact ti55_ok
  · exact ti56_ok
  · exact ti58_ok
  · exact ti60_ok
  · exact ti61_ok
  · exact ti62_ok
  · exact ti63_ok
  · exact ti65_ok
  · exact ti66_ok
  · exact ti67_ok
  · exact ti68_ok
  · exact ti69_ok
  · exact ti70_ok
  · exact ti71_ok
  · exact ti72_ok
  · exact ti73_ok
  · exact ti74_ok
  · exact ti75_ok
  · exact ti77_ok
  · exact ti78_ok
  · exact ti79_ok
  · exact ti80_ok
  · exact ti81_ok
  · exact ti83_ok
  · exact ti84_ok
  · exact ti85_ok
  · exact ti86_ok
  · exact ti87_ok
  · exact ti88_ok
  · exact ti89_ok
  · exact ti90_ok
  · exact ti91_ok
  · exact ti93_ok
  · exact ti94_ok
  · exact ti95_ok
  · exact ti96_ok
  · exact ti97_ok
  · exact ti99_ok
  · exact ti101_ok
  · exact ti102_ok
  · exact ti103_ok
  · exact ti104_ok
  · exact ti105_ok
  · exact ti106_ok
  · exact ti107_ok
  · exact ti108_ok
  · exact ti109_ok
  · exact ti110_ok
  · exact ti111_ok
  · exact ti112_ok
  · exact ti113_ok
  · exact ti114_ok
  · exact ti115_ok
  · exact ti116_ok
  · exact ti117_ok
  · exact ti118_ok
  · exact ti119_ok
  · exact ti120_ok
  · exact ti121_ok
  · exact ti123_ok
  · exact ti124_ok
  · exact ti125_ok
  · exact ti126_ok
  · exact ti127_ok
  · exact ti128_ok
  · exact ti129_ok
  · exact ti130_ok
  · exact ti131_ok
  · exact ti133_ok
  · exact ti134_ok
  · exact ti135_ok
  · exact ti136_ok
  · exact ti137_ok
  · exact ti138_ok
  · exact ti139_ok
  · exact ti140_ok
  · exact ti141_ok
  · exact ti142_ok
  · exact ti143_ok
  · exact ti144_ok
  · exact ti145_ok
  · exact ti146_ok
  · exact ti147_ok
  · exact ti148_ok
  · exact ti149_ok
  · exact ti150_ok
  · exact ti151_ok
  · exact ti152_ok
  · exact ti153_ok
  · exact ti154_ok
  · exact ti155_ok
  · exact ti156_ok
  · exact ti158_ok
  · exact ti159_ok
  · exact ti160_ok
  · exact ti161_ok
  · exact ti162_ok
  · exact ti163_ok
  · exact ti164_ok
  · exact ti165_ok
  · exact ti166_ok
  · exact ti167_ok
  · exact ti168_ok
  · exact ti169_ok
  · exact ti170_ok
  · exact ti171_ok
  · exact ti172_ok
  · exact ti173_ok
  · exact ti174_ok
  · exact ti175_ok
  · exact ti176_ok
  · exact ti177_ok
  · exact ti178_ok
  · exact ti179_ok
  · exact ti180_ok
  · exact ti181_ok
  · exact ti182_ok
  · exact ti183_ok
  · exact ti189_ok
  · exact ti193_ok
theorem mixed : Try.prog.follows .mixedOrders = true := by kernel_rfl
end Go.Proofs.Ytnjhbmcambofgaa
