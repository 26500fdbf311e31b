/- The types of the seat, by program: closed facts of the loaded text. -/
import Derived.Test.YtiidjohhcappdaaW2
import Derived.Test.YtiidjohhcappdaaChecked
namespace Go.Proofs.Ytiidjohhcappdaa
open Go.V
def ti3 : TI := ⟨.scalar (some .i64), 1, 8, [.int .i64 0], false⟩     -- int
theorem ti3_ok : TIok Try.prog 3 ti3 := tiok 3 ti3 (by kernel_rfl) (by kernel_rfl) (by kernel_rfl) (by kernel_rfl) 5 (by kernel_rfl)
def ti4 : TI := ⟨.scalar none, 1, 1, [.ff], false⟩     -- bool
theorem ti4_ok : TIok Try.prog 4 ti4 := tiok 4 ti4 (by kernel_rfl) (by kernel_rfl) (by kernel_rfl) (by kernel_rfl) 5 (by kernel_rfl)
def ti5 : TI := ⟨.scalar (some .u8), 1, 1, [.int .u8 0], false⟩     -- uint8
theorem ti5_ok : TIok Try.prog 5 ti5 := tiok 5 ti5 (by kernel_rfl) (by kernel_rfl) (by kernel_rfl) (by kernel_rfl) 5 (by kernel_rfl)
def ti9 : TI := ⟨.scalar none, 1, 16, [.str ⟨#[]⟩], false⟩     -- string
theorem ti9_ok : TIok Try.prog 9 ti9 := tiok 9 ti9 (by kernel_rfl) (by kernel_rfl) (by kernel_rfl) (by kernel_rfl) 5 (by kernel_rfl)
def ti12 : TI := ⟨.scalar (some .u64), 1, 8, [.int .u64 0], false⟩     -- uintptr
theorem ti12_ok : TIok Try.prog 12 ti12 := tiok 12 ti12 (by kernel_rfl) (by kernel_rfl) (by kernel_rfl) (by kernel_rfl) 5 (by kernel_rfl)
def ti13 : TI := ⟨.struct [(0, 9), (1, 12)], 2, 24, [.str ⟨#[]⟩, .int .u64 0], false⟩     -- struct { msg string; addr uintptr }
theorem ti13_ok : TIok Try.prog 13 ti13 := tiok 13 ti13 (by kernel_rfl) (by kernel_rfl) (by kernel_rfl) (by kernel_rfl) 5 (by kernel_rfl)
def ti21 : TI := ⟨.scalar (some .i32), 1, 4, [.int .i32 0], false⟩     -- int32
theorem ti21_ok : TIok Try.prog 21 ti21 := tiok 21 ti21 (by kernel_rfl) (by kernel_rfl) (by kernel_rfl) (by kernel_rfl) 5 (by kernel_rfl)
def ti22 : TI := ⟨.slice 46, 1, 24, [.nils], false⟩     -- []fumaroleref01.Row
theorem ti22_ok : TIok Try.prog 22 ti22 := tiok 22 ti22 (by kernel_rfl) (by kernel_rfl) (by kernel_rfl) (by kernel_rfl) 5 (by kernel_rfl)
def ti23 : TI := ⟨.slice 46, 1, 24, [.nils], false⟩     -- fumaroleref01.Table
theorem ti23_ok : TIok Try.prog 23 ti23 := tiok 23 ti23 (by kernel_rfl) (by kernel_rfl) (by kernel_rfl) (by kernel_rfl) 5 (by kernel_rfl)
def ti24 : TI := ⟨.struct [(0, 3), (1, 3), (2, 3), (3, 3)], 4, 32, [.int .i64 0, .int .i64 0, .int .i64 0, .int .i64 0], true⟩     -- struct { Mass int; Heat int; Silica int; Gas int }
theorem ti24_ok : TIok Try.prog 24 ti24 := tiok 24 ti24 (by kernel_rfl) (by kernel_rfl) (by kernel_rfl) (by kernel_rfl) 5 (by kernel_rfl)
def ti25 : TI := ⟨.struct [(0, 3), (1, 3), (2, 3), (3, 3)], 4, 32, [.int .i64 0, .int .i64 0, .int .i64 0, .int .i64 0], true⟩     -- fumaroleref01.Stream
theorem ti25_ok : TIok Try.prog 25 ti25 := tiok 25 ti25 (by kernel_rfl) (by kernel_rfl) (by kernel_rfl) (by kernel_rfl) 5 (by kernel_rfl)
def ti27 : TI := ⟨.scalar (some .i64), 1, 8, [.int .i64 0], false⟩     -- api.Errno
theorem ti27_ok : TIok Try.prog 27 ti27 := tiok 27 ti27 (by kernel_rfl) (by kernel_rfl) (by kernel_rfl) (by kernel_rfl) 5 (by kernel_rfl)
def ti30 : TI := ⟨.slice 113, 1, 24, [.nils], false⟩     -- []steam.Row
theorem ti30_ok : TIok Try.prog 30 ti30 := tiok 30 ti30 (by kernel_rfl) (by kernel_rfl) (by kernel_rfl) (by kernel_rfl) 5 (by kernel_rfl)
def ti31 : TI := ⟨.slice 113, 1, 24, [.nils], false⟩     -- steam.Table
theorem ti31_ok : TIok Try.prog 31 ti31 := tiok 31 ti31 (by kernel_rfl) (by kernel_rfl) (by kernel_rfl) (by kernel_rfl) 5 (by kernel_rfl)
def ti33 : TI := ⟨.struct [(0, 3), (1, 3)], 2, 16, [.int .i64 0, .int .i64 0], true⟩     -- struct { N int; D int }
theorem ti33_ok : TIok Try.prog 33 ti33 := tiok 33 ti33 (by kernel_rfl) (by kernel_rfl) (by kernel_rfl) (by kernel_rfl) 5 (by kernel_rfl)
def ti34 : TI := ⟨.struct [(0, 3), (1, 3)], 2, 16, [.int .i64 0, .int .i64 0], true⟩     -- steam.Ratio
theorem ti34_ok : TIok Try.prog 34 ti34 := tiok 34 ti34 (by kernel_rfl) (by kernel_rfl) (by kernel_rfl) (by kernel_rfl) 5 (by kernel_rfl)
def ti39 : TI := ⟨.struct [(0, 3), (1, 3), (2, 3), (3, 3)], 4, 32, [.int .i64 0, .int .i64 0, .int .i64 0, .int .i64 0], true⟩     -- steam.Stream
theorem ti39_ok : TIok Try.prog 39 ti39 := tiok 39 ti39 (by kernel_rfl) (by kernel_rfl) (by kernel_rfl) (by kernel_rfl) 5 (by kernel_rfl)
def ti45 : TI := ⟨.struct [(0, 3), (1, 3), (2, 3), (3, 3), (4, 3)], 5, 40, [.int .i64 0, .int .i64 0, .int .i64 0, .int .i64 0, .int .i64 0], true⟩     -- struct { T int; P int; Liquid int; Vapour int; Silica int }
theorem ti45_ok : TIok Try.prog 45 ti45 := tiok 45 ti45 (by kernel_rfl) (by kernel_rfl) (by kernel_rfl) (by kernel_rfl) 5 (by kernel_rfl)
def ti46 : TI := ⟨.struct [(0, 3), (1, 3), (2, 3), (3, 3), (4, 3)], 5, 40, [.int .i64 0, .int .i64 0, .int .i64 0, .int .i64 0, .int .i64 0], true⟩     -- fumaroleref01.Row
theorem ti46_ok : TIok Try.prog 46 ti46 := tiok 46 ti46 (by kernel_rfl) (by kernel_rfl) (by kernel_rfl) (by kernel_rfl) 5 (by kernel_rfl)
def ti47 : TI := ⟨.struct [(0, 3), (1, 3)], 2, 16, [.int .i64 0, .int .i64 0], true⟩     -- fumaroleref01.Ratio
theorem ti47_ok : TIok Try.prog 47 ti47 := tiok 47 ti47 (by kernel_rfl) (by kernel_rfl) (by kernel_rfl) (by kernel_rfl) 5 (by kernel_rfl)
def ti50 : TI := ⟨.slice 25, 1, 24, [.nils], false⟩     -- []fumaroleref01.Stream
theorem ti50_ok : TIok Try.prog 50 ti50 := tiok 50 ti50 (by kernel_rfl) (by kernel_rfl) (by kernel_rfl) (by kernel_rfl) 5 (by kernel_rfl)
def ti51 : TI := ⟨.slice 3, 1, 24, [.nils], false⟩     -- []int
theorem ti51_ok : TIok Try.prog 51 ti51 := tiok 51 ti51 (by kernel_rfl) (by kernel_rfl) (by kernel_rfl) (by kernel_rfl) 5 (by kernel_rfl)
def ti54 : TI := ⟨.slice 39, 1, 24, [.nils], false⟩     -- []steam.Stream
theorem ti54_ok : TIok Try.prog 54 ti54 := tiok 54 ti54 (by kernel_rfl) (by kernel_rfl) (by kernel_rfl) (by kernel_rfl) 5 (by kernel_rfl)
def ti56 : TI := ⟨.struct [(0, 3), (1, 3), (2, 3)], 3, 24, [.int .i64 0, .int .i64 0, .int .i64 0], true⟩     -- struct { Heat int; Silica int; Gas int }
theorem ti56_ok : TIok Try.prog 56 ti56 := tiok 56 ti56 (by kernel_rfl) (by kernel_rfl) (by kernel_rfl) (by kernel_rfl) 5 (by kernel_rfl)
def ti57 : TI := ⟨.struct [(0, 3), (1, 3), (2, 3)], 3, 24, [.int .i64 0, .int .i64 0, .int .i64 0], true⟩     -- steam.Loss
theorem ti57_ok : TIok Try.prog 57 ti57 := tiok 57 ti57 (by kernel_rfl) (by kernel_rfl) (by kernel_rfl) (by kernel_rfl) 5 (by kernel_rfl)
def ti63 : TI := ⟨.struct [(0, 3), (1, 3), (2, 3)], 3, 24, [.int .i64 0, .int .i64 0, .int .i64 0], true⟩     -- fumaroleref01.Loss
theorem ti63_ok : TIok Try.prog 63 ti63 := tiok 63 ti63 (by kernel_rfl) (by kernel_rfl) (by kernel_rfl) (by kernel_rfl) 5 (by kernel_rfl)
def ti72 : TI := ⟨.struct [(0, 39), (4, 39), (8, 3), (9, 3)], 10, 80, [.int .i64 0, .int .i64 0, .int .i64 0, .int .i64 0, .int .i64 0, .int .i64 0, .int .i64 0, .int .i64 0, .int .i64 0, .int .i64 0], true⟩     -- struct { Steam steam.Stream; Water steam.Stream; Rest int; Scale int }
theorem ti72_ok : TIok Try.prog 72 ti72 := tiok 72 ti72 (by kernel_rfl) (by kernel_rfl) (by kernel_rfl) (by kernel_rfl) 5 (by kernel_rfl)
def ti73 : TI := ⟨.struct [(0, 39), (4, 39), (8, 3), (9, 3)], 10, 80, [.int .i64 0, .int .i64 0, .int .i64 0, .int .i64 0, .int .i64 0, .int .i64 0, .int .i64 0, .int .i64 0, .int .i64 0, .int .i64 0], true⟩     -- steam.Parts
theorem ti73_ok : TIok Try.prog 73 ti73 := tiok 73 ti73 (by kernel_rfl) (by kernel_rfl) (by kernel_rfl) (by kernel_rfl) 5 (by kernel_rfl)
def ti76 : TI := ⟨.slice 73, 1, 24, [.nils], false⟩     -- []steam.Parts
theorem ti76_ok : TIok Try.prog 76 ti76 := tiok 76 ti76 (by kernel_rfl) (by kernel_rfl) (by kernel_rfl) (by kernel_rfl) 5 (by kernel_rfl)
def ti81 : TI := ⟨.struct [(0, 25), (4, 25), (8, 3), (9, 3)], 10, 80, [.int .i64 0, .int .i64 0, .int .i64 0, .int .i64 0, .int .i64 0, .int .i64 0, .int .i64 0, .int .i64 0, .int .i64 0, .int .i64 0], true⟩     -- struct { Steam fumaroleref01.Stream; Water fumaroleref01.Stream; Rest int; Scale int }
theorem ti81_ok : TIok Try.prog 81 ti81 := tiok 81 ti81 (by kernel_rfl) (by kernel_rfl) (by kernel_rfl) (by kernel_rfl) 5 (by kernel_rfl)
def ti82 : TI := ⟨.struct [(0, 25), (4, 25), (8, 3), (9, 3)], 10, 80, [.int .i64 0, .int .i64 0, .int .i64 0, .int .i64 0, .int .i64 0, .int .i64 0, .int .i64 0, .int .i64 0, .int .i64 0, .int .i64 0], true⟩     -- fumaroleref01.Parts
theorem ti82_ok : TIok Try.prog 82 ti82 := tiok 82 ti82 (by kernel_rfl) (by kernel_rfl) (by kernel_rfl) (by kernel_rfl) 5 (by kernel_rfl)
def ti84 : TI := ⟨.slice 82, 1, 24, [.nils], false⟩     -- []fumaroleref01.Parts
theorem ti84_ok : TIok Try.prog 84 ti84 := tiok 84 ti84 (by kernel_rfl) (by kernel_rfl) (by kernel_rfl) (by kernel_rfl) 5 (by kernel_rfl)
def ti90 : TI := ⟨.struct [(0, 3), (1, 3)], 2, 16, [.int .i64 0, .int .i64 0], true⟩     -- struct { Lo int; Hi int }
theorem ti90_ok : TIok Try.prog 90 ti90 := tiok 90 ti90 (by kernel_rfl) (by kernel_rfl) (by kernel_rfl) (by kernel_rfl) 5 (by kernel_rfl)
def ti91 : TI := ⟨.struct [(0, 3), (1, 3)], 2, 16, [.int .i64 0, .int .i64 0], true⟩     -- fumaroleref01.Range
theorem ti91_ok : TIok Try.prog 91 ti91 := tiok 91 ti91 (by kernel_rfl) (by kernel_rfl) (by kernel_rfl) (by kernel_rfl) 5 (by kernel_rfl)
def ti92 : TI := ⟨.struct [(0, 3), (1, 3)], 2, 16, [.int .i64 0, .int .i64 0], true⟩     -- steam.Range
theorem ti92_ok : TIok Try.prog 92 ti92 := tiok 92 ti92 (by kernel_rfl) (by kernel_rfl) (by kernel_rfl) (by kernel_rfl) 5 (by kernel_rfl)
def ti102 : TI := ⟨.scalar (some .u32), 1, 4, [.int .u32 0], false⟩     -- uint32
theorem ti102_ok : TIok Try.prog 102 ti102 := tiok 102 ti102 (by kernel_rfl) (by kernel_rfl) (by kernel_rfl) (by kernel_rfl) 5 (by kernel_rfl)
def ti110 : TI := ⟨.scalar (some .u16), 1, 2, [.int .u16 0], false⟩     -- uint16
theorem ti110_ok : TIok Try.prog 110 ti110 := tiok 110 ti110 (by kernel_rfl) (by kernel_rfl) (by kernel_rfl) (by kernel_rfl) 5 (by kernel_rfl)
def ti113 : TI := ⟨.struct [(0, 3), (1, 3), (2, 3), (3, 3), (4, 3)], 5, 40, [.int .i64 0, .int .i64 0, .int .i64 0, .int .i64 0, .int .i64 0], true⟩     -- steam.Row
theorem ti113_ok : TIok Try.prog 113 ti113 := tiok 113 ti113 (by kernel_rfl) (by kernel_rfl) (by kernel_rfl) (by kernel_rfl) 5 (by kernel_rfl)
def ti119 : TI := ⟨.slice 4, 1, 24, [.nils], false⟩     -- []bool
theorem ti119_ok : TIok Try.prog 119 ti119 := tiok 119 ti119 (by kernel_rfl) (by kernel_rfl) (by kernel_rfl) (by kernel_rfl) 5 (by kernel_rfl)
def ti123 : TI := ⟨.struct [(0, 113), (5, 39)], 9, 72, [.int .i64 0, .int .i64 0, .int .i64 0, .int .i64 0, .int .i64 0, .int .i64 0, .int .i64 0, .int .i64 0, .int .i64 0], true⟩     -- struct { steam.Row; feed steam.Stream }
theorem ti123_ok : TIok Try.prog 123 ti123 := tiok 123 ti123 (by kernel_rfl) (by kernel_rfl) (by kernel_rfl) (by kernel_rfl) 5 (by kernel_rfl)
def ti124 : TI := ⟨.struct [(0, 113), (5, 39)], 9, 72, [.int .i64 0, .int .i64 0, .int .i64 0, .int .i64 0, .int .i64 0, .int .i64 0, .int .i64 0, .int .i64 0, .int .i64 0], true⟩     -- steam.flash
theorem ti124_ok : TIok Try.prog 124 ti124 := tiok 124 ti124 (by kernel_rfl) (by kernel_rfl) (by kernel_rfl) (by kernel_rfl) 5 (by kernel_rfl)
def ti132 : TI := ⟨.scalar none, 1, 8, [.nilp], false⟩     -- *int
theorem ti132_ok : TIok Try.prog 132 ti132 := tiok 132 ti132 (by kernel_rfl) (by kernel_rfl) (by kernel_rfl) (by kernel_rfl) 5 (by kernel_rfl)
def ti133 : TI := ⟨.array 4 132, 4, 32, [.nilp, .nilp, .nilp, .nilp], false⟩     -- [4]*int
theorem ti133_ok : TIok Try.prog 133 ti133 := tiok 133 ti133 (by kernel_rfl) (by kernel_rfl) (by kernel_rfl) (by kernel_rfl) 5 (by kernel_rfl)
def ti140 : TI := ⟨.scalar none, 1, 8, [.nilp], false⟩     -- *steam.Stream
theorem ti140_ok : TIok Try.prog 140 ti140 := tiok 140 ti140 (by kernel_rfl) (by kernel_rfl) (by kernel_rfl) (by kernel_rfl) 5 (by kernel_rfl)
def ti145 : TI := ⟨.scalar (some .u64), 1, 8, [.int .u64 0], false⟩     -- uint
theorem ti145_ok : TIok Try.prog 145 ti145 := tiok 145 ti145 (by kernel_rfl) (by kernel_rfl) (by kernel_rfl) (by kernel_rfl) 5 (by kernel_rfl)
def ti155 : TI := ⟨.scalar none, 1, 8, [.nilp], false⟩     -- *uint8
theorem ti155_ok : TIok Try.prog 155 ti155 := tiok 155 ti155 (by kernel_rfl) (by kernel_rfl) (by kernel_rfl) (by kernel_rfl) 5 (by kernel_rfl)
def types : List (Nat × TI) := [(3, ti3), (4, ti4), (5, ti5), (9, ti9), (12, ti12), (13, ti13), (21, ti21), (22, ti22), (23, ti23), (24, ti24), (25, ti25), (27, ti27), (30, ti30), (31, ti31), (33, ti33), (34, ti34), (39, ti39), (45, ti45), (46, ti46), (47, ti47), (50, ti50), (51, ti51), (54, ti54), (56, ti56), (57, ti57), (63, ti63), (72, ti72), (73, ti73), (76, ti76), (81, ti81), (82, ti82), (84, ti84), (90, ti90), (91, ti91), (92, ti92), (102, ti102), (110, ti110), (113, ti113), (119, ti119), (123, ti123), (124, ti124), (132, ti132), (133, ti133), (140, ti140), (145, ti145), (155, ti155)]
theorem look_all {p : Nat → TI → Prop} : ∀ (l : List (Nat × TI)), (∀ x ∈ l, p x.1 x.2) → ∀ t ti, V.look l t = some ti → p t ti
  | [], _, t, ti, h => by cases h
  | (m, a) :: l, hl, t, ti, h => by
    simp only [V.look] at h
    cases hb : Nat.beq m t with
    | true =>
      rw [hb] at h
      obtain rfl := Nat.eq_of_beq_eq_true hb
      have := Option.some.inj h
      subst this
      exact hl _ (List.mem_cons_self ..)
    | false => rw [hb] at h; exact look_all l (fun x hx => hl x (List.mem_cons_of_mem _ hx)) t ti h
theorem types_ok : ∀ t ti, V.look types t = some ti → TIok Try.prog t ti := by
  refine look_all types ?_
  intro x hx
  simp only [types, List.mem_cons, List.not_mem_nil, or_false] at hx
  rcases hx with rfl | rfl | rfl | rfl | rfl | rfl | rfl | rfl | rfl | rfl | rfl | rfl | rfl | rfl | rfl | rfl | rfl | rfl | rfl | rfl | rfl | rfl | rfl | rfl | rfl | rfl | rfl | rfl | rfl | rfl | rfl | rfl | rfl | rfl | rfl | rfl | rfl | rfl | rfl | rfl | rfl | rfl | rfl | rfl | rfl | rfl
  · exact ti3_ok
  · exact ti4_ok
  · exact ti5_ok
  · exact ti9_ok
  · exact ti12_ok
  · exact ti13_ok
  · exact ti21_ok
  · exact ti22_ok
  · exact ti23_ok
  · exact ti24_ok
  · exact ti25_ok
  · exact ti27_ok
  · exact ti30_ok
  · exact ti31_ok
  · exact ti33_ok
  · exact ti34_ok
  · exact ti39_ok
  · exact ti45_ok
  · exact ti46_ok
  · exact ti47_ok
  · exact ti50_ok
  · exact ti51_ok
  · exact ti54_ok
  · exact ti56_ok
  · exact ti57_ok
  · exact ti63_ok
  · exact ti72_ok
  · exact ti73_ok
  · exact ti76_ok
  · exact ti81_ok
  · exact ti82_ok
  · exact ti84_ok
  · exact ti90_ok
  · exact ti91_ok
  · exact ti92_ok
  · exact ti102_ok
  · exact ti110_ok
  · exact ti113_ok
  · exact ti119_ok
  · exact ti123_ok
  · exact ti124_ok
  · exact ti132_ok
  · exact ti133_ok
  · exact ti140_ok
  · exact ti145_ok
  · exact ti155_ok
theorem mixed : Try.prog.follows .mixedOrders = true := by kernel_rfl
end Go.Proofs.Ytiidjohhcappdaa
