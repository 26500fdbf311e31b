package field_test

import (
	"testing"

	"fumarole/api"
	"fumarole/field"
)

// badFields are fields that are just beyond what is valid, each by one thing.
func badFields() []field.Field {
	l := []field.Field{
		{},
		{X: 0, Y: 1, Z: 2, Kinds: 1},
		{X: 2, Y: 0, Z: 2, Kinds: 1},
		{X: 2, Y: 1, Z: 0, Kinds: 1},
		{X: 2, Y: 1, Z: 2, Kinds: 0},
		{X: -1, Y: 1, Z: 2, Kinds: 1},
		{X: -2, Y: -1, Z: 2, Kinds: 1},
		{X: 2, Y: -1, Z: -2, Kinds: 1},
		{X: 2, Y: 1, Z: 2, Kinds: -1},
		{X: api.MaxSides + 1, Y: 1, Z: 1, Kinds: 1},
		{X: 1, Y: api.MaxSides + 1, Z: 1, Kinds: 1},
		{X: 1, Y: 1, Z: api.MaxSides + 1, Kinds: 1},
		{X: 2, Y: 1, Z: 2, Kinds: api.MaxKinds + 1},
		{X: 2, Y: 5, Z: 7, Kinds: 1}, // the least product above MaxBlocks
		{X: 8, Y: 8, Z: 2, Kinds: 1},
		{X: 8, Y: 8, Z: 8, Kinds: 1},
		{X: 1 << 32, Y: 1 << 32, Z: 1, Kinds: 1},
		{X: 1 << 22, Y: 1 << 21, Z: 1 << 21, Kinds: 1},
	}
	for _, n := range farNumbers {
		l = append(l, field.Field{X: n, Y: 1, Z: 1, Kinds: 1}, field.Field{X: 1, Y: n, Z: 1, Kinds: 1}, field.Field{X: 1, Y: 1, Z: n, Kinds: 1}, field.Field{X: 1, Y: 1, Z: 1, Kinds: n})
	}
	return l
}

// TestCheckField: P2.1, each field within the limits, and the ones around them.
func TestCheckField(t *testing.T) {
	for x := -1; x <= api.MaxSides+1; x++ {
		for y := -1; y <= api.MaxSides+1; y++ {
			for z := -1; z <= api.MaxSides+1; z++ {
				for kinds := -1; kinds <= api.MaxKinds+1; kinds++ {
					want := api.ErrArg
					if 1 <= x && x <= 8 && 1 <= y && y <= 8 && 1 <= z && z <= 8 && x*y*z <= 64 && 1 <= kinds && kinds <= 6 {
						want = api.OK
					}
					if e := field.CheckField(field.Field{X: x, Y: y, Z: z, Kinds: kinds}); e != want {
						t.Errorf("CheckField of %d %d %d, %d kinds: %v", x, y, z, kinds, e)
					}
				}
			}
		}
	}
	for _, f := range badFields() {
		if e := field.CheckField(f); e != api.ErrArg {
			t.Errorf("CheckField(%v): %v", f, e)
		}
	}
}

// TestNumberAndPlace: P2.1, the blocks are numbered along x, then along y, then downwards.
func TestNumberAndPlace(t *testing.T) {
	for _, f := range []field.Field{{X: 1, Y: 1, Z: 1, Kinds: 1}, {X: 3, Y: 4, Z: 5, Kinds: 2}, {X: 5, Y: 2, Z: 3, Kinds: 6}, {X: 8, Y: 1, Z: 8, Kinds: 1}, {X: 1, Y: 8, Z: 8, Kinds: 1}, {X: 8, Y: 8, Z: 1, Kinds: 1}} {
		block := 0
		for z := range f.Z {
			for y := range f.Y {
				for x := range f.X {
					if n, e := field.Number(f, x, y, z); n != block || e != api.OK {
						t.Errorf("Number(%v, %d, %d, %d): %d, %v", f, x, y, z, n, e)
					}
					if a, b, c, e := field.Place(f, block); a != x || b != y || c != z || e != api.OK {
						t.Errorf("Place(%v, %d): %d %d %d, %v", f, block, a, b, c, e)
					}
					block++
				}
			}
		}
		for _, n := range append([]int{-1, block, block + 1}, farNumbers...) {
			if x, y, z, e := field.Place(f, n); x != 0 || y != 0 || z != 0 || e != api.ErrRange {
				t.Errorf("Place(%v, %d): %d %d %d, %v", f, n, x, y, z, e)
			}
		}
		outside := [][3]int{{-1, 0, 0}, {0, -1, 0}, {0, 0, -1}, {f.X, 0, 0}, {0, f.Y, 0}, {0, 0, f.Z}, {f.X, -1, 0}, {-f.X, 1, 0}}
		for _, n := range farNumbers {
			outside = append(outside, [3]int{n, 0, 0}, [3]int{0, n, 0}, [3]int{0, 0, n})
		}
		for _, p := range outside {
			if n, e := field.Number(f, p[0], p[1], p[2]); n != 0 || e != api.ErrRange {
				t.Errorf("Number(%v, %v): %d, %v", f, p, n, e)
			}
		}
	}
}
