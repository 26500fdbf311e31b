package field_test

import (
	"slices"
	"strings"
	"testing"

	"fumarole/api"
	"fumarole/field"
)

// fields gives each field with sides of 1 to 4, and some with long sides.
func fields() []field.Field {
	l := []field.Field{{X: 8, Y: 8, Z: 1, Kinds: 1}, {X: 8, Y: 1, Z: 8, Kinds: 2}, {X: 1, Y: 8, Z: 8, Kinds: 6}, {X: 7, Y: 3, Z: 3, Kinds: 1}}
	for i := range 4 * 4 * 4 {
		l = append(l, field.Field{X: i%4 + 1, Y: i/4%4 + 1, Z: i/16 + 1, Kinds: i%3 + 1})
	}
	return l
}

// eachSite calls do with each place of the surface, and each kind.
func eachSite(f field.Field, do func(kind, x, y int)) {
	for kind := range f.Kinds {
		for x := range f.X {
			for y := range f.Y {
				do(kind, x, y)
			}
		}
	}
}

// surveyed gives the measure of the blocks for which weight gives true.
func surveyed(f field.Field, name string, kind int, in field.Range, weight func(u, v, w int) (int, bool)) field.Measure {
	m := field.Measure{Name: name, Kind: kind, In: in}
	for block := range f.X * f.Y * f.Z {
		if n, ok := weight(block%f.X, block/f.X%f.Y, block/(f.X*f.Y)); ok {
			m.Blocks, m.Weights = append(m.Blocks, block), append(m.Weights, n)
		}
	}
	return m
}

// TestColumn: P2.2, at each place, for each kind and each number of readings.
func TestColumn(t *testing.T) {
	for _, f := range fields() {
		eachSite(f, func(kind, x, y int) {
			for n := range f.Z + 1 {
				readings := []int{7, -9, api.MaxValue, -api.MaxValue, 0, 1, 2, 3}[:n]
				for _, off := range []int{0, 5, api.MaxValue} {
					var want []field.Measure
					for z, r := range readings {
						name := "log" + string(rune('0'+z))
						want = append(want, field.Measure{Name: name, Kind: kind, Blocks: []int{z*f.X*f.Y + y*f.X + x}, Weights: []int{1}, In: field.Range{Lo: r - off, Hi: r + off}})
					}
					if l, e := field.Column(f, "log", kind, x, y, readings, off); !sameMeasures(l, want) || e != api.OK {
						t.Fatalf("Column(%v, %d, %d, %d, %v, %d): %v, %v", f, kind, x, y, readings, off, l, e)
					}
				}
			}
		})
	}
}

// TestColumnErrors: the errors of Column, and which one comes first.
func TestColumnErrors(t *testing.T) {
	f := field.Field{X: 2, Y: 3, Z: 2, Kinds: 2}
	long := strings.Repeat("a", api.MaxName)
	for _, c := range []struct {
		name       string
		kind, x, y int
		readings   []int
		off        int
		want       api.Errno
	}{
		{"a", 1, 1, 2, []int{1, 2}, 0, api.OK},
		{"a", 1, 1, 2, []int{api.MaxValue, -api.MaxValue}, api.MaxValue, api.OK},
		{long[1:], 0, 0, 0, []int{1}, 0, api.OK},
		{long, 0, 0, 0, nil, 0, api.OK},
		{long, 0, 0, 0, []int{1}, 0, api.ErrName},
		{long, 2, 0, 0, nil, 0, api.ErrRange},
		{"a", 2, 0, 0, []int{1}, 0, api.ErrRange},
		{"a", -1, 0, 0, []int{1}, 0, api.ErrRange},
		{"a", 0, 2, 0, []int{1}, 0, api.ErrRange},
		{"a", 0, -1, 0, []int{1}, 0, api.ErrRange},
		{"a", 0, 0, 3, []int{1}, 0, api.ErrRange},
		{"a", 0, 0, -1, []int{1}, 0, api.ErrRange},
		{"a", 0, 2, 0, nil, 0, api.ErrRange},
		{"a", 0, 0, 0, []int{1, 2, 3}, 0, api.ErrRange},
		{"a", 0, 0, 0, []int{1}, -1, api.ErrRange},
		{"a", 0, 0, 0, []int{1}, api.MaxValue + 1, api.ErrRange},
		{"a", 0, 0, 0, nil, -1, api.ErrRange},
		{"a", 0, 0, 0, nil, api.MaxValue + 1, api.ErrRange},
		{"a", 0, 0, 0, []int{api.MaxValue + 1}, 0, api.ErrRange},
		{"a", 0, 0, 0, []int{-api.MaxValue - 1}, 0, api.ErrRange},
		{"a", 0, 0, 0, []int{1, api.MaxValue + 1}, 0, api.ErrRange},
		{"a", 0, 0, 0, []int{1, -api.MaxValue - 1}, 0, api.ErrRange},
		{"A", 2, 9, 9, []int{1, 2, 3}, -1, api.ErrName},
		{long, 2, 9, 9, []int{1, 2, 3}, -1, api.ErrName},
	} {
		l, e := field.Column(f, c.name, c.kind, c.x, c.y, c.readings, c.off)
		if alone(e, len(l) == 0) != c.want || e == api.OK && len(l) != len(c.readings) {
			t.Errorf("Column, %v: %v, %v", c, l, e)
		}
	}
	for _, name := range badNames() {
		for _, readings := range [][]int{nil, {1}} {
			if l, e := field.Column(f, name, 0, 0, 0, readings, 0); len(l) != 0 || e != api.ErrName {
				t.Errorf("Column %q: %v, %v", name, l, e)
			}
		}
	}
	for _, n := range farNumbers {
		for i := range 5 {
			a := [5]int{}
			a[i] = n
			if l, e := field.Column(f, "a", a[0], a[1], a[2], []int{a[3]}, a[4]); len(l) != 0 || e != api.ErrRange {
				t.Errorf("Column with %v: %v, %v", a, l, e)
			}
		}
	}
}

// TestStation: P2.2, at each place, for each kind.
func TestStation(t *testing.T) {
	in := field.Range{Lo: -3, Hi: 4}
	for _, f := range fields() {
		eachSite(f, func(kind, x, y int) {
			want := surveyed(f, "st", kind, in, func(u, v, w int) (int, bool) {
				return 1000 / ((u-x)*(u-x) + (v-y)*(v-y) + (w+1)*(w+1)), true
			})
			if m, e := field.Station(f, "st", kind, x, y, in); !sameMeasures([]field.Measure{m}, []field.Measure{want}) || e != api.OK {
				t.Fatalf("Station(%v, %d, %d, %d): %v, %v, not %v", f, kind, x, y, m, e, want)
			}
		})
	}
}

// TestSounding: P2.2, at each place, for each kind and each depth; and P2.15, it has all blocks of the less deep ones.
func TestSounding(t *testing.T) {
	in := field.Range{Lo: -3, Hi: 4}
	for _, f := range fields() {
		eachSite(f, func(kind, x, y int) {
			var shallower []int
			for depth := 1; depth <= f.Z; depth++ {
				want := surveyed(f, "so", kind, in, func(u, v, w int) (int, bool) {
					n := depth - 1 - w
					return 1, w < depth && -n <= u-x && u-x <= n && -n <= v-y && v-y <= n
				})
				m, e := field.Sounding(f, "so", kind, x, y, depth, in)
				if !sameMeasures([]field.Measure{m}, []field.Measure{want}) || e != api.OK {
					t.Fatalf("Sounding(%v, %d, %d, %d, %d): %v, %v, not %v", f, kind, x, y, depth, m, e, want)
				}
				for _, block := range shallower {
					if !slices.Contains(m.Blocks, block) {
						t.Errorf("Sounding(%v, %d, %d, %d, %d): %v has not all of %v", f, kind, x, y, depth, m.Blocks, shallower)
					}
				}
				shallower = m.Blocks
			}
		})
	}
}

// TestSiteErrors: the errors of Station and Sounding, and which one comes first.
func TestSiteErrors(t *testing.T) {
	f := field.Field{X: 2, Y: 3, Z: 4, Kinds: 2}
	good, wrong := field.Range{Lo: -api.MaxSum, Hi: api.MaxSum}, field.Range{Lo: 1}
	both := func(name string, kind, x, y int, in field.Range, want api.Errno) {
		t.Helper()
		m, e := field.Station(f, name, kind, x, y, in)
		if alone(e, noMeasure(m)) != want {
			t.Errorf("Station %q, %d, %d, %d, %v: %v, %v", name, kind, x, y, in, m, e)
		}
		m, e = field.Sounding(f, name, kind, x, y, 4, in)
		if alone(e, noMeasure(m)) != want {
			t.Errorf("Sounding %q, %d, %d, %d, %v: %v, %v", name, kind, x, y, in, m, e)
		}
	}
	for _, name := range goodNames() {
		both(name, 1, 1, 2, good, api.OK)
	}
	for _, name := range badNames() {
		both(name, 1, 1, 2, good, api.ErrName)
		both(name, 2, 1, 2, wrong, api.ErrName)
		both(name, 1, 1, 2, wrong, api.ErrName)
	}
	for _, p := range [][3]int{{2, 0, 0}, {-1, 0, 0}, {0, 2, 0}, {0, -1, 0}, {0, 0, 3}, {0, 0, -1}} {
		both("a", p[0], p[1], p[2], good, api.ErrRange)
		both("a", p[0], p[1], p[2], wrong, api.ErrRange)
	}
	for _, n := range farNumbers {
		both("a", n, 0, 0, good, api.ErrRange)
		both("a", 0, n, 0, good, api.ErrRange)
		both("a", 0, 0, n, good, api.ErrRange)
	}
	for _, in := range []field.Range{wrong, {Lo: 0, Hi: -1}, {Lo: -api.MaxSum - 1}, {Hi: api.MaxSum + 1}, {Lo: -api.MaxSum - 1, Hi: -api.MaxSum - 1}, {Lo: api.MaxSum + 1, Hi: api.MaxSum + 1}} {
		both("a", 0, 0, 0, in, api.ErrArg)
	}
	for _, in := range []field.Range{{}, {Lo: 5, Hi: 5}, {Lo: -api.MaxSum, Hi: -api.MaxSum}, {Lo: api.MaxSum, Hi: api.MaxSum}} {
		both("a", 0, 0, 0, in, api.OK)
	}
	for _, depth := range append([]int{-1, 0, 5}, farNumbers...) {
		for _, in := range []field.Range{good, wrong} {
			if m, e := field.Sounding(f, "a", 0, 0, 0, depth, in); alone(e, noMeasure(m)) != api.ErrRange {
				t.Errorf("Sounding of the depth %d: %v, %v", depth, m, e)
			}
		}
		if _, e := field.Sounding(f, "", 0, 0, 0, depth, good); e != api.ErrName {
			t.Errorf("Sounding without a name, of the depth %d: %v", depth, e)
		}
	}
}

// TestSurveysAreMeasures: what surveys return is valid, and may be handed on together.
func TestSurveysAreMeasures(t *testing.T) {
	for _, f := range fields() {
		l, _ := field.Column(f, "c", 0, 0, 0, make([]int, f.Z), 0)
		station, _ := field.Station(f, "st", f.Kinds-1, f.X-1, f.Y-1, field.Range{})
		sounding, _ := field.Sounding(f, "so", 0, 0, f.Y-1, f.Z, field.Range{})
		if e := field.CheckMeasures(f, append(l, station, sounding)); e != api.OK {
			t.Errorf("CheckMeasures(%v, %v, %v, %v): %v", f, l, station, sounding, e)
		}
	}
}

// TestOwnColumn: P2.15, a column with the model's own numbers does not contradict it.
func TestOwnColumn(t *testing.T) {
	d := &dice{state: 15}
	for range 300 {
		f := d.field(64)
		m := d.models(f, 1, api.MaxValue)[0]
		kind, x, y := d.roll(0, f.Kinds-1), d.roll(0, f.X-1), d.roll(0, f.Y-1)
		var readings []int
		for z := range d.roll(1, f.Z) {
			readings = append(readings, m.Values[kind*f.X*f.Y*f.Z+(z*f.Y+y)*f.X+x])
		}
		l, e := field.Column(f, "own", kind, x, y, readings, 0)
		if e != api.OK {
			t.Fatalf("Column(%v, %d, %d, %d, %v): %v", f, kind, x, y, readings, e)
		}
		left, struck := strikes(t, f, []field.Model{m}, l)
		if len(left) != 1 || len(struck) != 0 {
			t.Errorf("%v contradicts the model %v: %v", l, m, struck)
		}
	}
}

// TestMirror: P2.15, the sum of a station in a mirrored model is the one of the mirrored place.
func TestMirror(t *testing.T) {
	d := &dice{state: 151}
	for range 300 {
		f := d.field(64)
		m := d.models(f, 1, api.MaxValue)[0]
		mirrored := model("mirrored")
		for i := range m.Values {
			mirrored.Values = append(mirrored.Values, m.Values[i-i%f.X+f.X-1-i%f.X])
		}
		kind, x, y := d.roll(0, f.Kinds-1), d.roll(0, f.X-1), d.roll(0, f.Y-1)
		here, _ := field.Station(f, "here", kind, x, y, field.Range{})
		there, _ := field.Station(f, "there", kind, f.X-1-x, y, field.Range{})
		a, e1 := field.Sum(f, m, here)
		b, e2 := field.Sum(f, mirrored, there)
		if a != b || e1 != api.OK || e2 != api.OK {
			t.Errorf("%v at %d, %d: %d, %v, and mirrored %d, %v", f, x, y, a, e1, b, e2)
		}
	}
}
