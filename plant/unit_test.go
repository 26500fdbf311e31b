package plant_test

import (
	"slices"
	"strconv"
	"testing"

	"fumarole/api"
	"fumarole/plant"
	"fumarole/steam"
)

// badUnits are units that are not valid.
func badUnits() map[string]plant.Unit {
	l := map[string]plant.Unit{
		"nothing":                     {},
		"no parts":                    unit(0),
		"too many parts":              {Parts: slices.Repeat([]plant.Part{{Width: 1, Gain: 1}}, api.MaxParts+1)},
		"far too many parts":          {Parts: slices.Repeat([]plant.Part{{Width: 1, Gain: 1}}, 1000)},
		"gains that rise":             unit(0, 10, 5, 10, 6),
		"gains that rise behind":      unit(0, 10, 5, 10, 5, 10, 0, 10, 1),
		"gains that rise in the last": unit(0, 1, 9, 1, 8, 1, 7, 1, 6, 1, 5, 1, 4, 1, 3, 1, 9),
	}
	add := func(what string, n int, u plant.Unit) {
		l[what+" "+strconv.Itoa(n)] = u
	}
	for _, n := range outside(0, api.MaxHeads-1) {
		add("inlet", n, unit(n, 10, 5))
	}
	for _, n := range outside(1, api.MaxWidth) {
		add("width", n, unit(0, n, 5))
		add("last width", n, unit(0, 10, 5, n, 4))
	}
	for _, n := range outside(0, api.MaxGain) {
		add("gain", n, unit(0, 10, n))
		add("last gain", n, unit(0, 10, 5, 10, n))
		add("first gain", n, unit(0, 10, n, 10, 5))
	}
	return l
}

// goodUnits are valid ones.
func goodUnits() map[string]plant.Unit {
	return map[string]plant.Unit{
		"the chapter's":         chapterUnit(),
		"the least":             unit(0, 1, 0),
		"the greatest":          {Inlet: api.MaxHeads - 1, Parts: slices.Repeat([]plant.Part{{Width: api.MaxWidth, Gain: api.MaxGain}}, api.MaxParts)},
		"gains that are equal":  unit(3, 10, 5, 20, 5, 30, 5),
		"widths that fall":      unit(2, 30, 5, 20, 4, 10, 3),
		"a last gain of 0":      unit(4, 30, api.MaxGain, 20, 0),
		"as many as there may":  unit(1, 8, 8, 7, 7, 6, 6, 5, 5, 4, 4, 3, 3, 2, 2, 1, 1),
		"parts that are narrow": unit(0, 1, 3, 1, 2, 1, 1),
	}
}

// TestCheckUnit: P7.1, what is valid, and what is not: for all calls with a unit.
func TestCheckUnit(t *testing.T) {
	for name, u := range goodUnits() {
		if e := plant.CheckUnit(u); e != api.OK {
			t.Errorf("CheckUnit, %s: %v", name, e)
		}
		if n, e := plant.Power(u, 0); n != 0 || e != api.OK {
			t.Errorf("Power, %s: %d, %v", name, n, e)
		}
	}
	for name, u := range badUnits() {
		if e := plant.CheckUnit(u); e != api.ErrArg {
			t.Errorf("CheckUnit, %s: %v", name, e)
		}
		for _, mass := range []int{0, 1, -1} {
			if n, e := plant.Power(u, mass); n != 0 || e != api.ErrArg {
				t.Errorf("Power, %s: %d, %v", name, n, e)
			}
		}
		if s, n, e := plant.Expand(u, stream(1, 4000, 0, 0)); s != (steam.Stream{}) || n != 0 || e != api.ErrArg {
			t.Errorf("Expand, %s: %v, %d, %v", name, s, n, e)
		}
	}
}

// TestPower: P7.1, at the edges of parts.
func TestPower(t *testing.T) {
	for _, c := range []struct {
		u          plant.Unit
		mass, want int
	}{
		{chapterUnit(), 0, 0},
		{chapterUnit(), 1, 500},
		{chapterUnit(), 99, 49500},
		{chapterUnit(), 100, 50000},
		{chapterUnit(), 101, 50300},
		{chapterUnit(), 149, 64700},
		{chapterUnit(), 150, 65000},
		{unit(0, 1, 3, 1, 2, 1, 1), 2, 5},
		{unit(0, 1, 3, 1, 2, 1, 1), 3, 6},
		{unit(0, 10, 7, 5, 0), 10, 70},
		{unit(0, 10, 7, 5, 0), 15, 70},
		{unit(0, 10, 0), 10, 0},
		{goodUnits()["the greatest"], 800000, 800000000},
		{goodUnits()["the greatest"], 799999, 799999000},
	} {
		if n, e := plant.Power(c.u, c.mass); n != c.want || e != api.OK {
			t.Errorf("Power(%v, %d): %d, %v", c.u, c.mass, n, e)
		}
	}
}

// TestPowerRange: masses that are not from 0 to the capacity.
func TestPowerRange(t *testing.T) {
	for name, u := range goodUnits() {
		if n, e := plant.Power(u, capacity(u)); n != trueWork(u, capacity(u)) || e != api.OK {
			t.Errorf("Power of all, %s: %d, %v", name, n, e)
		}
		for _, mass := range outside(0, capacity(u)) {
			if n, e := plant.Power(u, mass); n != 0 || e != api.ErrRange {
				t.Errorf("Power of %d, %s: %d, %v", mass, name, n, e)
			}
		}
	}
}

// TestPowerCounted: P7.1, P7.9, kilogram by kilogram.
func TestPowerCounted(t *testing.T) {
	d := &dice{seed: 71}
	for range 500 {
		u := d.unit(d.roll(0, 5), api.MaxParts, 12, d.pick(3, 20, api.MaxGain))
		work, last, mass := 0, api.MaxGain, 0
		for _, p := range u.Parts {
			for range p.Width {
				work, mass = work+p.Gain, mass+1
				n, e := plant.Power(u, mass)
				if n != work || e != api.OK {
					t.Fatalf("Power(%v, %d): %d, %v", u, mass, n, e)
				}
				before, _ := plant.Power(u, mass-1)
				if n < before || n-before > last {
					t.Fatalf("Power(%v, %d): %d after %d", u, mass, n, before)
				}
				last = n - before
			}
		}
	}
}

// TestPowerOfAny: P7.1, P7.9, of wide units.
func TestPowerOfAny(t *testing.T) {
	d := &dice{seed: 719}
	for range 2000 {
		u := d.unit(d.roll(0, 5), api.MaxParts, api.MaxWidth, api.MaxGain)
		a := d.roll(0, capacity(u))
		b := d.roll(a, capacity(u))
		x, e := plant.Power(u, a)
		y, f := plant.Power(u, b)
		if x != trueWork(u, a) || y != trueWork(u, b) || e != api.OK || f != api.OK || x > y {
			t.Errorf("Power(%v) of %d and %d: %d, %d", u, a, b, x, y)
		}
	}
}

// TestExpand: P7.2, all but the heat stays.
func TestExpand(t *testing.T) {
	for _, c := range []struct {
		in   steam.Stream
		work int
		e    api.Errno
	}{
		{stream(120, 330000, 700, 9), 56000, api.OK},
		{stream(120, 56000, 0, 0), 56000, api.OK},
		{stream(120, 55999, 0, 0), 0, api.ErrFail},
		{stream(120, 0, 0, 0), 0, api.ErrFail},
		{stream(1, 500, 10000, 1), 500, api.OK},
		{stream(1, 499, 0, 0), 0, api.ErrFail},
		{stream(150, 65000, 0, api.MaxGas), 65000, api.OK},
		{stream(150, 600000, 1500000, 0), 65000, api.OK},
		{stream(151, 600000, 0, 0), 0, api.ErrRange},
		{stream(151, 0, 0, 0), 0, api.ErrRange},
		{stream(api.MaxMass, 0, 0, 0), 0, api.ErrRange},
		{stream(0, 0, 0, 0), 0, api.OK},
		{stream(0, 0, 0, 5), 0, api.OK},
	} {
		want := c.in
		want.Heat -= c.work
		if c.e != api.OK {
			want = steam.Stream{}
		}
		if s, work, e := plant.Expand(chapterUnit(), c.in); s != want || work != c.work || e != c.e {
			t.Errorf("Expand(%v): %v, %d, %v", c.in, s, work, e)
		}
	}
}

// TestExpandAny: P7.2, P7.8, the heat is that of what leaves, and the work.
func TestExpandAny(t *testing.T) {
	d := &dice{seed: 72}
	met := map[api.Errno]int{}
	for range 5000 {
		u := d.unit(d.roll(0, 5), api.MaxParts, d.pick(3, 500), api.MaxGain)
		in := d.stream(d.pick(5, 500, 3000))
		s, work, e := plant.Expand(u, in)
		met[e]++
		switch {
		case in.Mass > capacity(u):
			if s != (steam.Stream{}) || work != 0 || e != api.ErrRange {
				t.Errorf("Expand(%v, %v): %v, %d, %v", u, in, s, work, e)
			}
		case in.Heat < trueWork(u, in.Mass):
			if s != (steam.Stream{}) || work != 0 || e != api.ErrFail {
				t.Errorf("Expand(%v, %v): %v, %d, %v", u, in, s, work, e)
			}
		default:
			if work != trueWork(u, in.Mass) || s != stream(in.Mass, in.Heat-work, in.Silica, in.Gas) || e != api.OK {
				t.Errorf("Expand(%v, %v): %v, %d, %v", u, in, s, work, e)
			}
		}
	}
	if met[api.OK] < 500 || met[api.ErrRange] < 500 || met[api.ErrFail] < 500 {
		t.Errorf("too few of a kind: %v", met)
	}
}
