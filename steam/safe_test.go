package steam_test

import (
	"slices"
	"testing"

	"fumarole/api"
	"fumarole/steam"
)

// TestDeepest: P1.5, every level safe, some, and none.
func TestDeepest(t *testing.T) {
	cold := func(silica int) steam.Stream { return steam.Stream{Mass: 2, Silica: silica} }
	for _, c := range []struct {
		l    []steam.Stream
		want int
		e    api.Errno
	}{
		{[]steam.Stream{cold(0)}, 0, api.OK},
		{[]steam.Stream{cold(300)}, 0, api.OK},
		{[]steam.Stream{cold(301)}, 1, api.OK},
		{[]steam.Stream{cold(600)}, 1, api.OK},
		{[]steam.Stream{cold(601)}, 2, api.OK},
		{[]steam.Stream{cold(1200)}, 2, api.OK},
		{[]steam.Stream{cold(1201)}, 0, api.ErrNone},
		{[]steam.Stream{cold(300), cold(601), cold(301)}, 2, api.OK},
		{[]steam.Stream{cold(601), cold(300)}, 2, api.OK},
		{[]steam.Stream{cold(0), cold(1201)}, 0, api.ErrNone},
		{[]steam.Stream{cold(1201), cold(0)}, 0, api.ErrNone},
		{[]steam.Stream{{}}, 0, api.OK},
		{[]steam.Stream{{Mass: 1, Heat: 4000, Silica: 1}}, 0, api.ErrNone}, // steam holds none
		{nil, 0, api.ErrArg},
		{[]steam.Stream{}, 0, api.ErrArg},
		{slices.Repeat([]steam.Stream{cold(301)}, api.MaxStreams), 1, api.OK},
		{slices.Repeat([]steam.Stream{cold(301)}, api.MaxStreams+1), 0, api.ErrLimit},
	} {
		if n, e := steam.Deepest(chapterTable(), c.l); n != c.want || e != c.e {
			t.Errorf("Deepest(%v): %d, %v", c.l, n, e)
		}
	}
}

// TestDeepestGap: P1.5, a level that is safe counts only if all above it are.
func TestDeepestGap(t *testing.T) {
	table := steam.Table{
		{T: 1, P: 1, Liquid: 100, Vapour: 3900, Silica: 10},
		{T: 2, P: 2, Liquid: 200, Vapour: 3900, Silica: 10},
		{T: 3, P: 3, Liquid: 300, Vapour: 301, Silica: 10}, // all of a stream with 500 a kilogram is steam here
		{T: 4, P: 4, Liquid: 800, Vapour: 3900, Silica: 10},
	}
	s := steam.Stream{Mass: 100, Heat: 50000, Silica: 100}
	for level, scale := range []int{0, 0, 100, 0} {
		if p := flash(t, table, level, s); p.Scale != scale {
			t.Errorf("Flash at %d: %v", level, p)
		}
	}
	if n, e := steam.Deepest(table, []steam.Stream{s}); n != 3 || e != api.OK {
		t.Errorf("Deepest: %d, %v", n, e)
	}
	if n, e := steam.Deepest(table[:3], []steam.Stream{s}); n != 0 || e != api.ErrNone {
		t.Errorf("Deepest, the highest level not safe: %d, %v", n, e)
	}
}

// TestDeepestHolds: P1.11, of any streams.
func TestDeepestHolds(t *testing.T) {
	d := &dice{state: 11}
	met := map[api.Errno]int{}
	for range 3000 {
		table := d.table()
		l := make([]steam.Stream, d.roll(1, 5))
		for i := range l {
			l[i] = d.stream(api.MaxMass)
			l[i].Heat = d.roll(0, 1500*l[i].Mass)
			l[i].Silica = d.roll(0, l[i].Mass*d.roll(0, table[len(table)-1].Silica))
		}
		safe := func(level int) bool {
			for _, s := range l {
				if flash(t, table, level, s).Scale > 0 {
					return false
				}
			}
			return true
		}
		n, e := steam.Deepest(table, l)
		met[e]++
		if e == api.ErrNone {
			if n != 0 || safe(len(table)-1) {
				t.Errorf("Deepest(%v, %v): %d, %v, with a level that is safe", table, l, n, e)
			}
			continue
		}
		for level := n; level < len(table); level++ {
			if !safe(level) {
				t.Errorf("Deepest(%v, %v): %d, and %d is not safe", table, l, n, level)
			}
		}
		if e != api.OK || n > 0 && safe(n-1) {
			t.Errorf("Deepest(%v, %v): %d, %v, not the deepest", table, l, n, e)
		}
	}
	if met[api.OK] < 100 || met[api.ErrNone] < 100 {
		t.Errorf("too few of a kind: %v", met)
	}
}

// TestBounds: P1.6, ranges of one number, and wide ones.
func TestBounds(t *testing.T) {
	one := func(n int) steam.Range { return steam.Range{Lo: n, Hi: n} }
	for _, c := range []struct {
		level, mass                int
		heat, silica, steam, scale steam.Range
	}{
		{0, 1000, one(852000), one(250000), one(191), one(128650)},
		{1, 1000, one(852000), one(268801), one(104), one(1)},
		{0, 0, one(0), one(0), one(0), one(0)},
		{0, 2, steam.Range{Hi: 8000}, steam.Range{Hi: 20000}, steam.Range{Hi: 2}, steam.Range{Hi: 20000}},
		{0, 2, steam.Range{Lo: 838, Hi: 3095}, steam.Range{Lo: 300, Hi: 301}, steam.Range{Hi: 1}, steam.Range{Hi: 151}},
		{0, 2, steam.Range{Lo: 3094, Hi: 5352}, one(20000), steam.Range{Hi: 2}, steam.Range{Lo: 19700, Hi: 20000}},
		{0, api.MaxMass, steam.Range{Hi: api.MaxEnthalpy * api.MaxMass}, steam.Range{Hi: api.MaxGrain * api.MaxMass}, steam.Range{Hi: api.MaxMass}, steam.Range{Hi: api.MaxGrain * api.MaxMass}},
	} {
		a, b, e := steam.Bounds(chapterTable(), c.level, c.mass, c.heat, c.silica)
		if a != c.steam || b != c.scale || e != api.OK {
			t.Errorf("Bounds(%d, %d, %v, %v): %v, %v, %v", c.level, c.mass, c.heat, c.silica, a, b, e)
		}
	}
}

// TestBoundsArguments: masses and ranges that Bounds does not take.
func TestBoundsArguments(t *testing.T) {
	type arguments struct {
		mass         int
		heat, silica steam.Range
	}
	l := []arguments{
		{-1, steam.Range{}, steam.Range{}},
		{api.MaxMass + 1, steam.Range{}, steam.Range{}},
		{2, steam.Range{Lo: 1}, steam.Range{}},
		{2, steam.Range{}, steam.Range{Lo: 1}},
		{2, steam.Range{Lo: -1, Hi: 5}, steam.Range{}},
		{2, steam.Range{Lo: -5, Hi: -1}, steam.Range{}},
		{2, steam.Range{Hi: 8001}, steam.Range{}},
		{2, steam.Range{Lo: 8001, Hi: 8001}, steam.Range{}},
		{2, steam.Range{}, steam.Range{Lo: -1, Hi: 5}},
		{2, steam.Range{}, steam.Range{Hi: 20001}},
		{0, steam.Range{Hi: 1}, steam.Range{}},
		{0, steam.Range{}, steam.Range{Hi: 1}},
	}
	for _, n := range farNumbers {
		l = append(l,
			arguments{n, steam.Range{}, steam.Range{}},
			arguments{5, steam.Range{Lo: min(0, n), Hi: max(0, n)}, steam.Range{}},
			arguments{5, steam.Range{}, steam.Range{Lo: min(0, n), Hi: max(0, n)}})
	}
	for _, c := range l {
		if a, b, e := steam.Bounds(chapterTable(), 0, c.mass, c.heat, c.silica); a != (steam.Range{}) || b != (steam.Range{}) || e != api.ErrArg {
			t.Errorf("Bounds(%v): %v, %v, %v", c, a, b, e)
		}
	}
}

// span gives a range of at most so many numbers, from 0 to most.
func (d *dice) span(wide, most int) steam.Range {
	lo := d.roll(0, most)
	return steam.Range{Lo: lo, Hi: min(most, lo+d.roll(0, wide))}
}

// TestBoundsHold: P1.10 and P1.6, against all streams of the ranges.
func TestBoundsHold(t *testing.T) {
	d := &dice{state: 10}
	for range 400 {
		table, mass := d.table(), d.roll(0, 6)
		level := d.roll(0, len(table)-1)
		r := table[level]
		heat, silica := d.span(60, api.MaxEnthalpy*mass), d.span(30, 2*r.Silica*mass)
		if mass > 0 && d.roll(0, 1) == 0 { // around a place where one kilogram more is steam
			heat.Lo = min(mass*r.Liquid+d.roll(0, mass)*(r.Vapour-r.Liquid), api.MaxEnthalpy*mass)
			heat.Hi = min(heat.Lo+30, api.MaxEnthalpy*mass)
			heat.Lo = max(0, heat.Lo-30)
		}
		first := flash(t, table, level, steam.Stream{Mass: mass, Heat: heat.Lo, Silica: silica.Lo})
		vapour, scale := steam.Range{Lo: first.Steam.Mass, Hi: first.Steam.Mass}, steam.Range{Lo: first.Scale, Hi: first.Scale}
		for h := heat.Lo; h <= heat.Hi; h++ {
			for g := silica.Lo; g <= silica.Hi; g++ {
				p := flash(t, table, level, steam.Stream{Mass: mass, Heat: h, Silica: g})
				vapour = steam.Range{Lo: min(vapour.Lo, p.Steam.Mass), Hi: max(vapour.Hi, p.Steam.Mass)}
				scale = steam.Range{Lo: min(scale.Lo, p.Scale), Hi: max(scale.Hi, p.Scale)}
			}
		}
		a, b, e := steam.Bounds(table, level, mass, heat, silica)
		if a != vapour || b != scale || e != api.OK {
			t.Errorf("Bounds(%v, %d, %v, %v): %v, %v, %v, not %v, %v", r, mass, heat, silica, a, b, e, vapour, scale)
		}
	}
}
