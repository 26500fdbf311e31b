package steam_test

import (
	"slices"
	"testing"

	"fumarole/api"
	"fumarole/steam"
)

// TestFlash: P1.4, at the edges of no steam, and of only steam.
func TestFlash(t *testing.T) {
	// At the level 0 a kilogram of water has 419, one of steam 2676, and water holds 150.
	for name, c := range map[string]struct {
		s    steam.Stream
		want steam.Parts
	}{
		"nothing":           {steam.Stream{}, steam.Parts{}},
		"only gas":          {steam.Stream{Gas: 5}, steam.Parts{Water: steam.Stream{Gas: 5}}},
		"cold":              {steam.Stream{Mass: 2, Silica: 299, Gas: 3}, steam.Parts{Water: steam.Stream{Mass: 2, Silica: 299, Gas: 3}}},
		"one below boiling": {steam.Stream{Mass: 2, Heat: 837, Silica: 300}, steam.Parts{Water: steam.Stream{Mass: 2, Heat: 837, Silica: 300}}},
		"at boiling":        {steam.Stream{Mass: 2, Heat: 838, Silica: 301}, steam.Parts{Water: steam.Stream{Mass: 2, Heat: 838, Silica: 300}, Scale: 1}},
		"one above boiling": {steam.Stream{Mass: 2, Heat: 839, Gas: 4}, steam.Parts{Water: steam.Stream{Mass: 2, Heat: 839, Gas: 4}, Rest: 1}},
		// 2257 more make a kilogram of steam.
		"almost a kilogram": {steam.Stream{Mass: 2, Heat: 3094, Silica: 300, Gas: 4}, steam.Parts{Water: steam.Stream{Mass: 2, Heat: 3094, Silica: 300, Gas: 4}, Rest: 2256}},
		"a kilogram":        {steam.Stream{Mass: 2, Heat: 3095, Silica: 300, Gas: 4}, steam.Parts{Steam: steam.Stream{Mass: 1, Heat: 2676, Gas: 4}, Water: steam.Stream{Mass: 1, Heat: 419, Silica: 150}, Scale: 150}},
		"and one more":      {steam.Stream{Mass: 2, Heat: 3096, Silica: 100}, steam.Parts{Steam: steam.Stream{Mass: 1, Heat: 2676}, Water: steam.Stream{Mass: 1, Heat: 420, Silica: 100}, Rest: 1}},
		"almost all":        {steam.Stream{Mass: 2, Heat: 5351, Silica: 151}, steam.Parts{Steam: steam.Stream{Mass: 1, Heat: 2676}, Water: steam.Stream{Mass: 1, Heat: 2675, Silica: 150}, Rest: 2256, Scale: 1}},
		"only steam":        {steam.Stream{Mass: 2, Heat: 5352, Silica: 7, Gas: 9}, steam.Parts{Steam: steam.Stream{Mass: 2, Heat: 5352, Gas: 9}, Scale: 7}},
		"hot steam":         {steam.Stream{Mass: 2, Heat: 8000}, steam.Parts{Steam: steam.Stream{Mass: 2, Heat: 8000}}},
	} {
		if p, e := steam.Flash(chapterTable(), 0, c.s); p != c.want || e != api.OK {
			t.Errorf("%s: %v, %v", name, p, e)
		}
	}
}

// TestFlashGreatest: P1.4, with the greatest numbers that are valid.
func TestFlashGreatest(t *testing.T) {
	full := steam.Stream{Mass: api.MaxMass, Heat: api.MaxEnthalpy * api.MaxMass, Silica: api.MaxGrain * api.MaxMass, Gas: api.MaxGas}
	want := steam.Parts{Steam: steam.Stream{Mass: full.Mass, Heat: full.Heat, Gas: full.Gas}, Scale: full.Silica}
	if p := flash(t, chapterTable(), 2, full); p != want {
		t.Errorf("only steam: %v", p)
	}
	table := steam.Table{{T: 1, P: 1, Liquid: 1, Vapour: 2}, {T: 2, P: 2, Liquid: 3999, Vapour: 4000, Silica: 2000}}
	full.Heat--
	want = steam.Parts{
		Steam: steam.Stream{Mass: 999999, Heat: 3999996000, Gas: api.MaxGas},
		Water: steam.Stream{Mass: 1, Heat: 3999, Silica: 2000},
		Scale: 9999998000,
	}
	if p := flash(t, table, 1, full); p != want {
		t.Errorf("one below only steam: %v", p)
	}
}

// TestFlashLevels: a level that is none of the table.
func TestFlashLevels(t *testing.T) {
	for _, level := range append([]int{-1, 3, 4}, farNumbers...) {
		if p, e := steam.Flash(chapterTable(), level, chapterStream()); p != (steam.Parts{}) || e != api.ErrRange {
			t.Errorf("Flash at %d: %v, %v", level, p, e)
		}
		if a, b, e := steam.Bounds(chapterTable(), level, 1, steam.Range{}, steam.Range{}); a != (steam.Range{}) || b != (steam.Range{}) || e != api.ErrRange {
			t.Errorf("Bounds at %d: %v, %v, %v", level, a, b, e)
		}
		for _, levels := range [][]int{{level}, {2, level}, {level, 0}} {
			if l, e := steam.Train(chapterTable(), levels, chapterStream()); len(l) != 0 || e != api.ErrRange {
				t.Errorf("Train at %v: %v, %v", levels, l, e)
			}
		}
	}
}

// steamOf gives the greatest mass of steam that the heat makes: each kilogram of it takes V - L more than the water has.
func steamOf(r steam.Row, s steam.Stream) int {
	m := 0
	for m < s.Mass && (m+1)*(r.Vapour-r.Liquid) <= s.Heat-s.Mass*r.Liquid {
		m++
	}
	return m
}

// TestFlashCounted: P1.4, the mass of steam counted kilogram by kilogram.
func TestFlashCounted(t *testing.T) {
	d := &dice{state: 4}
	for range 3000 {
		table, s := d.table(), d.stream(30)
		level := d.roll(0, len(table)-1)
		p, r := flash(t, table, level, s), table[level]
		if want := steamOf(r, s); p.Steam.Mass != want {
			t.Errorf("Flash(%v, %v): %d of steam, not %d", r, s, p.Steam.Mass, want)
		}
		if held := min(s.Silica, p.Water.Mass*r.Silica); p.Water.Silica != held || p.Scale != s.Silica-held || p.Steam.Silica != 0 {
			t.Errorf("Flash(%v, %v): silica of %v", r, s, p)
		}
		gas := p.Water.Gas
		if p.Steam.Mass > 0 {
			gas = p.Steam.Gas
		}
		if gas != s.Gas {
			t.Errorf("Flash(%v, %v): gas of %v", r, s, p)
		}
	}
}

// TestFlashLosesNothing: P1.7, and that steam and water are streams.
func TestFlashLosesNothing(t *testing.T) {
	d := &dice{state: 71}
	for range 3000 {
		table, s := d.table(), d.stream(api.MaxMass)
		level := d.roll(0, len(table)-1)
		p := flash(t, table, level, s)
		if add(p.Steam, p.Water, steam.Stream{Silica: p.Scale}) != s || p.Scale < 0 {
			t.Errorf("Flash(%v, %v): %v does not add up", table[level], s, p)
		}
		if steam.CheckStream(p.Steam) != api.OK || steam.CheckStream(p.Water) != api.OK {
			t.Errorf("Flash(%v, %v): %v has what is no stream", table[level], s, p)
		}
	}
}

// TestFlashMoreHeat: P1.9, of heats that rise.
func TestFlashMoreHeat(t *testing.T) {
	d := &dice{state: 9}
	for range 500 {
		table, s := d.table(), d.stream(1000)
		level := d.roll(0, len(table)-1)
		r, last := table[level], 0
		for s.Heat = 0; s.Heat <= api.MaxEnthalpy*s.Mass; s.Heat += d.roll(1, 1+30*s.Mass) {
			p := flash(t, table, level, s)
			if p.Steam.Mass < last {
				t.Errorf("Flash(%v, %v): %d of steam, less than %d", r, s, p.Steam.Mass, last)
			}
			last = p.Steam.Mass
			if p.Rest < 0 || p.Rest > r.Vapour-r.Liquid-1 || p.Rest > 0 && p.Rest != p.Water.Heat-p.Water.Mass*r.Liquid {
				t.Errorf("Flash(%v, %v): the rest of %v", r, s, p)
			}
			if p.Steam.Mass > 0 && p.Water.Mass > 0 && (p.Steam.Heat != p.Steam.Mass*r.Vapour || p.Water.Heat != p.Water.Mass*r.Liquid+p.Rest) {
				t.Errorf("Flash(%v, %v): the heats of %v", r, s, p)
			}
		}
	}
}

// TestTrain: P1.4, of one level and of several.
func TestTrain(t *testing.T) {
	s := chapterStream()
	s.Silica = 500000
	if l := train(t, chapterTable(), []int{0}, s); l[0] != flash(t, chapterTable(), 0, s) {
		t.Errorf("one level: %v", l)
	}
	want := []steam.Parts{
		{Water: s}, // 852 for each kilogram is what water at the level 2 has
		{
			Steam: steam.Stream{Mass: 104, Heat: 285584, Gas: 50},
			Water: steam.Stream{Mass: 896, Heat: 566416, Silica: 268800},
			Rest:  144,
			Scale: 231200,
		},
		{
			Steam: steam.Stream{Mass: 84, Heat: 224784},
			Water: steam.Stream{Mass: 812, Heat: 341632, Silica: 121800},
			Rest:  1404,
			Scale: 147000,
		},
	}
	if l := train(t, chapterTable(), []int{2, 1, 0}, s); !slices.Equal(l, want) {
		t.Errorf("three levels: %v", l)
	}
	all := make([]int, api.MaxRows)
	for i := range all {
		all[i] = api.MaxRows - 1 - i
	}
	if l := train(t, longTable(api.MaxRows), all, s); add(l[len(l)-1].Water).Mass >= s.Mass {
		t.Errorf("MaxRows levels: %v", l)
	}
	if l, e := steam.Train(longTable(api.MaxRows), append(all, 0), s); len(l) != 0 || e != api.ErrRange {
		t.Errorf("a level more: %v, %v", l, e)
	}
	for _, levels := range [][]int{nil, {}, {0, 1}, {1, 1}, {2, 0, 0}, {2, 0, 1}, {1, 2, 0}, slices.Repeat([]int{1}, 1000)} {
		if l, e := steam.Train(chapterTable(), levels, s); len(l) != 0 || e != api.ErrRange {
			t.Errorf("Train at %v: %v, %v", levels, l, e)
		}
	}
}

// TestTrainEnds: a train goes on when nothing, or no heat, is left.
func TestTrainEnds(t *testing.T) {
	hot := steam.Stream{Mass: 3, Heat: 12000, Silica: 5, Gas: 7}
	want := []steam.Parts{{Steam: steam.Stream{Mass: 3, Heat: 12000, Gas: 7}, Scale: 5}, {}, {}}
	if l := train(t, chapterTable(), []int{2, 1, 0}, hot); !slices.Equal(l, want) {
		t.Errorf("only steam: %v", l)
	}
	cold := steam.Stream{Mass: 3, Heat: 12, Silica: 500, Gas: 7}
	kept := steam.Stream{Mass: 3, Heat: 12, Silica: 450, Gas: 7}
	if l := train(t, chapterTable(), []int{1, 0}, cold); !slices.Equal(l, []steam.Parts{{Water: cold}, {Water: kept, Scale: 50}}) {
		t.Errorf("no steam: %v", l)
	}
}

// TestTrainLosesNothing: P1.7, the steam and the scale of all levels and the last water are the stream.
func TestTrainLosesNothing(t *testing.T) {
	d := &dice{state: 72}
	for range 1000 {
		table, s := d.table(), d.stream(api.MaxMass)
		levels := d.train(table)
		l := train(t, table, levels, s)
		out := l[len(l)-1].Water
		for _, p := range l {
			out = add(out, p.Steam, steam.Stream{Silica: p.Scale})
		}
		if out != s {
			t.Errorf("Train(%v, %v, %v): %v adds up to %v", table, levels, s, l, out)
		}
	}
}

// TestTrainStepByStep: P1.12, a train of one level, and one that is cut in two.
func TestTrainStepByStep(t *testing.T) {
	d := &dice{state: 12}
	for range 1000 {
		table, s := d.table(), d.stream(api.MaxMass)
		levels := d.train(table)
		l := train(t, table, levels, s)
		if p := flash(t, table, levels[0], s); l[0] != p || train(t, table, levels[:1], s)[0] != p {
			t.Errorf("Train(%v, %v, %v): %v at first, not %v", table, levels, s, l[0], p)
		}
		for cut := 1; cut < len(levels); cut++ {
			first := train(t, table, levels[:cut], s)
			if !slices.Equal(l, append(first, train(t, table, levels[cut:], first[cut-1].Water)...)) {
				t.Errorf("Train(%v, %v, %v): not the same when cut at %d", table, levels, s, cut)
			}
		}
	}
}
