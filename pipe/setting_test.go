package pipe_test

import (
	"slices"
	"testing"

	"fumarole/api"
	"fumarole/pipe"
	"fumarole/steam"
)

// flashes gives a net of two separators in a row, a valve between them, and a valve behind the steam of the first one.
func flashes(first, second int) pipe.Net {
	return net(well(2), separator(first, 0, 0, 0), valve(0, 1, 0), valve(first, 1, 1), separator(second, 30, 3, 0))
}

// TestSet: P6.6, the levels stand in the separators, in order, and all else is as it was.
func TestSet(t *testing.T) {
	n := net(well(2), separator(2, 0, 0, 0), valve(0, 1, 0), separator(2, 30, 1, 1), split(0, 3, 1, 1, 2))
	for first := range 3 {
		for second := range first + 1 {
			want := clone(n)
			want.Elements[1].Level, want.Elements[3].Level = first, second
			if m := set(t, n, first, second); !sameNet(m, want) {
				t.Errorf("Set %d, %d: %v", first, second, m)
			}
		}
	}
	if m := set(t, row(4)); !sameNet(m, row(4)) {
		t.Errorf("Set without separators: %v", m)
	}
	l := []pipe.Element{well(2)}
	for i := range api.MaxElements - 1 {
		l = append(l, separator(2, 0, i, min(i, 1)))
	}
	if m := set(t, net(l...), 2, 2, 2, 2, 2, 2, 2, 1, 1, 1, 1, 1, 1, 1, 0); m.Elements[8].Level != 1 || m.Elements[15].Level != 0 {
		t.Errorf("Set of many: %v", m)
	}
}

// TestSetErrors: P6.6, settings that are none, or with which the net is not valid.
func TestSetErrors(t *testing.T) {
	refused := func(what string, n pipe.Net, levels ...int) {
		t.Helper()
		if m, e := pipe.Set(n, levels); e != api.ErrArg || len(m.Table) > 0 || len(m.Elements) > 0 {
			t.Errorf("Set, %s: %v, %v", what, m, e)
		}
	}
	n := flashes(2, 2)
	refused("none", n)
	refused("a level too few", n, 2)
	refused("a level too many", n, 2, 2, 2)
	refused("as many as elements", n, 2, 2, 2, 2, 2)
	refused("above the one before it", net(well(2), separator(2, 0, 0, 0), separator(2, 0, 1, 1)), 1, 2)
	refused("above the well", net(well(1), separator(1, 0, 0, 0)), 2)
	refused("below the one behind it", n, 1, 1)
	refused("levels without separators", row(4), 0)
	for _, level := range append([]int{-1, 3}, farNumbers...) {
		refused("no level", n, level, 0)
		refused("no level for the last one", n, 2, level)
	}
	bad := flashes(2, 2)
	bad.Elements[1].Level = 3
	refused("a net that would be valid with it", bad, 2, 2)
	bad.Elements[1].Level = -1
	refused("another one", bad, 2, 2)
}

// best tells if the setting that is the best one is another one, or makes other steam.
func best(t *testing.T, what string, n pipe.Net, cases [][]steam.Stream, made int, levels ...int) {
	t.Helper()
	l, steam, e := pipe.Best(n, zeros(n), cases)
	if !slices.Equal(l, levels) || steam != made || e != api.OK {
		t.Errorf("Best, %s: %v, %d, %v", what, l, steam, e)
	}
}

// one gives the cases that have only one stream.
func one(l ...steam.Stream) [][]steam.Stream {
	var cases [][]steam.Stream
	for _, s := range l {
		cases = append(cases, []steam.Stream{s})
	}
	return cases
}

// TestBestOfOne: P6.6, the best level of one separator.
func TestBestOfOne(t *testing.T) {
	brine := stream(1000, 852000, 100000, 50) // at the levels it makes 191, 104, and 0
	behind := func(l ...pipe.Element) pipe.Net {
		return net(append([]pipe.Element{well(2), separator(2, 0, 0, 0)}, l...)...)
	}
	best(t, "the most", behind(), one(brine), 191, 0)
	best(t, "with water in it", net(well(2), separator(2, 500, 0, 0)), one(brine), 191, 0)
	best(t, "at a low well", net(well(1), separator(0, 0, 0, 0)), one(brine), 191, 0)
	best(t, "at the lowest well", net(well(0), separator(0, 0, 0, 0)), one(brine), 191, 0)
	best(t, "a level behind it", behind(valve(1, 1, 1)), one(brine), 104, 1)
	best(t, "a high level behind it", behind(valve(2, 1, 0)), one(brine), 0, 2)
	best(t, "narrow for the steam", behind(sized(valve(0, 1, 0), 190, 1)), one(brine), 104, 1)
	best(t, "wide enough for it", behind(sized(valve(0, 1, 0), 191, 1)), one(brine), 191, 0)
	best(t, "narrow for less steam", behind(sized(valve(0, 1, 0), 103, 1)), one(brine), 0, 2)
	best(t, "narrow for the water", behind(sized(valve(0, 1, 1), 809, 1)), one(brine), 191, 0)
	best(t, "much silica", behind(), one(stream(1000, 852000, 121351, 0)), 104, 1)
	best(t, "just not too much", behind(), one(stream(1000, 852000, 121350, 0)), 191, 0)
	best(t, "very much silica", behind(), one(stream(1000, 852000, 600000, 0)), 0, 2)
	best(t, "no steam at any level", behind(), one(stream(1000, 419000, 0, 0)), 0, 0)
	best(t, "no steam, and silica", behind(), one(stream(1000, 419000, 300000, 0)), 0, 1)
	best(t, "the worst case", behind(), one(brine, stream(100, 70000, 0, 0), brine), 12, 0)
	best(t, "the case where it falls out", behind(), one(brine, stream(1000, 852000, 200000, 0)), 104, 1)
	best(t, "the worst of the cases that are right", behind(), one(brine, stream(1000, 700000, 200000, 0), brine), 32, 1)
	best(t, "no separators", row(3), one(brine), 0)
	n := behind()
	n.Elements[1] = sized(n.Elements[1], 1000, 1000)
	if l, made, e := pipe.Best(n, []int{0, 999}, one(brine)); !slices.Equal(l, []int{0}) || made != 191 || e != api.OK {
		t.Errorf("Best where much has settled: %v, %d, %v", l, made, e)
	}
	if l, made, e := pipe.Best(n, []int{0, 1000}, one(brine)); len(l) > 0 || made != 0 || e != api.ErrNone {
		t.Errorf("Best where too much has settled: %v, %d, %v", l, made, e)
	}
}

// TestBestOfMany: P6.6, the steam of all flashes counts, and of several best settings the first one is meant.
func TestBestOfMany(t *testing.T) {
	brine, hard := stream(1000, 852000, 100000, 50), stream(1000, 852000, 121500, 50)
	best(t, "in a row", net(well(2), separator(2, 0, 0, 0), separator(2, 0, 1, 1)), one(hard), 188, 1, 0)
	best(t, "in a row, with a third one", net(well(2), separator(2, 0, 0, 0), separator(2, 0, 1, 1), separator(2, 0, 1, 0)), one(hard), 104+84+104, 1, 0, 0)
	apart := func(wide int) pipe.Net {
		return net(well(2), separator(2, 0, 0, 0), well(2), separator(2, 0, 2, 0), sized(join(0, ports(1, 0, 3, 0)...), wide, 1))
	}
	both := [][]steam.Stream{{brine, brine}}
	best(t, "apart", apart(api.MaxMass), both, 382, 0, 0)
	best(t, "joined in a narrow one", apart(381), both, 295, 0, 1)
	best(t, "joined in a narrow one, with silica", apart(381), [][]steam.Stream{{hard, brine}}, 295, 1, 0)
	best(t, "joined in a narrower one", apart(294), both, 208, 1, 1)
	best(t, "joined in a more narrow one", apart(207), both, 191, 0, 2)
	// The small one makes 12, 3, and 0: 0, 0 would be too much; 0, 1 makes 194 in one case, but 116 in the other one, as 1, 0 does.
	small := stream(100, 70000, 0, 0)
	best(t, "two cases", apart(200), [][]steam.Stream{{brine, small}, {small, brine}}, 116, 0, 1)
	best(t, "two cases, narrower", apart(115), [][]steam.Stream{{brine, small}, {small, brine}}, 107, 1, 1)
}

// TestBestErrors: P6.6, too many separators, and nets without a right setting.
func TestBestErrors(t *testing.T) {
	brine := stream(1000, 852000, 600000, 0)
	three := []pipe.Element{well(2), separator(2, 0, 0, 0), separator(2, 0, 1, 1), separator(2, 0, 2, 1)}
	best(t, "three separators", net(three...), one(brine), 0, 2, 2, 2)
	for what, c := range map[string]struct {
		net   pipe.Net
		cases [][]steam.Stream
		want  api.Errno
	}{
		"four separators":            {net(append(three, separator(2, 0, 3, 1))...), one(brine), api.ErrLimit},
		"four, none of them right":   {net(append(three, separator(2, 0, 3, 1))...), one(stream(1000, 0, 600001, 0)), api.ErrLimit},
		"silica everywhere":          {net(three...), one(stream(1000, 0, 600001, 0)), api.ErrNone},
		"silica in the last case":    {net(three...), one(brine, brine, stream(1000, 0, 600001, 0)), api.ErrNone},
		"full in the first case":     {net(sized(well(2), 999, 1), separator(2, 0, 0, 0)), one(brine, steam.Stream{}), api.ErrNone},
		"full in the last case":      {net(sized(well(2), 999, 1), separator(2, 0, 0, 0)), one(steam.Stream{}, brine), api.ErrNone},
		"full, and no separators":    {net(sized(well(2), 999, 1)), one(brine), api.ErrNone},
		"safe, but full, and deeper": {net(well(2), separator(2, 0, 0, 0), sized(valve(0, 1, 1), 999, 1)), one(brine), api.ErrNone},
	} {
		if l, made, e := pipe.Best(c.net, zeros(c.net), c.cases); len(l) > 0 || made != 0 || e != c.want {
			t.Errorf("Best, %s: %v, %d, %v", what, l, made, e)
		}
	}
}

// settings gives all lists of so many levels of the table, number by number.
func settings(table steam.Table, count int) [][]int {
	if count == 0 {
		return [][]int{nil}
	}
	var all [][]int
	for level := range table {
		for _, rest := range settings(table, count-1) {
			all = append(all, append([]int{level}, rest...))
		}
	}
	return all
}

// trueSteam gives the steam of a setting, or -1 if it is not right.
func trueSteam(n pipe.Net, state []int, cases [][]steam.Stream, levels []int) int {
	n = clone(n)
	next := 0
	for i, x := range n.Elements {
		if x.Kind == pipe.Separator {
			n.Elements[i].Level = levels[next]
			next++
		}
	}
	for _, x := range n.Elements {
		for _, p := range x.From {
			if x.Level > n.Elements[p.Element].Level {
				return -1
			}
		}
	}
	least := 1 << 40
	for _, wells := range cases {
		x, made, full := trueTick(n, state, wells)
		if full >= 0 || len(trueFalls(x)) > 0 {
			return -1
		}
		least = min(least, made)
	}
	return least
}

// soft gives the cases with at most so much silica in a kilogram, and less heat, so that more water is left to hold it.
func soft(cases [][]steam.Stream, grain int) [][]steam.Stream {
	for _, wells := range cases {
		for i, s := range wells {
			wells[i].Heat, wells[i].Silica = min(s.Heat, 600*s.Mass), min(s.Silica, grain*s.Mass)
		}
	}
	return cases
}

// TestBestCounted: P6.6, P6.11, any nets: no setting that is right has more steam, nor is one before it as good.
func TestBestCounted(t *testing.T) {
	d := &dice{seed: 66}
	kindsOf := map[string]int{}
	for range 3000 {
		n := d.net(shape{elements: 9, separators: api.MaxSet, tight: d.roll(0, 3) == 0})
		state, cases := d.state(n), d.cases(n)
		if d.roll(0, 3) > 0 {
			state, cases = zeros(n), soft(cases, d.pick(0, d.roll(0, 50), d.roll(0, 250)))
		}
		var want []int
		most, right := -1, 0
		for _, levels := range settings(n.Table, kinds(n, pipe.Separator)) {
			made := trueSteam(n, state, cases, levels)
			if made >= 0 {
				right++
			}
			if made > most {
				want, most = levels, made
			}
		}
		levels, made, e := pipe.Best(n, state, cases)
		if most < 0 {
			kindsOf["none"]++
			if len(levels) > 0 || made != 0 || e != api.ErrNone {
				t.Errorf("Best(%v, %v, %v): %v, %d, %v", n, state, cases, levels, made, e)
			}
			continue
		}
		if !slices.Equal(levels, want) || made != most || e != api.OK {
			t.Fatalf("Best(%v, %v, %v): %v, %d, %v", n, state, cases, levels, made, e)
		}
		if right > 1 && len(want) > 1 && want[0] != want[1] {
			kindsOf["many"]++
		}
		m := set(t, n, levels...)
		if at, element, e := pipe.Unsafe(m, state, cases); at != -1 || element != -1 || e != api.OK {
			t.Errorf("Unsafe(%v, %v, %v): %d, %d, %v", m, state, cases, at, element, e)
		}
	}
	if kindsOf["none"] < 200 || kindsOf["many"] < 200 {
		t.Errorf("too few of a kind: %v", kindsOf)
	}
}

// TestBestOfMostLevels: P6.6, three separators in the longest table, with as many cases as there may be.
func TestBestOfMostLevels(t *testing.T) {
	d := &dice{seed: 660}
	n := net(well(19), separator(19, 100, 0, 0), separator(19, 0, 1, 1), separator(19, 0, 2, 1))
	n.Table = d.table(api.MaxRows)
	for _, grain := range []int{0, 400} {
		var cases [][]steam.Stream
		for range api.MaxCases {
			mass := d.roll(90000, 100000)
			cases = append(cases, []steam.Stream{stream(mass, mass*d.roll(1200, 1300), mass*grain, 9)})
		}
		var want []int
		most := -1
		for _, levels := range settings(n.Table, 3) {
			if made := trueSteam(n, zeros(n), cases, levels); made > most {
				want, most = levels, made
			}
		}
		if most <= 0 {
			t.Fatalf("no steam: %d", most)
		}
		best(t, "any levels", n, cases, most, want...)
	}
}

// TestSettingsCounted: P6.6, any setting of any net is set, or refused.
func TestSettingsCounted(t *testing.T) {
	d := &dice{seed: 666}
	good, bad := 0, 0
	for range 2000 {
		n := d.net(shape{elements: 10, separators: 5})
		var levels []int
		m := clone(n)
		for i, x := range n.Elements {
			if x.Kind == pipe.Separator {
				levels = append(levels, max(0, min(len(n.Table)-1, x.Level+d.roll(-1, 1))))
				m.Elements[i].Level = levels[len(levels)-1]
			}
		}
		y, e := pipe.Set(n, levels)
		switch want := pipe.CheckNet(m); want {
		case api.OK:
			good++
			if e != api.OK || !sameNet(y, m) {
				t.Errorf("Set(%v, %v): %v, %v", n, levels, y, e)
			}
		default:
			bad++
			if e != api.ErrArg || len(y.Table) > 0 || len(y.Elements) > 0 {
				t.Errorf("Set(%v, %v): %v, %v", n, levels, y, e)
			}
		}
	}
	if good < 100 || bad < 100 {
		t.Errorf("too few of a kind: %d are valid, %d are not", good, bad)
	}
}
