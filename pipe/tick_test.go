package pipe_test

import (
	"slices"
	"testing"

	"fumarole/api"
	"fumarole/pipe"
	"fumarole/steam"
)

// TestElements: P6.2, what each kind of element makes of what comes in.
func TestElements(t *testing.T) {
	in, gas := stream(10, 4190, 2000, 5), stream(0, 0, 0, 7)
	hot, brine := stream(10, 26760, 100, 5), stream(1000, 852000, 250000, 50)
	none := steam.Stream{}
	for what, c := range map[string]struct {
		element pipe.Element
		in      steam.Stream
		out     []steam.Stream
		lost    pipe.Lost
	}{
		"a valve":                 {valve(0, 0, 0), in, []steam.Stream{in}, pipe.Lost{}},
		"a valve, only gas":       {valve(0, 0, 0), gas, []steam.Stream{gas}, pipe.Lost{}},
		"a join of one":           {join(0, ports(0, 0)...), in, []steam.Stream{in}, pipe.Lost{}},
		"a line":                  {line(0, 4189, 0, 0), in, []steam.Stream{stream(10, 1, 2000, 5)}, pipe.Lost{Heat: 4189}},
		"a line that loses all":   {line(0, 4190, 0, 0), in, []steam.Stream{stream(10, 0, 2000, 5)}, pipe.Lost{Heat: 4190}},
		"a line that would more":  {line(0, 4191, 0, 0), in, []steam.Stream{stream(10, 0, 2000, 5)}, pipe.Lost{Heat: 4190}},
		"a line that loses none":  {line(0, 0, 0, 0), in, []steam.Stream{in}, pipe.Lost{}},
		"a line, only gas":        {line(0, api.MaxCooling, 0, 0), gas, []steam.Stream{gas}, pipe.Lost{}},
		"cold":                    {separator(0, 0, 0, 0), in, []steam.Stream{none, stream(10, 4190, 1500, 5)}, pipe.Lost{Scale: 500}},
		"cold, a tenth":           {separator(0, 100, 0, 0), in, []steam.Stream{stream(1, 419, 150, 0), stream(9, 3771, 1350, 4)}, pipe.Lost{Gas: 1, Scale: 500}},
		"cold, all":               {separator(0, 1000, 0, 0), in, []steam.Stream{stream(10, 4190, 1500, 5), none}, pipe.Lost{Scale: 500}},
		"cold, nearly all":        {separator(0, 999, 0, 0), in, []steam.Stream{stream(10, 4190, 1500, 5), none}, pipe.Lost{Scale: 500}},
		"cold, nearly nothing":    {separator(0, 1, 0, 0), in, []steam.Stream{none, stream(10, 4190, 1500, 5)}, pipe.Lost{Scale: 500}},
		"a kilogram, the half":    {separator(0, 500, 0, 0), stream(1, 9, 8, 7), []steam.Stream{none, stream(1, 9, 8, 7)}, pipe.Lost{}},
		"hot":                     {separator(0, 0, 0, 0), hot, []steam.Stream{stream(10, 26760, 0, 5), none}, pipe.Lost{Scale: 100}},
		"hot, a tenth":            {separator(0, 100, 0, 0), hot, []steam.Stream{stream(10, 26760, 0, 5), none}, pipe.Lost{Scale: 100}},
		"only gas":                {separator(0, 0, 0, 0), gas, []steam.Stream{none, gas}, pipe.Lost{}},
		"only gas, a tenth":       {separator(0, 100, 0, 0), gas, []steam.Stream{none, none}, pipe.Lost{Gas: 7}},
		"brine":                   {separator(0, 0, 0, 0), brine, []steam.Stream{stream(191, 511116, 0, 50), stream(809, 340884, 121350, 0)}, pipe.Lost{Scale: 128650}},
		"brine, a quarter":        {separator(0, 250, 0, 0), brine, []steam.Stream{stream(393, 596231, 30300, 50), stream(607, 255768, 91050, 0)}, pipe.Lost{Heat: 1, Scale: 128650}},
		"brine, higher":           {separator(1, 0, 0, 0), brine, []steam.Stream{stream(104, 285584, 0, 50), stream(896, 566416, 250000, 0)}, pipe.Lost{}},
		"a split":                 {split(0, 0, 0, 1, 1, 1), in, []steam.Stream{stream(4, 1676, 800, 2), stream(3, 1257, 600, 1), stream(3, 1257, 600, 1)}, pipe.Lost{Gas: 1}},
		"a split that loses":      {split(0, 0, 0, 2, 1), stream(3, 1000, 100, 2), []steam.Stream{stream(2, 666, 66, 1), stream(1, 333, 33, 0)}, pipe.Lost{Heat: 1, Silica: 1, Gas: 1}},
		"a split with one of 0":   {split(0, 0, 0, 0, 5), in, []steam.Stream{none, in}, pipe.Lost{}},
		"a split of gas":          {split(0, 0, 0, 1, 1), gas, []steam.Stream{none, none}, pipe.Lost{Gas: 7}},
		"nothing to a separator":  {separator(2, 5, 0, 0), none, []steam.Stream{none, none}, pipe.Lost{}},
		"nothing to a line":       {line(2, 5, 0, 0), none, []steam.Stream{none}, pipe.Lost{}},
		"a split into one":        {split(2, 0, 0, 7), in, []steam.Stream{in}, pipe.Lost{}},
		"a separator at the well": {separator(2, 0, 0, 0), in, []steam.Stream{none, in}, pipe.Lost{}},
	} {
		n := net(well(2), c.element)
		want := pipe.Tick{Out: [][]steam.Stream{{c.in}, c.out}, Lost: []pipe.Lost{{}, c.lost}, State: []int{3, 1000 + c.lost.Scale}}
		if x := do(t, n, []int{3, 1000}, c.in); !sameTick(x, want) {
			t.Errorf("Do, %s: %v", what, x)
		}
	}
}

// TestIncoming: P6.2, wells take the streams of the case in order, and joins sum up what comes in.
func TestIncoming(t *testing.T) {
	a, b, c := stream(1, 20, 300, 4000), stream(50000, 6, 7, 8), stream(9, 900, 90, 9)
	n := net(well(2), valve(2, 0, 0), well(2), split(2, 2, 0, 1, 0), well(2), join(0, ports(4, 0, 1, 0, 3, 0)...))
	x := do(t, n, zeros(n), a, b, c)
	want := [][]steam.Stream{{a}, {a}, {b}, {b, {}}, {c}, {stream(50010, 926, 397, 4017)}}
	if !sameOut(x.Out, want) {
		t.Errorf("Do: %v", x.Out)
	}
	var all []pipe.Element
	var wells []steam.Stream
	for i := range api.MaxJoins {
		all = append(all, well(2))
		wells = append(wells, stream(1<<i, 10<<i, 100<<i, 1000<<i))
	}
	n = net(append(all, join(2, ports(0, 0, 1, 0, 2, 0, 3, 0, 4, 0, 5, 0)...))...)
	if x := do(t, n, zeros(n), wells...); !slices.Equal(x.Out[6], []steam.Stream{stream(63, 630, 6300, 63000)}) {
		t.Errorf("Do, six joined: %v", x.Out[6])
	}
}

// TestFull: P6.2, ErrFull if more comes in than the width, for each kind of element.
func TestFull(t *testing.T) {
	for kind := 1; kind <= 6; kind++ {
		i := places[kind]
		n := wide(func(*pipe.Net) {})
		wells := []steam.Stream{stream(300, 100000, 9, 9), stream(700, 800000, 9, 9)}
		x, _, _ := trueTick(n, zeros(n), wells)
		mass := 0
		for _, s := range x.Out[i] {
			mass += s.Mass
		}
		for _, c := range []struct {
			wide, narrow, deposit int
			full                  bool
		}{
			{mass, 1, 0, false}, {mass, 10, 9, false}, {mass, 10, 10, true}, {mass - 1, 1, 0, true}, {mass + 1, 10, 19, false},
			{mass + 1, 10, 20, true}, {0, 1, 0, true}, {api.MaxMass, 1, api.MaxDeposit, true}, {api.MaxMass, api.MaxNarrow, api.MaxDeposit, false},
		} {
			n.Elements[i] = sized(n.Elements[i], c.wide, c.narrow)
			state := zeros(n)
			state[i] = c.deposit
			y, full, e := pipe.Do(n, state, wells)
			if c.full && (e != api.ErrFull || full != i || !isNothing(y)) || !c.full && (e != api.OK || full != 0 || !sameOut(y.Out, x.Out)) {
				t.Errorf("Do, %d with the width %d less %d/%d: %v, %d, %v", i, c.wide, c.deposit, c.narrow, y, full, e)
			}
		}
	}
}

// TestFirstFull: P6.2, the first element that is full, whatever stands behind it.
func TestFirstFull(t *testing.T) {
	wells := []steam.Stream{stream(1000, 852000, 250000, 50)}
	for what, c := range map[string]struct {
		net  pipe.Net
		want int
	}{
		"the well":           {net(sized(well(2), 999, 1), sized(valve(2, 0, 0), 0, 1)), 0},
		"behind the well":    {net(well(2), sized(valve(2, 0, 0), 999, 1), sized(valve(2, 1, 0), 0, 1)), 1},
		"the water":          {net(well(2), separator(0, 0, 0, 0), sized(valve(0, 1, 0), 191, 1), sized(valve(0, 1, 1), 808, 1)), 3},
		"the steam":          {net(well(2), separator(0, 0, 0, 0), sized(valve(0, 1, 1), 809, 1), sized(valve(0, 1, 0), 190, 1)), 3},
		"a part":             {net(well(2), split(2, 0, 0, 3, 1), sized(valve(0, 1, 1), 250, 1), sized(valve(0, 1, 0), 749, 1)), 3},
		"a join":             {net(well(2), split(2, 0, 0, 3, 1), sized(join(0, ports(1, 1, 1, 0)...), 999, 1)), 2},
		"the first of three": {net(well(2), split(2, 0, 0, 1, 1), sized(valve(0, 1, 1), 500, 1), sized(valve(0, 1, 0), 5, 1), sized(valve(0, 2, 0), 5, 1)), 3},
	} {
		if x, full, e := pipe.Do(c.net, zeros(c.net), wells); full != c.want || e != api.ErrFull || !isNothing(x) {
			t.Errorf("Do, %s: %v, %d, %v", what, x, full, e)
		}
	}
	// What falls out in a tick narrows the next one: at first the width of 1000 lets 1000 through.
	n := net(well(2), sized(separator(0, 0, 0, 0), 1000, 1))
	x := do(t, n, zeros(n), wells...)
	if _, full, e := pipe.Do(n, x.State, wells); full != 1 || e != api.ErrFull {
		t.Errorf("Do, the next one: %d, %v", full, e)
	}
	// Nothing flows through what has no width.
	n = net(sized(well(2), 0, 1), sized(line(2, 5, 0, 0), 0, 1))
	if x := do(t, n, []int{5, 5}, stream(0, 0, 0, 9)); !slices.Equal(x.Out[1], []steam.Stream{stream(0, 0, 0, 9)}) {
		t.Errorf("Do of nothing: %v", x)
	}
}

// TestAccount: P6.3, each of the sums, and where something falls out.
func TestAccount(t *testing.T) {
	n := net(well(2), well(2), separator(0, 100, 0, 0), line(1, 700, 1, 0), separator(1, 0, 3, 0), split(1, 4, 1, 2, 1))
	wells := []steam.Stream{stream(10, 4190, 2000, 5), stream(1000, 852000, 350000, 50)}
	in, out, lost, e := pipe.Account(n, zeros(n), wells)
	if in != stream(1010, 856190, 352000, 55) || out != stream(1010, 855489, 270600, 54) || lost != (pipe.Lost{Heat: 701, Gas: 1, Scale: 81400}) || e != api.OK {
		t.Errorf("Account: %v, %v, %v, %v", in, out, lost, e)
	}
	if l, e := pipe.Falls(n, zeros(n), wells); !slices.Equal(l, []pipe.Fall{{Element: 2, Scale: 500}, {Element: 4, Scale: 80900}}) || e != api.OK {
		t.Errorf("Falls: %v, %v", l, e)
	}
	wells[0].Silica = 1500
	if l, e := pipe.Falls(n, zeros(n), wells); !slices.Equal(l, []pipe.Fall{{Element: 4, Scale: 80900}}) || e != api.OK {
		t.Errorf("Falls of less: %v, %v", l, e)
	}
	if l, e := pipe.Falls(n, zeros(n), make([]steam.Stream, 2)); len(l) > 0 || e != api.OK {
		t.Errorf("Falls of nothing: %v, %v", l, e)
	}
	// There are more open ends than streams that can be mixed at once.
	l := []pipe.Element{well(2)}
	for i := range api.MaxElements - 1 {
		l = append(l, split(2, i, 0, slices.Repeat([]int{1}, api.MaxShares)...))
	}
	n = net(l...)
	whole := stream(api.MaxMass, 852*api.MaxMass, 250*api.MaxMass, 50)
	in, out, lost, e = pipe.Account(n, zeros(n), []steam.Stream{whole})
	if len(ends(t, n)) != 286 || in != whole || out.Mass != in.Mass || out.Gas+lost.Gas != 50 || lost.Scale != 0 || e != api.OK {
		t.Errorf("Account of many parts: %v, %v, %v, %v", in, out, lost, e)
	}
}

// TestTicksCounted: P6.2, P6.3, P6.7, any ticks, as the chapter says them, and nothing is lost.
func TestTicksCounted(t *testing.T) {
	d := &dice{seed: 62}
	fulls, falls := 0, 0
	for range 5000 {
		n := d.net(shape{elements: api.MaxElements, separators: 6, tight: true})
		state, wells := d.state(n), d.wells(n)
		want, _, at := trueTick(n, state, wells)
		in, out, lost, e := pipe.Account(n, state, wells)
		if at >= 0 {
			fulls++
			if x, full, e := pipe.Do(n, state, wells); full != at || e != api.ErrFull || !isNothing(x) {
				t.Errorf("Do(%v, %v, %v): %v, %d, %v", n, state, wells, x, full, e)
			}
			if e != api.ErrFull {
				t.Errorf("Account(%v, %v, %v): %v", n, state, wells, e)
			}
			continue
		}
		if x := do(t, n, state, wells...); !sameTick(x, want) {
			t.Errorf("Do(%v, %v, %v): %v", n, state, wells, x)
		}
		l, f := pipe.Falls(n, state, wells)
		if !slices.Equal(l, trueFalls(want)) || f != api.OK {
			t.Errorf("Falls(%v, %v, %v): %v, %v", n, state, wells, l, f)
		}
		falls += min(1, len(l))
		var sumIn, sumOut steam.Stream
		into(&sumIn, wells...)
		for _, p := range trueEnds(n) {
			into(&sumOut, want.Out[p.Element][p.Outlet])
		}
		var sumLost pipe.Lost
		for _, x := range want.Lost {
			sumLost = pipe.Lost{Heat: sumLost.Heat + x.Heat, Silica: sumLost.Silica + x.Silica, Gas: sumLost.Gas + x.Gas, Scale: sumLost.Scale + x.Scale}
		}
		if in != sumIn || out != sumOut || lost != sumLost || e != api.OK {
			t.Errorf("Account(%v, %v, %v): %v, %v, %v, %v", n, state, wells, in, out, lost, e)
		}
		into(&out, stream(0, lost.Heat, lost.Silica+lost.Scale, lost.Gas))
		if in != out {
			t.Errorf("Account(%v, %v, %v): %v in, %v out", n, state, wells, in, out)
		}
	}
	if fulls < 200 || falls < 200 || fulls > 4000 {
		t.Errorf("too few of a kind: %d are full, in %d something falls out", fulls, falls)
	}
}

// TestOneSeparator: P6.12, separators in a row do what steam does.
func TestOneSeparator(t *testing.T) {
	d := &dice{seed: 612}
	for range 2000 {
		table := d.table(d.roll(2, 6))
		high := d.roll(1, len(table)-1)
		low := d.roll(0, high-1)
		n := net(well(len(table)-1), separator(high, 0, 0, 0), separator(low, 0, 1, 1))
		n.Table = table
		s := d.wells(n)[0]
		one := pipe.Net{Table: table, Elements: n.Elements[:2]}
		p, e := steam.Flash(table, high, s)
		x := do(t, one, zeros(one), s)
		if e != api.OK || !slices.Equal(x.Out[1], []steam.Stream{p.Steam, p.Water}) || x.Lost[1] != (pipe.Lost{Scale: p.Scale}) || x.State[1] != p.Scale {
			t.Errorf("Do(%v, %v): %v, but Flash: %v", one, s, x, p)
		}
		train, e := steam.Train(table, []int{high, low}, s)
		x = do(t, n, zeros(n), s)
		for i, p := range train {
			if e != api.OK || !slices.Equal(x.Out[i+1], []steam.Stream{p.Steam, p.Water}) || x.Lost[i+1] != (pipe.Lost{Scale: p.Scale}) || x.State[i+1] != p.Scale {
				t.Errorf("Do(%v, %v): %v, but Train: %v", n, s, x, train)
			}
		}
	}
}

// between gives the net with a valve, or a line that loses nothing, before a port of an element, and its place.
func (d *dice) between(n pipe.Net) (pipe.Net, int) {
	at := d.roll(0, len(n.Elements)-1)
	if len(n.Elements[at].From) == 0 {
		return n, -1
	}
	m := clone(n)
	p := &m.Elements[at].From[d.roll(0, len(m.Elements[at].From)-1)]
	x := pipe.Element{Kind: uint8(d.pick(int(pipe.Line), int(pipe.Valve))), From: []pipe.Port{*p}, Wide: api.MaxMass, Narrow: 1}
	x.Level = d.roll(m.Elements[at].Level, m.Elements[p.Element].Level)
	*p = pipe.Port{Element: at}
	for i := at; i < len(m.Elements); i++ {
		for j, q := range m.Elements[i].From {
			if q.Element >= at && !(i == at && q == *p) {
				m.Elements[i].From[j].Element++
			}
		}
	}
	m.Elements = slices.Insert(m.Elements, at, x)
	return m, at
}

// TestValveBetween: P6.13, a valve, or a line that loses nothing, changes nothing behind it.
func TestValveBetween(t *testing.T) {
	d := &dice{seed: 613}
	tried := 0
	for range 3000 {
		n := d.net(shape{elements: api.MaxElements - 1, separators: 4})
		m, at := d.between(n)
		if at < 0 {
			continue
		}
		tried++
		wells := d.wells(n)
		x, y := do(t, n, zeros(n), wells...), do(t, m, zeros(m), wells...)
		if y.Lost[at] != (pipe.Lost{}) || y.State[at] != 0 {
			t.Errorf("Do(%v, %v): %v is lost at %d", m, wells, y.Lost[at], at)
		}
		y = pipe.Tick{Out: slices.Delete(y.Out, at, at+1), Lost: slices.Delete(y.Lost, at, at+1), State: slices.Delete(y.State, at, at+1)}
		if !sameTick(x, y) {
			t.Errorf("Do(%v, %v) with %d between: %v, %v", m, wells, at, x, y)
		}
	}
	if tried < 1000 {
		t.Errorf("too few of a kind: %d were tried", tried)
	}
}
