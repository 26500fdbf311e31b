package pipe_test

import (
	"slices"
	"testing"

	"fumarole/api"
	"fumarole/pipe"
	"fumarole/steam"
)

// TestLife: P6.4, the ticks that can be done, and what is full then.
func TestLife(t *testing.T) {
	n, wells := chapterNet(), chapterCase()
	try := func(what string, n pipe.Net, state []int, most, ticks, full int) {
		t.Helper()
		if a, b, e := pipe.Life(n, state, wells, most); a != ticks || b != full || e != api.OK {
			t.Errorf("%s: %d, %d, %v", what, a, b, e)
		}
	}
	try("one", n, []int{0, 0, 0}, 1, 1, -1)
	try("all that can be", n, []int{0, 0, 0}, 8, 8, -1)
	try("one more", n, []int{0, 0, 0}, 9, 8, 2)
	try("the most", n, []int{0, 0, 0}, api.MaxLife, 8, 2)
	try("less is left", n, []int{0, 0, 1000000 - 128500}, 20, 1, 2)
	try("less than a tick is left", n, []int{0, 0, 999999}, 20, 1, 2)
	try("full at first", n, []int{0, 0, 1000000}, 20, 0, 2)
	try("full at first, and only one", n, []int{0, 1000000, 1000000}, 1, 0, 1)
	high := set(t, n, 2)
	try("nothing falls out", high, []int{0, 0, 999999}, api.MaxLife, api.MaxLife, -1)
	n.Elements[2].Wide = 1002
	try("wider", n, []int{0, 0, 0}, 100, 24, 2) // 24 times 128500 is 3084000: a width of 999; 23 times is 2955500
	// 81200 fall out at the first one in each tick, and 147000 at the second one, into which 896 kilograms come.
	n = net(well(2), sized(separator(1, 0, 0, 0), 2000, 1000), sized(separator(0, 0, 1, 1), 900, 30000))
	wells = []steam.Stream{stream(1000, 852000, 350000, 50)}
	try("the second one", n, zeros(n), 100, 2, 2)
	n.Elements[1].Narrow = 100
	try("both", n, zeros(n), 100, 2, 1)
	n.Elements[1].Wide = 3000
	try("again the second one", n, zeros(n), 100, 2, 2)
	n.Elements[2].Narrow = api.MaxNarrow
	try("the first one", n, zeros(n), 100, 3, 1)
}

// TestLifeErrors: P6.4, which numbers of ticks are too few or too many, whatever is full.
func TestLifeErrors(t *testing.T) {
	x := goodArgs(chapterNet())
	for _, state := range [][]int{{0, 0, 0}, {api.MaxDeposit, 0, 0}} {
		for _, most := range append([]int{-1, 0, api.MaxLife + 1}, farNumbers...) {
			if ticks, full, e := pipe.Life(x.net, state, x.wells(), most); ticks != 0 || full != 0 || e != api.ErrRange {
				t.Errorf("Life of %d in %v: %d, %d, %v", most, state, ticks, full, e)
			}
		}
	}
}

// TestLongLife: P6.4, what has settled may become more than what a state may have at first.
func TestLongLife(t *testing.T) {
	n := net(well(2), separator(0, 0, 0, 0))
	state, wells := []int{0, api.MaxDeposit}, []steam.Stream{stream(900000, 0, api.MaxGrain*900000, 0)}
	if ticks, full, e := pipe.Life(n, state, wells, api.MaxLife); ticks != api.MaxLife || full != -1 || e != api.OK {
		t.Errorf("Life: %d, %d, %v", ticks, full, e)
	}
	fallen := (api.MaxGrain - 150) * 900000
	if x := do(t, n, state, wells...); !slices.Equal(x.State, []int{0, api.MaxDeposit + fallen}) {
		t.Errorf("Do: %v", x)
	}
	n.Elements[1].Wide = 900000 + api.MaxDeposit/api.MaxNarrow + 2*fallen/api.MaxNarrow
	if ticks, full, e := pipe.Life(n, state, wells, api.MaxLife); ticks != 3 || full != 1 || e != api.OK {
		t.Errorf("Life of what is not so wide: %d, %d, %v", ticks, full, e)
	}
}

// TestLivesCounted: P6.4, P6.8, any lives, tick by tick: no width grows.
func TestLivesCounted(t *testing.T) {
	d := &dice{seed: 64}
	ends, lasts := 0, 0
	for range 3000 {
		n := d.net(shape{elements: 8, separators: 4, tight: d.roll(0, 1) == 0})
		state, wells, most := d.state(n), d.wells(n), d.pick(1, d.roll(1, 30), 60)
		ticks, full, e := pipe.Life(n, state, wells, most)
		if e != api.OK || ticks < 0 || ticks > most {
			t.Fatalf("Life(%v, %v, %v, %d): %d, %d, %v", n, state, wells, most, ticks, full, e)
		}
		for tick := range ticks {
			x, _, at := trueTick(n, state, wells)
			if at >= 0 {
				t.Fatalf("Life(%v, .., %v, %d): %d, but the tick %d cannot be done", n, wells, most, ticks, tick)
			}
			for i, element := range n.Elements {
				if trueWidth(element, x.State[i]) > trueWidth(element, state[i]) {
					t.Errorf("the width of %v grows from %d to %d", element, state[i], x.State[i])
				}
			}
			state = x.State
		}
		_, _, at := trueTick(n, state, wells)
		switch {
		case ticks == most && full != -1, ticks < most && (at == -1 || full != at):
			t.Errorf("Life(%v, .., %v, %d): %d, %d", n, wells, most, ticks, full)
		case ticks == most:
			lasts++
		case ticks > 0:
			ends++
		}
	}
	if ends < 100 || lasts < 100 {
		t.Errorf("too few of a kind: %d end, %d last", ends, lasts)
	}
}

// TestCovers: P6.5, the least and the greatest of each number, of all cases.
func TestCovers(t *testing.T) {
	n := net(well(2), separator(0, 0, 0, 0))
	between := func(lo, hi int) steam.Range { return steam.Range{Lo: lo, Hi: hi} }
	cases := [][]steam.Stream{
		{stream(1000, 852000, 0, 50)},     // 191 with 511116, and 809 with 340884
		{stream(500, 209500, 70000, 900)}, // no steam
		{stream(10, 30000, 700, 4)},       // only steam
	}
	want := []pipe.Cover{
		{Mass: between(0, 191), Heat: between(0, 511116), Gas: between(0, 50)},
		{Mass: between(0, 809), Heat: between(0, 340884), Silica: between(0, 70000), Gas: between(0, 900)},
	}
	if l, e := pipe.Covers(n, zeros(n), cases); !slices.Equal(l, want) || e != api.OK {
		t.Errorf("Covers: %v, %v", l, e)
	}
	want = []pipe.Cover{
		{Mass: between(191, 191), Heat: between(511116, 511116), Gas: between(50, 50)},
		{Mass: between(809, 809), Heat: between(340884, 340884)},
	}
	if l, e := pipe.Covers(n, zeros(n), cases[:1]); !slices.Equal(l, want) || e != api.OK {
		t.Errorf("Covers of one case: %v, %v", l, e)
	}
	if l, e := pipe.Covers(net(well(1), valve(0, 0, 0)), []int{0, 0}, cases[1:]); e != api.OK || !slices.Equal(l, []pipe.Cover{
		{Mass: between(10, 500), Heat: between(30000, 209500), Silica: between(700, 70000), Gas: between(4, 900)},
	}) {
		t.Errorf("Covers of a valve: %v, %v", l, e)
	}
}

// TestUnsafe: P6.5, the first case, and the first element in it, where something falls out.
func TestUnsafe(t *testing.T) {
	n := net(well(2), well(2), separator(1, 0, 0, 0), separator(0, 0, 1, 0))
	calm, high, low := stream(10, 0, 1500, 0), stream(10, 0, 3001, 0), stream(10, 0, 1501, 0)
	for what, c := range map[string]struct {
		cases       [][]steam.Stream
		at, element int
	}{
		"calm":             {[][]steam.Stream{{calm, calm}, {low, calm}}, -1, -1},
		"the first of two": {[][]steam.Stream{{calm, low}, {high, low}}, 0, 3},
		"the last of two":  {[][]steam.Stream{{low, calm}, {high, low}}, 1, 2},
		"the last element": {[][]steam.Stream{{calm, calm}, {calm, calm}, {low, low}, {high, calm}}, 2, 3},
		"one":              {[][]steam.Stream{{high, high}}, 0, 2},
	} {
		if at, element, e := pipe.Unsafe(n, zeros(n), c.cases); at != c.at || element != c.element || e != api.OK {
			t.Errorf("Unsafe, %s: %d, %d, %v", what, at, element, e)
		}
	}
}

// TestFullCases: P6.5, ErrFull, if an element is full in any case, also behind one in which something falls out.
func TestFullCases(t *testing.T) {
	n := net(well(2), sized(separator(0, 0, 0, 0), 100, 1000))
	cases := [][]steam.Stream{{stream(10, 0, 9000, 0)}, {stream(100, 0, 0, 0)}, {stream(50, 0, 0, 0)}}
	for i := range cases {
		for name, c := range calls() {
			x := args{net: n, state: []int{0, 999}, cases: slices.Clone(cases), most: 1}
			if e := c.call(x); c.many && name != "Best" && e != api.OK {
				t.Errorf("%s: %v", name, e)
			}
			x.cases[i] = []steam.Stream{stream(101, 0, 0, 0)}
			if e := c.call(x); c.many && name != "Best" && e != api.ErrFull {
				t.Errorf("%s, full in the case %d: %v", name, i, e)
			}
		}
	}
	// Each case is from the same state: what falls out in one leaves as much width for the next one.
	n.Elements[1].Narrow = 1
	if l, e := pipe.Covers(n, []int{0, 0}, cases); len(l) != 2 || e != api.OK {
		t.Errorf("Covers: %v, %v", l, e)
	}
	if at, element, e := pipe.Unsafe(n, []int{0, 0}, cases); at != 0 || element != 1 || e != api.OK {
		t.Errorf("Unsafe: %d, %d, %v", at, element, e)
	}
}

// numbers gives the mass, the heat, the silica and the gas.
func numbers(s steam.Stream) [4]int { return [4]int{s.Mass, s.Heat, s.Silica, s.Gas} }

// checkCover tells if one of the streams lies outside of the cover, or an end of it is not reached.
func checkCover(t *testing.T, c pipe.Cover, l []steam.Stream) {
	t.Helper()
	for i, r := range [4]steam.Range{c.Mass, c.Heat, c.Silica, c.Gas} {
		lo, hi := false, false
		for _, s := range l {
			n := numbers(s)[i]
			lo, hi = lo || n == r.Lo, hi || n == r.Hi
			if n < r.Lo || n > r.Hi {
				t.Errorf("Covers: %v is not within %v", s, c)
			}
		}
		if !lo || !hi {
			t.Errorf("Covers: an end of %v is not reached by %v", c, l)
		}
	}
}

// TestCasesCounted: P6.5, P6.9, P6.10, any cases.
func TestCasesCounted(t *testing.T) {
	d := &dice{seed: 65}
	var fulls, falls, safes int
	for range 3000 {
		n := d.net(shape{elements: 10, separators: 4, tight: d.roll(0, 2) == 0})
		state, cases := d.state(n), d.cases(n)
		var ticks []pipe.Tick
		at, element, isFull := -1, -1, false
		for i, wells := range cases {
			x, _, full := trueTick(n, state, wells)
			ticks, isFull = append(ticks, x), isFull || full >= 0
			if l := trueFalls(x); at == -1 && len(l) > 0 {
				at, element = i, l[0].Element
			}
		}
		covers, e := pipe.Covers(n, state, cases)
		a, b, f := pipe.Unsafe(n, state, cases)
		if isFull {
			fulls++
			if e != api.ErrFull || f != api.ErrFull {
				t.Errorf("Covers and Unsafe(%v, %v, %v): %v, %v", n, state, cases, e, f)
			}
			continue
		}
		if a != at || b != element || e != api.OK || f != api.OK || len(covers) != len(trueEnds(n)) {
			t.Fatalf("Unsafe(%v, %v, %v): %d, %d, %v; Covers: %v, %v", n, state, cases, a, b, f, covers, e)
		}
		for i, p := range trueEnds(n) {
			var l []steam.Stream
			for _, x := range ticks {
				l = append(l, x.Out[p.Element][p.Outlet])
			}
			checkCover(t, covers[i], l)
		}
		if at >= 0 {
			falls++
			continue
		}
		safes++
		for _, wells := range cases {
			x := do(t, n, state, wells...)
			ticks, full, e := pipe.Life(n, state, wells, 50)
			if !slices.Equal(x.State, state) || ticks != 50 || full != -1 || e != api.OK {
				t.Errorf("a tick of %v from %v with %v: %v, then %d, %d, %v", n, state, wells, x, ticks, full, e)
			}
		}
	}
	if fulls < 100 || falls < 100 || safes < 100 {
		t.Errorf("too few of a kind: %d are full, in %d something falls out, %d are safe", fulls, falls, safes)
	}
}
