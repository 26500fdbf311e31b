package bore_test

import (
	"slices"
	"strconv"
	"testing"

	"fumarole/api"
	"fumarole/bore"
)

// input is what the calls with rock are given.
type input struct {
	rock          []bore.Layer
	a, b, mud     int
	prices, shoes []int
}

// goodInput has no error for any call.
func goodInput() input {
	return input{rock: easyRock(3), b: 3, mud: 1100, prices: []int{3, 2}, shoes: []int{3}}
}

// rockCalls are those that take rock, and no prices.
func rockCalls() map[string]func(input) api.Errno {
	return map[string]func(input) api.Errno{
		"CheckRock": func(in input) api.Errno { return bore.CheckRock(in.rock) },
		"Mud": func(in input) api.Errno {
			r, e := bore.Mud(in.rock, in.a, in.b)
			return alone(e, r == bore.Range{})
		},
		"Losses": func(in input) api.Errno {
			n, e := bore.Losses(in.rock, in.a, in.b, in.mud)
			return alone(e, n == 0)
		},
	}
}

// pricesCalls are those that take rock and prices; ProvePlan has a proof for the good input.
func pricesCalls() map[string]func(input) api.Errno {
	return map[string]func(input) api.Errno{
		"Cost": func(in input) api.Errno {
			n, e := bore.Cost(in.rock, in.prices, in.shoes)
			return alone(e, n == 0)
		},
		"Plan": func(in input) api.Errno {
			shoes, cost, table, e := bore.Plan(in.rock, in.prices)
			return alone(e, len(shoes) == 0 && cost == 0 && len(table) == 0)
		},
		"ProvePlan": func(in input) api.Errno {
			if !bore.ProvePlan(in.rock, in.prices, in.shoes, 90, [][]int{{30, 60, 90}, {api.MaxCost, 70, 90}}) {
				return api.ErrArg
			}
			return api.OK
		},
	}
}

// expect checks that each call gives the error for the input.
func expect(t *testing.T, what string, in input, want api.Errno, calls map[string]func(input) api.Errno) {
	t.Helper()
	for name, c := range calls {
		if e := c(in); e != want {
			t.Errorf("%s, %s: %v, not %v", name, what, e, want)
		}
	}
}

// badLayers are layers that are not valid; each one is but for one number as the layer i of rock that is.
func badLayers(i int) map[string]bore.Layer {
	all := map[string]bore.Layer{}
	add := func(what string, n int, change func(l *bore.Layer, n int)) {
		l := easyRock(3)[i]
		change(&l, n)
		all[what+" of "+strconv.Itoa(n)] = l
	}
	for _, n := range append([]int{-1, api.MaxDensity + 1}, farNumbers...) {
		add("Pore.Lo", n, func(l *bore.Layer, n int) { l.Pore.Lo = n })
		add("Pore.Hi", n, func(l *bore.Layer, n int) { l.Pore.Hi = n })
		add("Frac.Lo", n, func(l *bore.Layer, n int) { l.Frac.Lo = n })
		add("Frac.Hi", n, func(l *bore.Layer, n int) { l.Frac.Hi = n })
		add("Pore", n, func(l *bore.Layer, n int) { l.Pore = between(n, n) })
		add("Frac", n, func(l *bore.Layer, n int) { l.Frac = between(n, n) })
		add("Leak", n, func(l *bore.Layer, n int) { l.Leak = n })
	}
	add("Pore.Lo above Hi", 1001, func(l *bore.Layer, n int) { l.Pore.Lo = n })
	add("Frac.Lo above Hi", 1301, func(l *bore.Layer, n int) { l.Frac.Lo = n })
	for _, n := range append([]int{-10, -1, 0, api.MaxDepth + 1}, farNumbers...) {
		add("Depth", n, func(l *bore.Layer, n int) { l.Depth = n })
	}
	return all
}

// badRocks are lists of layers that are no rock.
func badRocks() map[string][]bore.Layer {
	all := map[string][]bore.Layer{"nil": nil, "no layers": {}, "a layer too many": easyRock(api.MaxLayers + 1)}
	for i := range 3 {
		for what, l := range badLayers(i) {
			rock := easyRock(3)
			rock[i] = l
			all[what+", layer "+strconv.Itoa(i)] = rock
		}
	}
	for i, depth := range []int{20, 10, 20} { // as deep as another one, or above it
		for _, less := range []int{0, 1} {
			rock := easyRock(3)
			rock[i].Depth = depth + []int{less, -less, -less}[i]
			all["the layer "+strconv.Itoa(i)+" to "+strconv.Itoa(rock[i].Depth)] = rock
		}
	}
	return all
}

// TestRockErrors: P3.5, rock that is not valid is the first error of each call with it.
func TestRockErrors(t *testing.T) {
	for what, rock := range badRocks() {
		in := goodInput()
		in.rock = rock
		expect(t, what, in, api.ErrArg, rockCalls())
		expect(t, what, in, api.ErrArg, pricesCalls())
		in.a, in.b, in.mud = 5, 4, -1
		expect(t, what+", no section", in, api.ErrArg, rockCalls())
	}
	edges := easyRock(3)
	edges[0] = bore.Layer{Depth: 1, Pore: between(0, 0), Frac: between(api.MaxDensity, api.MaxDensity)}
	edges[1] = bore.Layer{Depth: 2, Pore: between(0, 1100), Frac: between(1100, api.MaxDensity), Leak: api.MaxDensity}
	edges[2].Depth = api.MaxDepth
	for what, rock := range map[string][]bore.Layer{"easy": easyRock(3), "at its edges": edges, "of one layer": easyRock(1), "of many layers": easyRock(api.MaxLayers)} {
		in := goodInput()
		in.rock, in.b = rock, min(3, len(rock))
		expect(t, "rock "+what, in, api.OK, rockCalls())
	}
	expect(t, "the easy rock", goodInput(), api.OK, pricesCalls())
	weird := easyRock(3)
	weird[1].Pore, weird[1].Frac = between(2000, 2100), between(100, 200) // no mud holds there
	if e := bore.CheckRock(weird); e != api.OK {
		t.Errorf("CheckRock of rock without a mud: %v", e)
	}
}

// TestPricesErrors: P3.6, lists that are no prices.
func TestPricesErrors(t *testing.T) {
	lists := [][]int{nil, {}, make([]int, api.MaxStrings+1)}
	for _, n := range append([]int{-1, api.MaxPrice + 1}, farNumbers...) {
		lists = append(lists, []int{n}, []int{n, 2}, []int{3, n}, []int{3, 2, n, 1})
	}
	for _, l := range lists {
		in := goodInput()
		in.prices = l
		expect(t, "a list that is no prices", in, api.ErrArg, pricesCalls())
	}
	for _, l := range [][]int{{0}, {api.MaxPrice}, slices.Repeat([]int{api.MaxPrice}, api.MaxStrings), make([]int, api.MaxStrings)} {
		if _, e := bore.Cost(easyRock(3), l, []int{3}); e != api.OK {
			t.Errorf("Cost with the prices %v: %v", l, e)
		}
		if _, _, _, e := bore.Plan(easyRock(3), l); e != api.OK {
			t.Errorf("Plan with the prices %v: %v", l, e)
		}
	}
}

// TestSectionErrors: P3.5, what is no section, or has no window, or another mud.
func TestSectionErrors(t *testing.T) {
	rock := easyRock(3)
	rock[1].Pore, rock[1].Frac = between(1100, 1150), between(1149, 1300) // no mud holds here
	call := func(a, b, mud int, want api.Errno, names ...string) {
		t.Helper()
		for _, name := range names {
			if e := rockCalls()[name](input{rock: rock, a: a, b: b, mud: mud}); e != want {
				t.Errorf("%s from %d to %d, mud %d: %v, not %v", name, a, b, mud, e, want)
			}
		}
	}
	none := [][2]int{{0, 0}, {1, 1}, {3, 3}, {1, 0}, {3, 2}, {-1, 1}, {-1, 0}, {0, 4}, {2, 4}, {3, 4}, {4, 5}, {0, -1}}
	for _, n := range farNumbers {
		none = append(none, [2]int{n, 1}, [2]int{0, n}, [2]int{n, n})
	}
	for _, x := range none {
		if x[0] < 0 || x[1] > 3 || x[0] >= x[1] {
			call(x[0], x[1], 1100, api.ErrRange, "Mud", "Losses")
			call(x[0], x[1], -1, api.ErrRange, "Losses")
		}
	}
	for _, x := range [][2]int{{0, 2}, {0, 3}, {1, 2}, {1, 3}} {
		call(x[0], x[1], 1150, api.ErrNone, "Mud", "Losses")
		call(x[0], x[1], -1, api.ErrNone, "Losses")
	}
	for _, n := range append([]int{-1, 0, 999, 1201, api.MaxDensity}, farNumbers...) {
		call(0, 1, n, api.ErrFail, "Losses")
		call(2, 3, n, api.ErrFail, "Losses")
	}
	call(0, 1, 1000, api.OK, "Mud", "Losses")
	call(2, 3, 1200, api.OK, "Mud", "Losses")
}

// TestMud: P3.5, the ends of windows, down to a single mud.
func TestMud(t *testing.T) {
	layer := func(depth, pore, frac int) bore.Layer {
		return bore.Layer{Depth: depth, Pore: between(pore-7, pore), Frac: between(frac, frac+7)}
	}
	rock := []bore.Layer{layer(10, 1000, 1100), layer(20, 1050, 1200), layer(30, 1100, 1100), layer(40, 900, 1099), layer(50, 7, 2993)}
	for _, x := range []struct {
		a, b int
		want bore.Range
		e    api.Errno
	}{
		{0, 1, between(1000, 1100), api.OK}, {0, 2, between(1050, 1100), api.OK}, {0, 3, between(1100, 1100), api.OK},
		{0, 4, bore.Range{}, api.ErrNone}, {0, 5, bore.Range{}, api.ErrNone},
		{1, 2, between(1050, 1200), api.OK}, {1, 3, between(1100, 1100), api.OK}, {1, 4, bore.Range{}, api.ErrNone},
		{2, 3, between(1100, 1100), api.OK}, {2, 4, bore.Range{}, api.ErrNone},
		{3, 4, between(900, 1099), api.OK}, {3, 5, between(900, 1099), api.OK}, {4, 5, between(7, 2993), api.OK},
	} {
		if r, e := bore.Mud(rock, x.a, x.b); r != x.want || e != x.e {
			t.Errorf("Mud from %d to %d: %v, %v", x.a, x.b, r, e)
		}
	}
	for _, n := range []int{0, 1, api.MaxDensity} { // all muds that there are above nothing, and a single one
		rock := []bore.Layer{{Depth: 1, Frac: between(n, api.MaxDensity)}, {Depth: 2, Pore: between(0, n), Frac: between(api.MaxDensity, api.MaxDensity)}}
		if r, e := bore.Mud(rock, 0, 1); r != between(0, n) || e != api.OK {
			t.Errorf("Mud up to %d: %v, %v", n, r, e)
		}
		if r, e := bore.Mud(rock, 0, 2); r != between(n, n) || e != api.OK {
			t.Errorf("Mud of just %d: %v, %v", n, r, e)
		}
	}
}

// TestLosses: P3.5, layers that leak, and the first layer of a section.
func TestLosses(t *testing.T) {
	rock := easyRock(3) // 10 thick each, leaking above 1100
	rock[1].Leak, rock[1].Depth, rock[2].Depth = 1000, 25, 45
	for _, x := range []struct{ a, b, mud, want int }{
		{0, 3, 1000, 0}, {0, 3, 1001, 15}, {0, 3, 1100, 1500}, {0, 3, 1101, 10 + 15*101 + 20}, {0, 3, 1200, 1000 + 3000 + 2000},
		{0, 1, 1200, 1000}, {1, 2, 1200, 3000}, {2, 3, 1200, 2000}, {1, 3, 1150, 15*150 + 20*50}, {0, 2, 1150, 500 + 15*150}, {2, 3, 1100, 0},
	} {
		if n, e := bore.Losses(rock, x.a, x.b, x.mud); n != x.want || e != api.OK {
			t.Errorf("Losses from %d to %d of %d: %d, %v", x.a, x.b, x.mud, n, e)
		}
	}
	deep := []bore.Layer{{Depth: api.MaxDepth, Frac: between(api.MaxDensity, api.MaxDensity)}}
	if n, e := bore.Losses(deep, 0, 1, api.MaxDensity); n != api.MaxDepth*api.MaxDensity || e != api.OK {
		t.Errorf("the greatest losses: %d, %v", n, e)
	}
}

// TestMudHolds: P3.11, and P3.5 of any rock.
func TestMudHolds(t *testing.T) {
	d := &dice{state: 311}
	met := map[api.Errno]int{}
	for range 600 {
		rock := d.rock(8)
		a := d.roll(0, len(rock)-1)
		b := d.roll(a+1, len(rock))
		window, e := bore.Mud(rock, a, b)
		met[e]++
		last := 0
		for mud := range api.MaxDensity + 1 {
			holds, losses := true, 0
			for i := a; i < b; i++ {
				l, top := rock[i], 0
				if i > 0 {
					top = rock[i-1].Depth
				}
				holds = holds && l.Pore.Hi <= mud && mud <= l.Frac.Lo
				losses += max(mud, l.Leak)*(l.Depth-top) - l.Leak*(l.Depth-top)
			}
			if holds != (e == api.OK && window.Lo <= mud && mud <= window.Hi) {
				t.Errorf("Mud(%v, %d, %d): %v, %v, and %d", rock, a, b, window, e, mud)
			}
			if !holds {
				continue
			}
			n, e := bore.Losses(rock, a, b, mud)
			if n != losses || n < last || e != api.OK {
				t.Errorf("Losses(%v, %d, %d, %d): %d, %v, not %d", rock, a, b, mud, n, e, losses)
			}
			last = n
		}
		if e != api.OK {
			continue
		}
		c := d.roll(a, b-1)
		part, e := bore.Mud(rock, c, d.roll(c+1, b))
		if e != api.OK || part.Lo > window.Lo || part.Hi < window.Hi {
			t.Errorf("Mud(%v, %d, %d): %v, and of a part %v, %v", rock, a, b, window, part, e)
		}
	}
	if met[api.OK] < 50 || met[api.ErrNone] < 50 {
		t.Errorf("too few of a kind: %v", met)
	}
}
