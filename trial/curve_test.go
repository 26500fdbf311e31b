package trial_test

import (
	"slices"
	"testing"

	"fumarole/api"
	"fumarole/trial"
)

// TestAgrees: P4.1, each end of the box and of a step.
func TestAgrees(t *testing.T) {
	x := trial.Test{A: between(2, 4), B: between(5, 7), C: between(1, 3)}
	for curve, want := range map[trial.Curve]bool{
		{A: 2, B: 5, C: 1}: true, {A: 4, B: 7, C: 3}: true, {A: 3, B: 6, C: 2}: true,
		{A: 1, B: 5, C: 1}: false, {A: 5, B: 5, C: 1}: false,
		{A: 2, B: 4, C: 1}: false, {A: 2, B: 8, C: 1}: false,
		{A: 2, B: 5, C: 0}: false, {A: 2, B: 5, C: 4}: false,
	} {
		if trial.Agrees(x, curve) != want {
			t.Errorf("Agrees of %v in the box: not %v", curve, want)
		}
	}
	curve := trial.Curve{A: 3, B: 6, C: 2} // 3, 11, 23, 39
	for s, want := range map[trial.Step]bool{
		step(0, 3, 3): true, step(0, 4, 9): false, step(0, -9, 2): false,
		step(2, 23, 23): true, step(2, 24, 99): false, step(2, -99, 22): false,
		step(3, 30, 39): true, step(3, 39, 50): true, step(3, 40, 50): false, step(3, 30, 38): false,
		step(1000, 2006003, 2006003): true, step(1000, 2006004, api.MaxDrop): false, step(1000, -api.MaxDrop, 2006002): false,
	} {
		for _, steps := range [][]trial.Step{{s}, {step(1, 11, 11), s}, {s, step(1, 11, 11)}} {
			x.Steps = steps
			if trial.Agrees(x, curve) != want {
				t.Errorf("Agrees of %v with %v: not %v", curve, steps, want)
			}
		}
	}
	for _, n := range farNumbers {
		for _, curve := range []trial.Curve{{A: n, B: 5, C: 1}, {A: 2, B: n, C: 1}, {A: 2, B: 5, C: n}, {A: n, B: n, C: n}} {
			if trial.Agrees(trial.Test{A: between(2, 4), B: between(5, 7), C: between(1, 3)}, curve) {
				t.Errorf("Agrees of %v", curve)
			}
		}
	}
}

// TestCurves: P4.2 and P4.3, all curves of small boxes, one by one.
func TestCurves(t *testing.T) {
	d := &dice{state: 42}
	met := map[string]int{}
	for range 3000 {
		x, _ := d.test(d.roll(0, 12))
		l := curves(x)
		n, a, b, c, e := trial.Curves(x)
		if len(l) == 0 {
			met["none"]++
			if n != 0 || a != (trial.Range{}) || b != (trial.Range{}) || c != (trial.Range{}) || e != api.ErrNone {
				t.Errorf("Curves(%v): %d, %v, %v, %v, %v", x, n, a, b, c, e)
			}
			continue
		}
		if len(x.Steps) > 1 && len(l) > 1 {
			met["several"]++
		}
		if n != len(l) || e != api.OK ||
			a != ends(l, func(c trial.Curve) int { return c.A }) ||
			b != ends(l, func(c trial.Curve) int { return c.B }) ||
			c != ends(l, func(c trial.Curve) int { return c.C }) {
			t.Errorf("Curves(%v): %d, %v, %v, %v, %v", x, n, a, b, c, e)
		}
		var flows []int
		widest, most := 0, -1
		for i := range d.roll(1, api.MaxSteps) {
			flow := d.roll(0, []int{3, 12, api.MaxFlow}[d.roll(0, 2)])
			want := ends(l, func(c trial.Curve) int { return drawdown(c, flow) })
			if r, e := trial.Drawdown(x, flow); r != want || e != api.OK {
				t.Errorf("Drawdown(%v, %d): %v, %v", x, flow, r, e)
			}
			flows = append(flows, flow)
			if want.Hi-want.Lo > most {
				widest, most = i, want.Hi-want.Lo
			}
		}
		if i, e := trial.Widest(x, flows); i != widest || e != api.OK {
			t.Errorf("Widest(%v, %v): %d, %v", x, flows, i, e)
		}
	}
	if met["none"] < 300 || met["several"] < 300 {
		t.Errorf("too few of a kind: %v", met)
	}
}

// TestAgreesHolds: P4.1, each curve of the box and around it.
func TestAgreesHolds(t *testing.T) {
	d := &dice{state: 41}
	for range 300 {
		x, _ := d.test(d.roll(0, 4))
		l := curves(x)
		for a := x.A.Lo - 1; a <= x.A.Hi+1; a++ {
			for b := x.B.Lo - 1; b <= x.B.Hi+1; b++ {
				for c := x.C.Lo - 1; c <= x.C.Hi+1; c++ {
					curve := trial.Curve{A: a, B: b, C: c}
					if trial.Agrees(x, curve) != slices.Contains(l, curve) {
						t.Errorf("Agrees(%v, %v): not as it should be", x, curve)
					}
				}
			}
		}
	}
}

// TestCurvesMost: P4.2 and P4.3, the greatest numbers.
func TestCurvesMost(t *testing.T) {
	x, top := widestTest(), 1010100000 // what the steepest curve has at the greatest flow; the flattest one has 970961000
	if n, a, b, c, e := trial.Curves(x); n != 100001*40*40 || a != x.A || b != x.B || c != x.C || e != api.OK {
		t.Errorf("Curves: %d, %v, %v, %v, %v", n, a, b, c, e)
	}
	if r, e := trial.Drawdown(x, api.MaxFlow); r != between(970961000, top) || e != api.OK {
		t.Errorf("Drawdown: %v, %v", r, e)
	}
	for limit, want := range map[int][2]int{
		api.MaxDrop: {1000, 1000}, top: {1000, 1000}, top - 1: {999, 1000}, 970961000: {980, 1000}, 970960999: {980, 999},
		api.MaxRest: {0, 6}, api.MaxRest - 1: {-1, 6}, 0: {-1, 0}, -1: {-1, -1}, -api.MaxDrop: {-1, -1},
	} {
		if sure, may, e := trial.Capacity(x, limit); sure != want[0] || may != want[1] || e != api.OK {
			t.Errorf("Capacity for %d: %d, %d, %v", limit, sure, may, e)
		}
	}
	one := widestTest(step(api.MaxFlow, top, api.MaxDrop))
	if n, a, b, c, e := trial.Curves(one); n != 1 || a != only(api.MaxRest) || b != only(api.MaxSlope) || c != only(api.MaxBend) || e != api.OK {
		t.Errorf("Curves of one: %d, %v, %v, %v, %v", n, a, b, c, e)
	}
	least := widestTest(step(api.MaxFlow, -api.MaxDrop, 970961000))
	if n, a, b, c, e := trial.Curves(least); n != 1 || a != only(0) || b != only(9961) || c != only(961) || e != api.OK {
		t.Errorf("Curves of the least: %d, %v, %v, %v, %v", n, a, b, c, e)
	}
	all := widestTest(slices.Repeat([]trial.Step{step(api.MaxFlow, -api.MaxDrop, api.MaxDrop)}, api.MaxSteps)...)
	if n, _, _, _, e := trial.Curves(all); n != 100001*40*40 || e != api.OK {
		t.Errorf("Curves with steps that say nothing: %d, %v", n, e)
	}
	for _, s := range []trial.Step{step(api.MaxFlow, top+1, api.MaxDrop), step(api.MaxFlow, -api.MaxDrop, 970960999), step(0, -5, -1)} {
		if _, _, _, _, e := trial.Curves(widestTest(s)); e != api.ErrNone {
			t.Errorf("Curves with %v: %v", s, e)
		}
	}
}

// TestWidest: P4.3, the first one of those that are as wide, and one that is not the last one.
func TestWidest(t *testing.T) {
	flat := trial.Test{A: between(3, 9), B: only(2), C: only(1)}
	pinned := trial.Test{A: between(0, 100), B: between(0, 10), Steps: []trial.Step{step(10, 100, 100)}} // widest at 0, not at all at 10
	for _, c := range []struct {
		x     trial.Test
		flows []int
		want  int
	}{
		{flat, []int{5}, 0}, {flat, []int{5, 0, 1000}, 0},
		{trial.Test{}, []int{9, 3, 7}, 0},
		{chapterTest(), []int{5, 20, 20, 0}, 1},
		{chapterTest(), []int{0, 0, 1, 0}, 2},
		{pinned, []int{10, 0, 10}, 1}, {pinned, []int{10, 20, 0}, 1}, {pinned, []int{10, 0, 20}, 1}, {pinned, []int{1, 0, 19, 20}, 1}, {pinned, []int{21, 0}, 0},
		{chapterTest(), []int{0, 1, 2, 3, 4, 5, 6, 7, 8, 9, 10, 11}, 11},
	} {
		if i, e := trial.Widest(c.x, c.flows); i != c.want || e != api.OK {
			t.Errorf("Widest(%v, %v): %d, %v", c.x, c.flows, i, e)
		}
	}
}

// capacity gives the greatest flow up to which the drawdowns keep the limit, flow by flow.
func capacity(limit int, at func(flow int) int) int {
	flow := -1
	for flow < api.MaxFlow && at(flow+1) <= limit {
		flow++
	}
	return flow
}

// TestCapacity: P4.3 and P4.11, flow by flow.
func TestCapacity(t *testing.T) {
	d := &dice{state: 43}
	met := map[string]int{}
	for range 500 {
		x, curve := d.test(d.roll(0, 6))
		l := curves(x)
		if len(l) == 0 {
			continue
		}
		lastSure, lastMay := -1, -1
		limits := []int{-api.MaxDrop, -1, 0, drawdown(curve, 0), drawdown(curve, d.roll(0, 20)), drawdown(curve, d.roll(0, api.MaxFlow)), d.roll(0, 3000), d.roll(0, 3000), api.MaxDrop}
		slices.Sort(limits)
		for _, limit := range limits {
			sure, may, e := trial.Capacity(x, limit)
			wantSure := capacity(limit, func(flow int) int { return ends(l, func(c trial.Curve) int { return drawdown(c, flow) }).Hi })
			wantMay := capacity(limit, func(flow int) int { return ends(l, func(c trial.Curve) int { return drawdown(c, flow) }).Lo })
			if sure != wantSure || may != wantMay || e != api.OK {
				t.Errorf("Capacity(%v, %d): %d, %d, %v", x, limit, sure, may, e)
			}
			if sure > may || sure < lastSure || may < lastMay {
				t.Errorf("Capacity(%v, %d): %d, %d after %d, %d", x, limit, sure, may, lastSure, lastMay)
			}
			lastSure, lastMay = sure, may
			switch {
			case sure == -1 && may >= 0:
				met["not sure at all"]++
			case sure >= 0 && sure < may && may < api.MaxFlow:
				met["between"]++
			}
		}
	}
	if met["not sure at all"] < 50 || met["between"] < 50 {
		t.Errorf("too few of a kind: %v", met)
	}
	flat := trial.Test{A: between(3, 9)}
	for limit, want := range map[int][2]int{2: {-1, -1}, 3: {-1, 1000}, 8: {-1, 1000}, 9: {1000, 1000}} {
		if sure, may, e := trial.Capacity(flat, limit); sure != want[0] || may != want[1] || e != api.OK {
			t.Errorf("Capacity of flat curves for %d: %d, %d, %v", limit, sure, may, e)
		}
	}
}

// known is what is said of the curves of a test: the ranges of their numbers, and of their drawdowns at some flows.
func known(t *testing.T, x trial.Test) []trial.Range {
	t.Helper()
	_, a, b, c, e := trial.Curves(x)
	if e != api.OK {
		t.Fatalf("Curves(%v): %v", x, e)
	}
	l := []trial.Range{a, b, c}
	for _, flow := range knownFlows() {
		r, e := trial.Drawdown(x, flow)
		if e != api.OK {
			t.Fatalf("Drawdown(%v, %d): %v", x, flow, e)
		}
		l = append(l, r)
	}
	return l
}

func knownFlows() []int { return []int{0, 1, 2, 7, 100, api.MaxFlow} }

// TestKept: P4.10, the curve that made the steps stays, and further steps make nothing wider.
func TestKept(t *testing.T) {
	d := &dice{state: 410}
	narrower := 0
	for range 150 {
		x := trial.Test{A: d.part(200, 100), B: d.part(60, api.MaxWide), C: d.part(30, 30)}
		made := d.curve(x)
		before := known(t, x)
		for range api.MaxSteps {
			flow := d.roll(0, 30)
			drop := drawdown(made, flow)
			x.Steps = append(x.Steps, step(flow, drop-d.roll(0, 150), drop+d.roll(0, 150)))
			if !trial.Agrees(x, made) {
				t.Errorf("Agrees(%v, %v): not", x, made)
			}
			now := known(t, x)
			has := []int{made.A, made.B, made.C}
			for _, flow := range knownFlows() {
				has = append(has, drawdown(made, flow))
			}
			for i, r := range now {
				if r.Lo < before[i].Lo || r.Hi > before[i].Hi || !in(r, has[i]) {
					t.Errorf("%v of %v: %v is now %v", made, x, before[i], r)
				}
				if r != before[i] {
					narrower++
				}
			}
			before = now
		}
	}
	if narrower < 300 {
		t.Errorf("too few became narrower: %d", narrower)
	}
}
