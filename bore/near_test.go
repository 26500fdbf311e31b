package bore_test

import (
	"slices"
	"testing"

	"fumarole/api"
	"fumarole/bore"
)

// line is all t and u of which a times t and b times u are together at most c.
type line struct{ a, b, c int }

// lines gives what t and u keep if the reaches differ by at most the gap there.
func lines(r, s reach, gap int) []line {
	l := []line{{-1, 0, 0}, {1, 0, 1}, {0, -1, 0}, {0, 1, 1}}
	for axis := range r.low {
		l = append(l,
			line{r.lowBy[axis], -s.highBy[axis], gap - r.low[axis] + s.high[axis]},
			line{-r.highBy[axis], s.lowBy[axis], gap + r.high[axis] - s.low[axis]})
	}
	return l
}

// meet gives whether there is a place that all lines allow: if there is any, there is one where two of them cross.
func meet(l []line) bool {
	for i, p := range l {
		for _, q := range l[:i] {
			// The place where they cross is (t, u), both det times as great.
			det, t, u := p.a*q.b-q.a*p.b, p.c*q.b-q.c*p.b, p.a*q.c-q.a*p.c
			if det < 0 {
				det, t, u = -det, -t, -u
			}
			if det != 0 && !slices.ContainsFunc(l, func(x line) bool { return x.a*t+x.b*u > x.c*det }) {
				return true
			}
		}
	}
	return false
}

// nearBy gives what Near must return.
func nearBy(a, b bore.Well, gap int) bool {
	for _, r := range reaches(a) {
		for _, s := range reaches(b) {
			if meet(lines(r, s, gap)) {
				return true
			}
		}
	}
	return false
}

// TestNear: P3.3, the least gap at which two wells may be near.
func TestNear(t *testing.T) {
	straight := well(at(0, 0, 0), leg(0, 0, 1000, 0))
	for what, c := range map[string]struct {
		a, b  bore.Well
		least int
	}{
		"the same":            {chapterWell(), chapterWell(), 0},
		"a head on a well":    {straight, well(at(0, 0, 500), leg(1, 1, 1, 0)), 0},
		"ends that touch":     {straight, well(at(70, 0, 930), leg(-70, 0, 70, 0)), 0},
		"beside it in X":      {straight, well(at(100, 0, 0), leg(0, 0, 1000, 0)), 100},
		"beside it in Y":      {straight, well(at(0, -100, 0), leg(0, 0, 1000, 0)), 100},
		"below":               {straight, well(at(0, 0, 1100), leg(0, 0, 1000, 0)), 100},
		"above":               {straight, well(at(0, 0, -1100), leg(0, 0, 1000, 0)), 100},
		"beside in all":       {straight, well(at(-30, 40, 1020), leg(0, 0, 10, 0)), 40},
		"one with an error":   {straight, well(at(100, 0, 0), leg(0, 0, 1000, 20)), 80},
		"both with errors":    {well(at(0, 0, 0), leg(0, 0, 1000, 5), leg(0, 0, 1000, 5)), well(at(100, 0, 0), leg(0, 0, 1000, 20), leg(0, 0, 1000, 0)), 70},
		"errors above":        {well(at(0, 0, 0), leg(1, 0, 0, 5)), well(at(0, 0, 90), leg(1, 0, 0, 20)), 65},
		"beside a bend":       {well(at(0, 0, 0), leg(0, 0, 100, 0), leg(100, 0, 0, 0)), well(at(50, 60, 0), leg(0, 0, 200, 0)), 60},
		"halves":              {straight, well(at(7, 0, 0), leg(0, 7, 0, 0)), 7},
		"slopes":              {well(at(0, 0, 0), leg(100, 0, 0, 0)), well(at(0, 51, 0), leg(100, -50, 0, 0)), 1},
		"between two numbers": {well(at(0, 0, 0), leg(10, 10, 0, 0)), well(at(7, 0, 0), leg(10, 10, 0, 0)), 4}, // 3.5
		"crossing":            {well(at(0, 0, 40), leg(100, 100, 20, 0)), well(at(100, 0, 200), leg(-100, 100, 100, 0)), 140},
	} {
		for _, gap := range []int{0, c.least - 1, c.least, c.least + 1, api.MaxGap} {
			if gap >= 0 && (near(t, c.a, c.b, gap) != (gap >= c.least) || near(t, c.b, c.a, gap) != (gap >= c.least)) {
				t.Errorf("%s, the gap %d: not as it should be with %d", what, gap, c.least)
			}
		}
	}
	far := well(at(api.MaxGap+1, 0, 0), leg(0, 0, 1, 0))
	if near(t, straight, far, api.MaxGap) {
		t.Error("near, though beyond the greatest gap")
	}
	far.Head.X--
	if !near(t, straight, far, api.MaxGap) {
		t.Error("not near, though within the greatest gap")
	}
}

// TestNearLegs: P3.3, any leg of each well may be the one that is near.
func TestNearLegs(t *testing.T) {
	for k := range 5 {
		a := well(at(0, 0, 0), slices.Repeat([]bore.Leg{leg(0, 0, 100, 0)}, 5)...)
		for j := range 5 {
			b := well(at(500, 0, 0), slices.Repeat([]bore.Leg{leg(0, 0, 1, 0)}, 5)...)
			b.Head.Z = 100*k + 50 - j
			b.Legs[j] = leg(-490, 0, 1, 0)
			if j < 4 {
				b.Legs[j+1] = leg(490, 0, 1, 0)
			}
			if near(t, a, b, 9) || !near(t, a, b, 10) || near(t, b, a, 9) || !near(t, b, a, 10) {
				t.Errorf("the leg %d, and the leg %d of the other one", k, j)
			}
		}
	}
}

// leastGap gives the least gap at which the wells may be near, or one more than the greatest gap; P3.9, they stay near with greater ones.
func leastGap(t *testing.T, a, b bore.Well) int {
	t.Helper()
	lo, hi := 0, api.MaxGap+1
	for lo < hi {
		if mid := (lo + hi) / 2; near(t, a, b, mid) {
			hi = mid
		} else {
			lo = mid + 1
		}
	}
	return lo
}

// TestNearHolds: P3.3 and P3.9, of any wells.
func TestNearHolds(t *testing.T) {
	d := &dice{state: 39}
	kinds := map[string]int{}
	for range 1500 {
		far := []int{5, 60, 1000}[d.roll(0, 2)]
		a, b := d.well(3, far), d.well(3, far)
		b.Head.X += d.roll(0, far)
		least := leastGap(t, a, b)
		for _, gap := range []int{0, least - 1, least, d.roll(0, api.MaxGap), api.MaxGap} {
			if gap < 0 || gap > api.MaxGap {
				continue
			}
			is := near(t, a, b, gap)
			if is != nearBy(a, b, gap) || is != (gap >= least) || is != near(t, b, a, gap) {
				t.Errorf("Near(%v, %v, %d): %v, with the least gap %d", a, b, gap, is, least)
			}
		}
		switch {
		case least == 0:
			kinds["touching"]++
		case least <= api.MaxGap:
			kinds["apart"]++
		}
	}
	if kinds["touching"] < 100 || kinds["apart"] < 100 {
		t.Errorf("too few of a kind: %v", kinds)
	}
}

// TestNearMost: P3.3, the greatest numbers.
func TestNearMost(t *testing.T) {
	for _, by := range []bore.Leg{leg(1000, -1000, 1000, 20), leg(-1000, 999, 0, 20), leg(997, 1000, 991, 19)} {
		a := well(at(-api.MaxPlace, api.MaxPlace, -api.MaxPlace), slices.Repeat([]bore.Leg{leg(1000, -999, 1000, 20)}, api.MaxLegs)...)
		b := well(at(api.MaxPlace, -api.MaxPlace, api.MaxPlace), slices.Repeat([]bore.Leg{by}, api.MaxLegs)...)
		for _, shift := range []int{0, 19000, 31000, 40000} {
			b.Head.X = api.MaxPlace - shift
			for _, gap := range []int{0, 500, api.MaxGap} {
				if is := near(t, a, b, gap); is != nearBy(a, b, gap) {
					t.Errorf("Near(%v, %v, %d): %v", a, b, gap, is)
				}
			}
		}
	}
}

// TestApart: P3.9, points of true courses of wells that may not be near.
func TestApart(t *testing.T) {
	d := &dice{state: 390}
	apart := 0
	for range 400 {
		a, b := d.well(3, 80), d.well(3, 80)
		gap := leastGap(t, a, b) - 1
		if gap < 0 {
			continue
		}
		apart++
		for range 40 {
			p, q := d.trueCourse(a), d.trueCourse(b)
			j, k := d.roll(1, len(p)-1), d.roll(1, len(q)-1)
			x, y := along(p[j-1], p[j], d.roll(0, 16), 16), along(q[k-1], q[k], d.roll(0, 16), 16)
			most := 0
			for axis := range x {
				most = max(most, x[axis]-y[axis], y[axis]-x[axis])
			}
			if most <= 16*gap {
				t.Errorf("Near(%v, %v, %d): not, and %v and %v of a sixteenth", a, b, gap, x, y)
			}
		}
	}
	if apart < 50 {
		t.Errorf("too few that are apart: %d", apart)
	}
}
