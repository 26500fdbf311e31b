package bore_test

import (
	"math"
	"slices"
	"testing"

	"fumarole/api"
	"fumarole/bore"
)

// TestStations: P3.1, ways that are added up, and lengths around squares.
func TestStations(t *testing.T) {
	for _, c := range []struct {
		by   bore.Point
		want int
	}{
		{at(1, 0, 0), 1}, {at(0, -1, 0), 1}, {at(0, 0, 1), 1}, {at(1, 1, 0), 1}, {at(1, -1, 1), 1},
		{at(2, 0, 0), 2}, {at(1, 2, 2), 3}, {at(2, 2, 2), 3}, {at(3, 4, 0), 5}, {at(-5, 5, 5), 8},
		{at(-3, -4, 12), 13}, {at(12, 0, 4), 12}, {at(13, 0, 0), 13}, {at(600, 0, 800), 1000},
		{at(1000, 1000, 1000), 1732}, {at(-1000, -1000, 1000), 1732}, {at(1000, 44, 0), 1000}, {at(1000, 45, 0), 1001},
	} {
		if l := stations(t, well(at(7, -8, 9), bore.Leg{By: c.by, Error: 3})); l[1].Length != c.want {
			t.Errorf("the length of %v: %d", c.by, l[1].Length)
		}
	}
	w := well(at(10, -20, -30), leg(1, 2, 2, 0), leg(-300, 400, 0, 20), leg(0, -1, 1, 7), leg(0, 0, 1000, 0))
	if l := stations(t, w); !slices.Equal(l, []bore.Station{
		{At: at(10, -20, -30)},
		{At: at(11, -18, -28), Length: 3},
		{At: at(-289, 382, -28), Radius: 20, Length: 503},
		{At: at(-289, 381, -27), Radius: 27, Length: 504},
		{At: at(-289, 381, 973), Radius: 27, Length: 1504},
	}) {
		t.Errorf("Stations: %v", l)
	}
	long := well(at(api.MaxPlace, -api.MaxPlace, api.MaxPlace), slices.Repeat([]bore.Leg{leg(1000, -1000, 1000, 20)}, api.MaxLegs)...)
	if l := stations(t, long); l[30] != (bore.Station{At: at(50000, -50000, 50000), Radius: 600, Length: 51960}) {
		t.Errorf("the last one of many: %v", l[30])
	}
}

// TestStationsAddUp: P3.1, of any wells.
func TestStationsAddUp(t *testing.T) {
	d := &dice{state: 31}
	for range 2000 {
		w := d.well(6, []int{4, 60, 1000}[d.roll(0, 2)])
		l := stations(t, w)
		if l[0] != (bore.Station{At: w.Head}) {
			t.Errorf("Stations(%v): the head is %v", w, l[0])
		}
		for k, leg := range w.Legs {
			from, to, by := numbers(l[k].At), numbers(l[k+1].At), numbers(leg.By)
			square := 0
			for axis := range by {
				square += by[axis] * by[axis]
				if to[axis]-from[axis] != by[axis] {
					t.Errorf("Stations(%v): the leg %d goes from %v to %v", w, k, from, to)
				}
			}
			n := l[k+1].Length - l[k].Length
			if n*n > square || (n+1)*(n+1) <= square || l[k+1].Radius-l[k].Radius != leg.Error {
				t.Errorf("Stations(%v): the leg %d leads to %v", w, k, l[k+1])
			}
		}
	}
}

// target is a box, and what is known of a well that is to hit it.
type target struct {
	low, high [3]int
	want      uint8
}

// targets gives targets around a reach from lo to hi, each with one end on one axis that decides.
func targets(lo, hi [3]int) []target {
	l := []target{{lo, hi, bore.Yes}}
	add := func(axis, low, high int, want uint8) {
		x := target{lo, hi, want}
		x.low[axis], x.high[axis] = low, high
		l = append(l, x)
	}
	for axis := range lo {
		a, b := lo[axis], hi[axis]
		add(axis, a-1, b, bore.Yes)
		add(axis, a, b+1, bore.Yes)
		add(axis, math.MinInt, math.MaxInt, bore.Yes)
		add(axis, math.MinInt, b, bore.Yes)
		add(axis, a, math.MaxInt, bore.Yes)
		add(axis, a+1, b, bore.Maybe)
		add(axis, a, b-1, bore.Maybe)
		add(axis, b, b, bore.Maybe)
		add(axis, a, a, bore.Maybe)
		add(axis, a+2, b-2, bore.Maybe)
		add(axis, b, math.MaxInt, bore.Maybe)
		add(axis, math.MinInt, a, bore.Maybe)
		add(axis, b+1, b+1, bore.No)
		add(axis, a-1, a-1, bore.No)
		add(axis, b+1, math.MaxInt, bore.No)
		add(axis, math.MinInt, a-1, bore.No)
		add(axis, math.MaxInt, math.MaxInt, bore.No)
		add(axis, math.MinInt, math.MinInt, bore.No)
	}
	return l
}

// TestHits: P3.3, each end of the target on each axis.
func TestHits(t *testing.T) {
	for _, w := range []bore.Well{chapterWell(), well(at(-1, -2, -3), leg(-7, 5, 0, 3)), well(at(api.MaxPlace, 0, -api.MaxPlace), leg(1000, 0, 1000, 20), leg(0, 0, 2, 20))} {
		end := stations(t, w)[len(w.Legs)]
		lo, hi := numbers(end.At), numbers(end.At)
		for axis := range lo {
			lo[axis] -= end.Radius
			hi[axis] += end.Radius
		}
		for _, x := range targets(lo, hi) {
			if n, e := bore.Hits(w, point(x.low), point(x.high)); n != x.want || e != api.OK {
				t.Errorf("Hits(%v, %v, %v): %d, %v", w, x.low, x.high, n, e)
			}
		}
	}
	sure := well(at(0, 0, 0), leg(3, 4, 5, 0))
	through := well(at(0, 0, 0), leg(0, 0, 50, 0), leg(0, 0, 50, 0))
	for _, c := range []struct {
		w         bore.Well
		low, high bore.Point
		want      uint8
	}{
		{sure, at(3, 4, 5), at(3, 4, 5), bore.Yes},
		{sure, at(3, 4, 5), at(9, 9, 9), bore.Yes},
		{sure, at(0, 0, 0), at(3, 4, 5), bore.Yes},
		{sure, at(3, 4, 6), at(3, 4, 6), bore.No},
		{through, at(-1, -1, 40), at(1, 1, 60), bore.No}, // it goes through, and ends behind
		{through, at(-1, -1, 100), at(1, 1, 100), bore.Yes},
		{chapterWell(), at(386, 0, 0), at(400, 424, 999), bore.No}, // No on one axis, Maybe on another one
		{chapterWell(), at(0, 0, 0), at(384, 394, 999), bore.No},
	} {
		if n, e := bore.Hits(c.w, c.low, c.high); n != c.want || e != api.OK {
			t.Errorf("Hits(%v, %v, %v): %d, %v", c.w, c.low, c.high, n, e)
		}
	}
}

// TestHitsHolds: P3.10, for ends of true courses.
func TestHitsHolds(t *testing.T) {
	d := &dice{state: 310}
	met := map[uint8]int{}
	for range 3000 {
		w := d.well(3, 40)
		end := numbers(stations(t, w)[len(w.Legs)].At)
		low, high := end, end
		for axis := range end {
			low[axis] -= d.roll(-20, 80)
			high[axis] = max(low[axis], high[axis]+d.roll(-20, 80))
		}
		hit, e := bore.Hits(w, point(low), point(high))
		if e != api.OK {
			t.Fatalf("Hits(%v, %v, %v): %v", w, low, high, e)
		}
		met[hit]++
		for range 20 {
			course := d.trueCourse(w)
			in := true
			for axis, n := range numbers(course[len(course)-1]) {
				in = in && low[axis] <= n && n <= high[axis]
			}
			if hit == bore.Yes && !in || hit == bore.No && in {
				t.Errorf("Hits(%v, %v, %v): %d, and %v", w, low, high, hit, course)
			}
		}
	}
	if met[bore.No] < 300 || met[bore.Maybe] < 300 || met[bore.Yes] < 300 {
		t.Errorf("too few of a kind: %v", met)
	}
}

// TestSidetrack: P3.4, all legs, some, and none of both.
func TestSidetrack(t *testing.T) {
	a, b, c := leg(0, 0, 300, 5), leg(120, 160, 400, 10), leg(-1, 0, 0, 20)
	head := chapterWell().Head
	for _, x := range []struct {
		k    int
		legs []bore.Leg
		want []bore.Leg
	}{
		{0, []bore.Leg{c}, []bore.Leg{c}},
		{1, []bore.Leg{c}, []bore.Leg{a, c}},
		{2, []bore.Leg{c}, []bore.Leg{a, b, c}},
		{1, nil, []bore.Leg{a}},
		{1, []bore.Leg{}, []bore.Leg{a}},
		{2, nil, []bore.Leg{a, b}},
		{1, []bore.Leg{c, b, c}, []bore.Leg{a, c, b, c}},
		{2, slices.Repeat([]bore.Leg{c}, api.MaxLegs-2), append([]bore.Leg{a, b}, slices.Repeat([]bore.Leg{c}, api.MaxLegs-2)...)},
		{0, slices.Repeat([]bore.Leg{c}, api.MaxLegs), slices.Repeat([]bore.Leg{c}, api.MaxLegs)},
	} {
		if w, e := bore.Sidetrack(chapterWell(), x.k, x.legs); !sameWell(w, well(head, x.want...)) || e != api.OK {
			t.Errorf("Sidetrack(%d, %v): %v, %v", x.k, x.legs, w, e)
		}
	}
	for k, count := range []int{api.MaxLegs + 1, api.MaxLegs, api.MaxLegs - 1} {
		if w, e := bore.Sidetrack(chapterWell(), k, slices.Repeat([]bore.Leg{c}, count)); !sameWell(w, bore.Well{}) || e != api.ErrArg {
			t.Errorf("Sidetrack at %d to %d legs: %v, %v", k, count, w, e)
		}
	}
}

// TestSidetrackStations: P3.10, the first stations stay.
func TestSidetrackStations(t *testing.T) {
	d := &dice{state: 34}
	for range 500 {
		w, other := d.well(6, 300), d.well(6, 300)
		k := d.roll(0, len(w.Legs))
		side, e := bore.Sidetrack(w, k, other.Legs)
		if e != api.OK || !slices.Equal(side.Legs[k:], other.Legs) || !slices.Equal(stations(t, side)[:k+1], stations(t, w)[:k+1]) {
			t.Errorf("Sidetrack(%v, %d, %v): %v, %v", w, k, other.Legs, side, e)
		}
	}
}
