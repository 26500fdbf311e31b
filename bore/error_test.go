package bore_test

import (
	"slices"
	"strconv"
	"testing"

	"fumarole/api"
	"fumarole/bore"
)

// notAlone stands for an error beside which another result is not zero.
const notAlone api.Errno = -1

// alone gives the error, if R2 holds for it.
func alone(e api.Errno, zero bool) api.Errno {
	if e != api.OK && !zero {
		return notAlone
	}
	return e
}

// choice is what the calls with a well are given besides it; the one with the other well has it too.
type choice struct {
	size, gap, k int
	low, high    bore.Point
	legs         []bore.Leg
}

func goodChoice() choice {
	return choice{size: 100, k: 1, high: at(1, 1, 1), legs: []bore.Leg{leg(0, 0, 7, 0)}}
}

// badChoice has an error for each call.
func badChoice() choice { return choice{size: 99, gap: -1, k: -1, low: at(2, 0, 0)} }

// wellCalls are those that take a well.
func wellCalls() map[string]func(bore.Well, choice) api.Errno {
	return map[string]func(bore.Well, choice) api.Errno{
		"CheckWell": func(w bore.Well, c choice) api.Errno { return bore.CheckWell(w) },
		"Stations": func(w bore.Well, c choice) api.Errno {
			l, e := bore.Stations(w)
			return alone(e, len(l) == 0)
		},
		"Crossed": func(w bore.Well, c choice) api.Errno {
			may, sure, e := bore.Crossed(w, c.size)
			return alone(e, len(may) == 0 && len(sure) == 0)
		},
		"Near, the first well": func(w bore.Well, c choice) api.Errno {
			is, e := bore.Near(w, chapterWell(), c.gap)
			return alone(e, !is)
		},
		"Near, the second well": func(w bore.Well, c choice) api.Errno {
			is, e := bore.Near(chapterWell(), w, c.gap)
			return alone(e, !is)
		},
		"Near, both wells": func(w bore.Well, c choice) api.Errno {
			is, e := bore.Near(w, w, c.gap)
			return alone(e, !is)
		},
		"Hits": func(w bore.Well, c choice) api.Errno {
			n, e := bore.Hits(w, c.low, c.high)
			return alone(e, n == 0)
		},
		"Sidetrack": func(w bore.Well, c choice) api.Errno {
			side, e := bore.Sidetrack(w, c.k, c.legs)
			return alone(e, sameWell(side, bore.Well{}))
		},
	}
}

// edgeWells are wells that are just valid.
func edgeWells() map[string]bore.Well {
	return map[string]bore.Well{
		"the least head":      well(at(-api.MaxPlace, -api.MaxPlace, -api.MaxPlace), leg(0, 0, 1, 0)),
		"the greatest head":   well(at(api.MaxPlace, api.MaxPlace, api.MaxPlace), leg(0, 0, 1, 0)),
		"many legs":           well(at(0, 0, 0), slices.Repeat([]bore.Leg{leg(1, 2, 3, 4)}, api.MaxLegs)...),
		"the greatest leg":    well(at(0, 0, 0), leg(api.MaxLeg, api.MaxLeg, api.MaxLeg, api.MaxError)),
		"the least leg":       well(at(0, 0, 0), leg(-api.MaxLeg, -api.MaxLeg, 0, 0)),
		"only X":              well(at(0, 0, 0), leg(1, 0, 0, 0)),
		"only Y":              well(at(0, 0, 0), leg(0, -1, 0, 0)),
		"only Z":              well(at(0, 0, 0), leg(0, 0, 1, 0)),
		"a leg back":          well(at(0, 0, 0), leg(1, 1, 0, 0), leg(-1, -1, 0, 0)),
		"far beyond the head": well(at(api.MaxPlace, 0, 0), leg(api.MaxLeg, 0, 0, 0), leg(api.MaxLeg, 0, 0, 0)),
	}
}

// badWells are wells that are not valid.
func badWells() map[string]bore.Well {
	all := map[string]bore.Well{
		"nothing":          {},
		"no legs":          {Head: at(1, 2, 3), Legs: []bore.Leg{}},
		"a leg too many":   well(at(0, 0, 0), slices.Repeat([]bore.Leg{leg(1, 2, 3, 4)}, api.MaxLegs+1)...),
		"an empty leg":     well(at(0, 0, 0), leg(0, 0, 0, 0)),
		"an empty leg off": well(at(0, 0, 0), leg(0, 0, 0, 1)),
		"upwards":          well(at(0, 0, 0), leg(5, 5, -1, 0)),
	}
	for axis := range 3 {
		for _, n := range append([]int{-api.MaxPlace - 1, api.MaxPlace + 1}, farNumbers...) {
			var head [3]int
			head[axis] = n
			all["a head "+strconv.Itoa(axis)+" "+strconv.Itoa(n)] = well(point(head), leg(0, 0, 1, 0))
		}
		for _, n := range append([]int{-api.MaxLeg - 1, api.MaxLeg + 1}, farNumbers...) {
			by := [3]int{1, 1, 1}
			by[axis] = n
			all["a leg "+strconv.Itoa(axis)+" "+strconv.Itoa(n)] = well(at(0, 0, 0), bore.Leg{By: point(by)})
		}
	}
	for _, n := range append([]int{-1, api.MaxError + 1}, farNumbers...) {
		all["an error "+strconv.Itoa(n)] = well(at(0, 0, 0), leg(0, 0, 1, n))
	}
	for name, w := range all {
		if len(w.Legs) == 1 { // the same leg behind good ones, and ahead of one
			all[name+", the last one"] = well(w.Head, leg(1, 2, 3, 4), leg(1, 2, 3, 4), w.Legs[0])
			all[name+", the first one"] = well(w.Head, w.Legs[0], leg(1, 2, 3, 4))
		}
	}
	return all
}

// TestWellErrors: P3.1, a well that is not valid is the first error of each call with it.
func TestWellErrors(t *testing.T) {
	for name, c := range wellCalls() {
		for what, w := range edgeWells() {
			if e := c(w, goodChoice()); e != api.OK {
				t.Errorf("%s, %s: %v", name, what, e)
			}
		}
		for what, w := range badWells() {
			for _, other := range []choice{goodChoice(), badChoice()} {
				if e := c(w, other); e != api.ErrArg {
					t.Errorf("%s, %s: %v", name, what, e)
				}
			}
		}
	}
}

// TestChoiceErrors: the errors of the calls themselves, with a good well.
func TestChoiceErrors(t *testing.T) {
	calls := wellCalls()
	expect := func(name string, c choice, want api.Errno) {
		t.Helper()
		if e := calls[name](chapterWell(), c); e != want {
			t.Errorf("%s of %v: %v, not %v", name, c, e, want)
		}
	}
	for _, n := range append([]int{-400, -1, 0, 1, api.MinSize - 1, api.MaxSize + 1}, farNumbers...) {
		expect("Crossed", choice{size: n}, api.ErrRange)
	}
	expect("Crossed", choice{size: api.MinSize}, api.OK)
	expect("Crossed", choice{size: api.MaxSize}, api.OK)
	for _, n := range append([]int{-1, api.MaxGap + 1}, farNumbers...) {
		expect("Near, both wells", choice{gap: n}, api.ErrRange)
	}
	expect("Near, both wells", choice{gap: 0}, api.OK)
	expect("Near, both wells", choice{gap: api.MaxGap}, api.OK)
	for _, n := range append([]int{-1, 3}, farNumbers...) {
		expect("Sidetrack", choice{k: n, legs: []bore.Leg{leg(0, 0, 1, 0)}}, api.ErrRange)
		expect("Sidetrack", choice{k: n, legs: []bore.Leg{leg(0, 0, 0, 0)}}, api.ErrRange)
	}
	expect("Sidetrack", choice{k: 0}, api.ErrArg)
	expect("Sidetrack", choice{k: 1}, api.OK)
	for name, w := range badWells() {
		if w.Head == at(0, 0, 0) && len(w.Legs) > 0 {
			if e := calls["Sidetrack"](chapterWell(), choice{k: 1, legs: w.Legs}); e != api.ErrArg {
				t.Errorf("Sidetrack to %s: %v", name, e)
			}
		}
	}
	for _, c := range []choice{
		{low: at(1, 0, 0), high: at(0, 9, 9)}, {low: at(0, 1, 0), high: at(9, 0, 9)}, {low: at(0, 0, 1), high: at(9, 9, 0)},
		{low: at(farNumbers[7], 0, 0), high: at(farNumbers[0], 9, 9)}, {low: at(-5, -5, -5), high: at(-6, -6, -6)},
		{low: at(9999, 0, 1), high: at(9999, 9, 0)}, // the well does not hit it whatever Z is
	} {
		expect("Hits", c, api.ErrArg)
	}
}
