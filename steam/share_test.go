package steam_test

import (
	"slices"
	"testing"

	"fumarole/api"
	"fumarole/steam"
)

// masses gives the masses of the streams.
func masses(l []steam.Stream) []int {
	var m []int
	for _, s := range l {
		m = append(m, s.Mass)
	}
	return m
}

// TestShareMasses: P1.2, who gets what is left of the mass.
func TestShareMasses(t *testing.T) {
	for _, c := range []struct {
		mass          int
		weights, want []int
	}{
		{10, []int{1}, []int{10}},
		{10, []int{api.MaxShare}, []int{10}},
		{10, []int{1, 1, 1}, []int{4, 3, 3}}, // of several, the first one
		{11, []int{1, 1, 1}, []int{4, 4, 3}},
		{12, []int{1, 1, 1}, []int{4, 4, 4}},
		{10, []int{1, 2, 4}, []int{1, 3, 6}},            // remainders 3, 6, 5 of 7
		{9, []int{1, 2, 4}, []int{1, 3, 5}},             // remainders 2, 4, 1 of 7
		{12, []int{4, 2, 1}, []int{7, 3, 2}},            // remainders 6, 3, 5 of 7: the last one before the one in the middle
		{5, []int{0, 1, 0, 1, 0}, []int{0, 3, 0, 2, 0}}, // nothing for a weight of 0
		{1, []int{1, 999, 1000}, []int{0, 0, 1}},
		{1, []int{5, 5}, []int{1, 0}},
		{0, []int{1, 2}, []int{0, 0}},
		{2, slices.Repeat([]int{7}, api.MaxShares), append([]int{1, 1}, make([]int, api.MaxShares-2)...)},
		{api.MaxMass, []int{1000, 1000, 1000}, []int{333334, 333333, 333333}},
	} {
		l, _, e := steam.Share(steam.Stream{Mass: c.mass}, c.weights)
		if !slices.Equal(masses(l), c.want) || e != api.OK {
			t.Errorf("Share of %d by %v: %v, %v", c.mass, c.weights, l, e)
		}
	}
}

// TestShareNumbers: P1.2, each number of a part is rounded down, and the rest is the loss.
func TestShareNumbers(t *testing.T) {
	for _, c := range []struct {
		s       steam.Stream
		weights []int
		want    []steam.Stream
		lost    steam.Loss
	}{
		{steam.Stream{Mass: 10, Heat: 1001, Silica: 99, Gas: 7}, []int{1, 1, 1},
			[]steam.Stream{{Mass: 4, Heat: 400, Silica: 39, Gas: 2}, {Mass: 3, Heat: 300, Silica: 29, Gas: 2}, {Mass: 3, Heat: 300, Silica: 29, Gas: 2}},
			steam.Loss{Heat: 1, Silica: 2, Gas: 1}},
		{steam.Stream{Mass: 3, Heat: 5, Silica: 7, Gas: 8}, []int{0, 9},
			[]steam.Stream{{}, {Mass: 3, Heat: 5, Silica: 7, Gas: 8}}, steam.Loss{}},
		// A stream without mass has no heat and no silica, and its gas is lost.
		{steam.Stream{Gas: 8}, []int{3, 1}, []steam.Stream{{}, {}}, steam.Loss{Gas: 8}},
		{steam.Stream{}, []int{3}, []steam.Stream{{}}, steam.Loss{}},
		// Parts without mass get no gas either.
		{steam.Stream{Mass: 1, Heat: 4000, Silica: 10000, Gas: api.MaxGas}, []int{1, 1, 1},
			[]steam.Stream{{Mass: 1, Heat: 4000, Silica: 10000, Gas: api.MaxGas}, {}, {}}, steam.Loss{}},
		{steam.Stream{Mass: api.MaxMass, Heat: api.MaxEnthalpy * api.MaxMass, Silica: api.MaxGrain * api.MaxMass, Gas: api.MaxGas}, []int{1, 2},
			[]steam.Stream{{Mass: 333333, Heat: 1333332000, Silica: 3333330000, Gas: 333333000}, {Mass: 666667, Heat: 2666668000, Silica: 6666670000, Gas: 666667000}}, steam.Loss{}},
	} {
		l, lost, e := steam.Share(c.s, c.weights)
		if !slices.Equal(l, c.want) || lost != c.lost || e != api.OK {
			t.Errorf("Share(%v, %v): %v, %v, %v", c.s, c.weights, l, lost, e)
		}
	}
}

// TestShareWeights: the weights that Share does not take, and those that it just takes.
func TestShareWeights(t *testing.T) {
	for _, w := range [][]int{nil, {}, {0}, {0, 0, 0}, {1, -1}, {-1, 5}, {5, -1}, {api.MaxShare + 1}, {1, api.MaxShare + 1, 1}, slices.Repeat([]int{1}, api.MaxShares+1), {1, 1 << 62, 1 << 62}, {-1 << 63}} {
		if l, lost, e := steam.Share(chapterStream(), w); len(l) != 0 || lost != (steam.Loss{}) || e != api.ErrArg {
			t.Errorf("Share by %v: %v, %v, %v", w, l, lost, e)
		}
	}
	for _, w := range [][]int{{1}, {0, 1}, {api.MaxShare}, slices.Repeat([]int{api.MaxShare}, api.MaxShares)} {
		if l, _, e := steam.Share(chapterStream(), w); len(l) != len(w) || e != api.OK {
			t.Errorf("Share by %v: %v, %v", w, l, e)
		}
	}
}

// TestShareFair: P1.8, of any streams.
func TestShareFair(t *testing.T) {
	d := &dice{state: 8}
	for i := range 3000 {
		s, w := d.stream(api.MaxMass), d.weights()
		if i%3 == 0 {
			s = d.stream(30)
		}
		l, lost, e := steam.Share(s, w)
		if e != api.OK || len(l) != len(w) {
			t.Fatalf("Share(%v, %v): %v, %v", s, w, l, e)
		}
		if add(append(l, steam.Stream{Heat: lost.Heat, Silica: lost.Silica, Gas: lost.Gas})...) != s {
			t.Errorf("Share(%v, %v): %v and %v do not add up", s, w, l, lost)
		}
		if n := len(l); s.Mass > 0 && !(0 <= lost.Heat && lost.Heat < n && 0 <= lost.Silica && lost.Silica < n && 0 <= lost.Gas && lost.Gas < n) {
			t.Errorf("Share(%v, %v): lost %v", s, w, lost)
		}
		whole := 0
		for _, x := range w {
			whole += x
		}
		for i, p := range l {
			if far := p.Mass*whole - s.Mass*w[i]; far <= -whole || far >= whole {
				t.Errorf("Share(%v, %v): the part %d has %v", s, w, i, p)
			}
			if steam.CheckStream(p) != api.OK {
				t.Errorf("Share(%v, %v): the part %d is not valid: %v", s, w, i, p)
			}
		}
		if want := sharedMasses(s.Mass, w); !slices.Equal(masses(l), want) {
			t.Errorf("Share(%v, %v): %v, not %v", s, w, masses(l), want)
		}
	}
}

// sharedMasses shares a mass as the chapter says, one kilogram after the other.
func sharedMasses(mass int, weights []int) []int {
	whole, left := 0, mass
	for _, w := range weights {
		whole += w
	}
	m, done := make([]int, len(weights)), make([]bool, len(weights))
	for i, w := range weights {
		m[i] = mass * w / whole
		left -= m[i]
	}
	for ; left > 0; left-- {
		best := -1
		for i, w := range weights {
			if !done[i] && (best < 0 || mass*w%whole > mass*weights[best]%whole) {
				best = i
			}
		}
		m[best]++
		done[best] = true
	}
	return m
}
