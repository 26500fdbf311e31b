package field_test

import (
	"math"
	"slices"
	"testing"

	"fumarole/api"
	"fumarole/field"
)

// leaves gives how many models a reading of the probe leaves.
func leaves(f field.Field, models []field.Model, p field.Probe, reading int) int {
	n := 0
	for _, m := range models {
		sum := sumOf(f, m, p.Kind, p.Blocks, p.Weights)
		if sum-p.Error <= reading && reading <= sum+p.Error {
			n++
		}
	}
	return n
}

// worstOf tries all readings that leave a model.
func worstOf(f field.Field, models []field.Model, p field.Probe) (worst, reading int) {
	lo, hi := math.MaxInt, math.MinInt
	for _, m := range models {
		sum := sumOf(f, m, p.Kind, p.Blocks, p.Weights)
		lo, hi = min(lo, sum-p.Error), max(hi, sum+p.Error)
	}
	for r := lo; r <= hi; r++ {
		if n := leaves(f, models, p, r); n > worst {
			worst, reading = n, r
		}
	}
	return worst, reading
}

// line gives a field of one block, with a model for each value, and the probe of it.
func line(off int, values ...int) (field.Field, []field.Model, field.Probe) {
	var models []field.Model
	for i, name := range names(len(values)) {
		models = append(models, model(name, values[i]))
	}
	return field.Field{X: 1, Y: 1, Z: 1, Kinds: 1}, models, field.Probe{Blocks: []int{0}, Weights: []int{1}, Error: off}
}

// TestWorst: P2.6, models in clusters, and of several readings the least one.
func TestWorst(t *testing.T) {
	for _, c := range []struct {
		off            int
		values         []int
		worst, reading int
	}{
		{0, []int{5}, 1, 5},
		{3, []int{5}, 1, 2},
		{3, []int{-5}, 1, -8},
		{0, []int{5, 3}, 1, 3},
		{0, []int{5, 3, 5}, 2, 5},
		{0, []int{5, 3, 5, 3}, 2, 3},
		{1, []int{3, 5}, 2, 4},
		{1, []int{3, 6}, 1, 2},
		{1, []int{3, 6, 8, 10}, 2, 7},
		{2, []int{10, 8, 6, 3}, 3, 8},
		{2, []int{0, 5, 9}, 2, 7},
		{100, []int{0, 50, 100, -100}, 4, 0},
		{api.MaxSum, []int{0, 7}, 2, 7 - api.MaxSum},
		{api.MaxSum, []int{-7, 7}, 2, 7 - api.MaxSum},
	} {
		f, models, p := line(c.off, c.values...)
		if n, r, e := field.Worst(f, models, p); n != c.worst || r != c.reading || e != api.OK {
			t.Errorf("Worst of %v with the error %d: %d, %d, %v", c.values, c.off, n, r, e)
		}
	}
}

// TestWorstAny: P2.6 and P2.13, no reading leaves more, and no lesser one as many.
func TestWorstAny(t *testing.T) {
	d := &dice{state: 6}
	for range 1000 {
		f := d.field(8)
		models := d.models(f, d.roll(1, 10), 9)
		p := d.probes(f, 1, 20)[0]
		worst, reading := worstOf(f, models, p)
		if n, r, e := field.Worst(f, models, p); n != worst || r != reading || e != api.OK {
			t.Errorf("Worst(%v, %v, %v): %d, %d, %v, not %d, %d", f, models, p, n, r, e, worst, reading)
		}
	}
}

// TestBestAny: P2.6 and P2.13, Best, and ProveBest of what it returns and of what is beside it.
func TestBestAny(t *testing.T) {
	d := &dice{state: 61}
	firsts := 0
	for range 1000 {
		f := d.field(8)
		models := d.models(f, d.roll(1, 8), 6)
		probes := d.probes(f, d.roll(1, 5), 15)
		best, worst := 0, 0
		var all, readings []int
		for _, p := range probes {
			n, r := worstOf(f, models, p)
			all, readings = append(all, n), append(readings, r)
		}
		worst = slices.Min(all)
		best = slices.Index(all, worst)
		if slices.Contains(all[best+1:], worst) {
			firsts++
		}
		b, w, l, e := field.Best(f, models, probes)
		if b != best || w != worst || !slices.Equal(l, readings) || e != api.OK {
			t.Errorf("Best(%v, %v, %v): %d, %d, %v, %v, not %d, %d, %v", f, models, probes, b, w, l, e, best, worst, readings)
		}
		if !field.ProveBest(f, models, probes, best, worst, readings) {
			t.Errorf("ProveBest(%v, %v, %v) refuses %d, %d, %v", f, models, probes, best, worst, readings)
		}
		for b := -1; b <= len(probes); b++ {
			for w := -1; w <= len(models)+1; w++ {
				if field.ProveBest(f, models, probes, b, w, readings) != (b == best && w == worst) {
					t.Errorf("ProveBest(%v, %v, %v, %d, %d, %v), and the best is %d, %d", f, models, probes, b, w, readings, best, worst)
				}
			}
		}
	}
	if firsts < 100 {
		t.Errorf("too few lists with several best probes: %d", firsts)
	}
}

// TestProveBestReadings: P2.6, any readings that leave enough models are a proof.
func TestProveBestReadings(t *testing.T) {
	d := &dice{state: 62}
	met := map[bool]int{}
	for range 3000 {
		f := d.field(4)
		models := d.models(f, d.roll(1, 6), 4)
		probes := d.probes(f, d.roll(1, 3), 12)
		best, worst, readings, _ := field.Best(f, models, probes)
		for i := range readings {
			readings[i] += d.roll(0, 6)
		}
		want := true
		for i, p := range probes {
			need := worst
			if i < best {
				need++
			}
			want = want && leaves(f, models, p, readings[i]) >= need
		}
		met[want]++
		if field.ProveBest(f, models, probes, best, worst, readings) != want {
			t.Errorf("ProveBest(%v, %v, %v, %d, %d, %v), not %v", f, models, probes, best, worst, readings, want)
		}
	}
	if met[true] < 300 || met[false] < 300 {
		t.Errorf("too few of a kind: %v", met)
	}
}

// TestProveBestRefuses: P2.6, what is no proof, each by one thing.
func TestProveBestRefuses(t *testing.T) {
	in := goodInput()
	prove := func(best, worst int, readings ...int) bool {
		return field.ProveBest(in.Field, in.models, in.probes, best, worst, readings)
	}
	if !prove(1, 1, 36, 49) || !prove(1, 1, 44, 49) || !prove(1, 1, 40, 61) {
		t.Errorf("ProveBest refuses a proof")
	}
	for what, proved := range map[string]bool{
		"a reading ahead of best that leaves as many":  prove(1, 1, 50, 49),
		"a reading ahead of best that leaves none":     prove(1, 1, 35, 49),
		"a reading of best that leaves none":           prove(1, 1, 36, 48),
		"no readings":                                  prove(1, 1),
		"a reading less":                               prove(1, 1, 36),
		"a reading more":                               prove(1, 1, 36, 49, 49),
		"another probe":                                prove(0, 2, 36, 49),
		"another probe, and its worst less":            prove(0, 1, 36, 49),
		"best below 0":                                 prove(-1, 1, 36, 49),
		"best beyond the probes":                       prove(2, 1, 36, 49),
		"best beyond the probes, and as many readings": prove(2, 1, 36, 49, 49),
		"worst too great":                              prove(1, 2, 36, 49),
		"worst too small":                              prove(1, 0, 36, 49),
	} {
		if proved {
			t.Errorf("ProveBest accepts %s", what)
		}
	}
	for _, n := range farNumbers {
		if prove(n, 1, 36, 49) || prove(1, n, 36, 49) || prove(1, 1, n, 49) || prove(1, 1, 36, n) || prove(0, n, n, n) {
			t.Errorf("ProveBest accepts something with %d", n)
		}
	}
	in.probes = slices.Repeat(in.probes[1:], 2)
	if !prove(0, 1, 49, 49) || prove(1, 1, 49, 49) {
		t.Errorf("ProveBest of equal probes does not accept just the first one")
	}
	in.probes[0].Error = api.MaxSum
	if prove(1, 1, math.MinInt, 49) || prove(1, 1, math.MaxInt, 49) {
		t.Errorf("ProveBest accepts a far reading with a great error")
	}
	if !prove(1, 1, api.MaxSum, 49) {
		t.Errorf("ProveBest refuses a reading within a great error")
	}
}
