package plant_test

import (
	"slices"
	"testing"

	"fumarole/api"
	"fumarole/plant"
)

// shared tells if what Share returns is no best sharing with prices that show it; it gives the masses and the work.
func shared(t *testing.T, heads []int, units []plant.Unit) ([]int, int) {
	t.Helper()
	masses, work, prices, e := plant.Share(heads, units)
	if e != api.OK || !isSharing(heads, units, masses) || workOf(units, masses) != work {
		t.Fatalf("Share(%v, %v): %v, %d, %v", heads, units, masses, work, e)
	}
	if !arePrices(heads, prices) || trueBound(heads, units, prices) != work {
		t.Fatalf("Share(%v, %v): the prices %v, for %d", heads, units, prices, work)
	}
	if n, e := plant.Bound(heads, units, prices); n != work || e != api.OK {
		t.Fatalf("Bound(%v, %v, %v): %d, %v", heads, units, prices, n, e)
	}
	if !plant.ProveShare(heads, units, masses, work, prices) {
		t.Fatalf("ProveShare(%v, %v, %v, %d, %v)", heads, units, masses, work, prices)
	}
	return masses, work
}

// TestShare: P7.4, where there is only one best sharing.
func TestShare(t *testing.T) {
	for name, c := range map[string]struct {
		heads  []int
		units  []plant.Unit
		masses []int
		work   int
	}{
		"less steam than room":         {[]int{7}, []plant.Unit{unit(0, 10, 5)}, []int{7}, 35},
		"less room than steam":         {[]int{17}, []plant.Unit{unit(0, 10, 5)}, []int{10}, 50},
		"as much":                      {[]int{10}, []plant.Unit{unit(0, 10, 5)}, []int{10}, 50},
		"the better one":               {[]int{10}, []plant.Unit{unit(0, 10, 5), unit(0, 10, 6)}, []int{0, 10}, 60},
		"the better parts":             {[]int{10}, []plant.Unit{unit(0, 4, 9, 9, 2), unit(0, 3, 8, 9, 5)}, []int{4, 6}, 75},
		"steam from above":             {[]int{0, 10}, []plant.Unit{unit(0, 10, 5)}, []int{10}, 50},
		"no steam from below":          {[]int{10, 0}, []plant.Unit{unit(1, 10, 5)}, []int{0}, 0},
		"the lower one steps back":     {[]int{5, 10}, []plant.Unit{unit(0, 15, 5), unit(1, 15, 4)}, []int{15, 0}, 75},
		"the higher one goes before":   {[]int{5, 10}, []plant.Unit{unit(0, 15, 4), unit(1, 15, 5)}, []int{5, 10}, 70},
		"what the higher one leaves":   {[]int{5, 10}, []plant.Unit{unit(0, 15, 4), unit(1, 6, 5)}, []int{9, 6}, 66},
		"three heads":                  {[]int{10, 0, 20}, []plant.Unit{unit(2, 15, 90, 15, 50), unit(1, 10, 70), unit(0, 40, 60)}, []int{15, 5, 10}, 2300},
		"steam in the middle":          {[]int{0, 10, 0}, []plant.Unit{unit(2, 15, 90), unit(1, 6, 70), unit(0, 40, 60)}, []int{0, 6, 4}, 660},
		"a head that no one uses":      {[]int{5, 0, 20}, []plant.Unit{unit(1, 30, 7), unit(0, 30, 6)}, []int{20, 5}, 170},
		"heads above the units":        {[]int{1, 2, 3, 4, 5, 6}, []plant.Unit{unit(0, 30, 7)}, []int{21}, 147},
		"a unit at each head":          {[]int{1, 2, 3}, []plant.Unit{unit(0, 9, 1), unit(1, 9, 2), unit(2, 9, 3)}, []int{1, 2, 3}, 14},
		"a unit at each head, falling": {[]int{1, 2, 3}, []plant.Unit{unit(0, 9, 3), unit(1, 9, 2), unit(2, 9, 1)}, []int{6, 0, 0}, 18},
		"full at two heads":            {[]int{4, 3, 2}, []plant.Unit{unit(2, 9, 8), unit(1, 2, 9), unit(0, 9, 7)}, []int{2, 2, 5}, 69},
		"no steam at all":              {[]int{0, 0}, []plant.Unit{unit(1, 9, api.MaxGain), unit(0, 9, 9)}, []int{0, 0}, 0},
	} {
		masses, work := shared(t, c.heads, c.units)
		if !slices.Equal(masses, c.masses) || work != c.work {
			t.Errorf("Share, %s: %v, %d", name, masses, work)
		}
	}
}

// TestShareOfMost: P7.4, as many heads and units as there may be, with as much steam and as much room.
func TestShareOfMost(t *testing.T) {
	full := slices.Repeat([]int{api.MaxMass}, api.MaxHeads)
	low := plant.Unit{Parts: slices.Repeat([]plant.Part{{Width: api.MaxWidth, Gain: api.MaxGain}}, api.MaxParts)}
	top := low
	top.Inlet = api.MaxHeads - 1
	for what, c := range map[string]struct {
		units []plant.Unit
		work  int
	}{
		"all of them low": {slices.Repeat([]plant.Unit{low}, api.MaxUnits), 6000000000},
		"all of them top": {slices.Repeat([]plant.Unit{top}, api.MaxUnits), 1000000000},
		"most of them":    {append(slices.Repeat([]plant.Unit{low}, api.MaxUnits-3), top, top, top), 6000000000},
		"two of them top": {append(slices.Repeat([]plant.Unit{unit(0, 1, 3)}, api.MaxUnits-2), top, top), 1000000024},
		"room for less":   {slices.Repeat([]plant.Unit{low}, 7), 5600000000},
	} {
		if masses, work := shared(t, full, c.units); work != c.work {
			t.Errorf("Share, %s: %v, %d", what, masses, work)
		}
	}
}

// TestShareOfGainless: P7.4, parts that gain nothing make no work, whatever they take.
func TestShareOfGainless(t *testing.T) {
	if _, work := shared(t, []int{10}, []plant.Unit{unit(0, 5, 0), unit(0, 5, 0, 5, 0)}); work != 0 {
		t.Errorf("Share of units that gain nothing: %d", work)
	}
	masses, work := shared(t, []int{5, 10}, []plant.Unit{unit(0, 15, 4), unit(1, 6, 5, 9, 0)})
	if work != 66 || masses[0] != 9 {
		t.Errorf("Share with parts that gain nothing: %v, %d", masses, work)
	}
}

// sharings gives all sharings.
func sharings(heads []int, units []plant.Unit) [][]int {
	all := [][]int{nil}
	for _, u := range units {
		var longer [][]int
		for _, masses := range all {
			for m := range capacity(u) + 1 {
				longer = append(longer, append(slices.Clone(masses), m))
			}
		}
		all = longer
	}
	return slices.DeleteFunc(all, func(masses []int) bool { return !isSharing(heads, units, masses) })
}

// TestShareCounted: P7.4, P7.5, P7.10, against all sharings of small stations: those that are best are accepted, and no others.
func TestShareCounted(t *testing.T) {
	d := &dice{seed: 74}
	for range 1500 {
		heads := d.amounts(d.roll(1, 4), d.pick(2, 6))
		units := d.units(len(heads), d.roll(1, 3), 3, 2, d.pick(2, 9, 1000))
		masses, work := shared(t, heads, units)
		_, _, prices, _ := plant.Share(heads, units)
		best := 0
		for _, l := range sharings(heads, units) {
			n := workOf(units, l)
			best = max(best, n)
			if proved := plant.ProveShare(heads, units, l, n, prices); proved != (n == work) {
				t.Errorf("ProveShare(%v, %v, %v, %d, %v): %v", heads, units, l, n, prices, proved)
			}
		}
		if best != work {
			t.Errorf("Share(%v, %v): %v, %d, not %d", heads, units, masses, work, best)
		}
	}
}

// TestShareAny: P7.4, P7.10, large stations: no sharing has more work, and no bound is less.
func TestShareAny(t *testing.T) {
	d := &dice{seed: 710}
	for range 2000 {
		heads := d.amounts(d.roll(1, api.MaxHeads), d.pick(1000, 200000, api.MaxMass))
		gain := d.pick(5, 100, api.MaxGain)
		units := d.units(len(heads), d.roll(1, api.MaxUnits), api.MaxParts, d.pick(300, api.MaxWidth), gain)
		_, work := shared(t, heads, units)
		for range 5 {
			if l := d.sharing(heads, units); workOf(units, l) > work {
				t.Errorf("Share(%v, %v): %d, and %v has %d", heads, units, work, l, workOf(units, l))
			}
			prices := d.prices(len(heads), gain)
			n, e := plant.Bound(heads, units, prices)
			if n != trueBound(heads, units, prices) || n < work || e != api.OK {
				t.Errorf("Bound(%v, %v, %v): %d, %v, with the work %d", heads, units, prices, n, e, work)
			}
		}
		// More steam at a head, and steam that moves up.
		more, k := slices.Clone(heads), d.roll(0, len(heads)-1)
		more[k] += d.roll(0, api.MaxMass-more[k])
		if _, n := shared(t, more, units); n < work {
			t.Errorf("Share(%v, %v): %d, and %d with more steam", heads, units, work, n)
		}
		up, to := slices.Clone(heads), d.roll(k, len(heads)-1)
		moved := d.roll(0, min(up[k], api.MaxMass-up[to]))
		up[k] -= moved
		up[to] += moved
		if _, n := shared(t, up, units); n < work {
			t.Errorf("Share(%v, %v): %d, and %d with steam that moved up", heads, units, work, n)
		}
	}
}

// TestBound: P7.4, by the chapter's words.
func TestBound(t *testing.T) {
	heads := []int{10, 0, 20}
	units := []plant.Unit{unit(2, 15, 90, 15, 50), unit(1, 10, 70), unit(0, 40, 60)}
	for _, c := range []struct {
		prices []int
		want   int
	}{
		{[]int{0, 0, 0}, 15*90 + 15*50 + 10*70 + 40*60},
		{[]int{60, 10, 0}, 30*60 + 20*10 + 15*20},
		{[]int{60, 10, 20}, 30*60 + 20*10 + 20*20},
		{[]int{59, 0, 0}, 30*59 + 15*31 + 10*11 + 40},
		{[]int{0, 70, 0}, 20*70 + 15*20 + 40*60},
		{[]int{0, 0, 49}, 20*49 + 15*41 + 15 + 10*70 + 40*60},
		{[]int{90, 0, 0}, 30 * 90},
		{[]int{api.MaxGain, api.MaxGain, api.MaxGain}, 70000},
	} {
		if n, e := plant.Bound(heads, units, c.prices); n != c.want || e != api.OK {
			t.Errorf("Bound by %v: %d, %v", c.prices, n, e)
		}
	}
	most := plant.Unit{Inlet: 5, Parts: slices.Repeat([]plant.Part{{Width: api.MaxWidth, Gain: api.MaxGain}}, api.MaxParts)}
	full, units := slices.Repeat([]int{api.MaxMass}, api.MaxHeads), slices.Repeat([]plant.Unit{most}, api.MaxUnits)
	if n, e := plant.Bound(full, units, make([]int, api.MaxHeads)); n != 8000000000 || e != api.OK {
		t.Errorf("Bound without prices: %d, %v", n, e)
	}
	if n, e := plant.Bound(full, units, slices.Repeat([]int{api.MaxGain}, api.MaxHeads)); n != 21000000000 || e != api.OK {
		t.Errorf("Bound by the greatest prices: %d, %v", n, e)
	}
}

// house is heads and units.
type house struct {
	heads []int
	units []plant.Unit
}

// badHouses are heads and units that are not as described.
func badHouses() []house {
	good := unit(0, 10, 5)
	l := []house{
		{nil, nil},
		{nil, []plant.Unit{good}},
		{[]int{1}, nil},
		{make([]int, api.MaxHeads+1), []plant.Unit{good}},
		{make([]int, 1000), []plant.Unit{good}},
		{[]int{1}, slices.Repeat([]plant.Unit{good}, api.MaxUnits+1)},
		{[]int{1}, slices.Repeat([]plant.Unit{good}, 1000)},
		{[]int{1}, []plant.Unit{unit(1, 10, 5)}},
		{[]int{1, 2}, []plant.Unit{good, unit(2, 10, 5)}},
		{[]int{1, 2, 3, 4, 5}, []plant.Unit{unit(5, 10, 5), good}},
	}
	for _, n := range outside(0, api.MaxMass) {
		l = append(l, house{[]int{n}, []plant.Unit{good}}, house{[]int{0, n}, []plant.Unit{good}}, house{[]int{n, 5}, []plant.Unit{good}})
	}
	for _, u := range badUnits() {
		l = append(l, house{[]int{1, 2, 3, 4, 5, 6}, []plant.Unit{u}}, house{[]int{1}, []plant.Unit{good, u}})
	}
	return l
}

// TestShareArguments: heads and units that are not as described.
func TestShareArguments(t *testing.T) {
	for _, h := range badHouses() {
		if masses, work, prices, e := plant.Share(h.heads, h.units); len(masses) > 0 || work != 0 || len(prices) > 0 || e != api.ErrArg {
			t.Errorf("Share(%v): %v, %d, %v, %v", h, masses, work, prices, e)
		}
		if n, e := plant.Bound(h.heads, h.units, make([]int, len(h.heads))); n != 0 || e != api.ErrArg {
			t.Errorf("Bound(%v): %d, %v", h, n, e)
		}
		if n, e := plant.Bound(h.heads, h.units, []int{-1}); n != 0 || e != api.ErrArg {
			t.Errorf("Bound(%v) with a wrong price: %d, %v", h, n, e)
		}
		if plant.ProveShare(h.heads, h.units, make([]int, len(h.units)), 0, make([]int, len(h.heads))) {
			t.Errorf("ProveShare(%v)", h)
		}
	}
	// As many heads and units as there may be, and as much steam.
	shared(t, []int{api.MaxMass, 0, 0, 0, 0, api.MaxMass}, slices.Repeat([]plant.Unit{unit(5, 10, 5)}, api.MaxUnits))
	shared(t, []int{0}, []plant.Unit{unit(0, 1, 0)})
	// A proof of a house that is not as described would be accepted by its numbers alone.
	if plant.ProveShare(make([]int, api.MaxHeads+1), []plant.Unit{unit(0, 1, 0)}, []int{0}, 0, make([]int, api.MaxHeads+1)) {
		t.Errorf("ProveShare of too many heads")
	}
	if plant.ProveShare([]int{0, -1}, []plant.Unit{unit(0, 1, 0)}, []int{0}, 0, []int{0, 0}) {
		t.Errorf("ProveShare of a head below 0")
	}
	if plant.ProveShare([]int{0}, slices.Repeat([]plant.Unit{unit(0, 1, 0)}, api.MaxUnits+1), make([]int, api.MaxUnits+1), 0, []int{0}) {
		t.Errorf("ProveShare of too many units")
	}
}

// TestPrices: prices that are not as described, for Bound and ProveShare.
func TestPrices(t *testing.T) {
	heads, units := []int{10, 0}, []plant.Unit{unit(0, 10, 5), unit(1, 10, 4)}
	for _, prices := range [][]int{{5, 0}, {5, 4}, {5, api.MaxGain}} {
		if n, e := plant.Bound(heads, units, prices); n != 50 || e != api.OK {
			t.Errorf("Bound by %v: %d, %v", prices, n, e)
		}
		if !plant.ProveShare(heads, units, []int{10, 0}, 50, prices) {
			t.Errorf("ProveShare with %v", prices)
		}
	}
	l := [][]int{nil, {5}, {5, 0, 0}, {5, 0, 0, 0, 0, 0, 0, 0}}
	for _, n := range outside(0, api.MaxGain) { // at the head without steam any price would do by the numbers alone
		l = append(l, []int{5, n}, []int{n, 0})
	}
	for _, prices := range l {
		if n, e := plant.Bound(heads, units, prices); n != 0 || e != api.ErrArg {
			t.Errorf("Bound by %v: %d, %v", prices, n, e)
		}
		if plant.ProveShare(heads, units, []int{10, 0}, 50, prices) {
			t.Errorf("ProveShare with %v", prices)
		}
	}
}

// TestProveShare: P7.5, P7.10, any best sharing with any prices that show it, and nothing else.
func TestProveShare(t *testing.T) {
	heads, units := []int{5, 10}, []plant.Unit{unit(0, 8, 6, 8, 4), unit(1, 6, 6, 9, 4), unit(1, 2, 3)}
	// Of 15 kg 14 gain 6, and one 4: in the first unit, or in the second one.
	for what, c := range map[string]struct {
		masses []int
		work   int
		prices []int
		want   bool
	}{
		"a best one":              {[]int{8, 7, 0}, 88, []int{4, 0}, true},
		"another best one":        {[]int{9, 6, 0}, 88, []int{4, 0}, true},
		"no mass for one":         {[]int{8, 7}, 88, []int{4, 0}, false},
		"a mass too many":         {[]int{8, 7, 0, 0}, 88, []int{4, 0}, false},
		"no masses":               {nil, 88, []int{4, 0}, false},
		"less work than there is": {[]int{8, 7, 0}, 87, []int{4, 0}, false},
		"more work than there is": {[]int{8, 7, 0}, 89, []int{4, 0}, false},
		"the work of a bound":     {[]int{8, 7, 0}, 98, []int{4, 1}, false},
		"prices that are too low": {[]int{8, 7, 0}, 88, []int{3, 0}, false},
		"prices that are high":    {[]int{8, 7, 0}, 88, []int{5, 0}, false},
		"prices at another head":  {[]int{8, 7, 0}, 88, []int{0, 4}, false},
		"not the best":            {[]int{8, 6, 1}, 87, []int{4, 0}, false},
		"less than all":           {[]int{8, 6, 0}, 84, []int{4, 0}, false},
		"nothing":                 {[]int{0, 0, 0}, 0, []int{4, 0}, false},
		"nothing, and no prices":  {[]int{0, 0, 0}, 0, []int{0, 0}, false},
		"too much steam":          {[]int{9, 7, 0}, 92, []int{4, 0}, false},
		"below 0, work kept":      {[]int{10, 6, -1}, 89, []int{4, 0}, false},
	} {
		if got := plant.ProveShare(heads, units, c.masses, c.work, c.prices); got != c.want {
			t.Errorf("ProveShare, %s: %v", what, got)
		}
	}
}

// TestProveShareOfNone: P7.5, masses that are no sharing, although their work is that of the best one.
func TestProveShareOfNone(t *testing.T) {
	two := []plant.Unit{unit(0, 20, 6), unit(0, 20, 6)}
	refused := func(what string, heads []int, units []plant.Unit, masses []int, work int, prices ...int) {
		t.Helper()
		if _, best := shared(t, heads, units); best != work {
			t.Errorf("%s: the work %d is not that of the best sharing", what, work)
		}
		if plant.ProveShare(heads, units, masses, work, prices) {
			t.Errorf("ProveShare, %s", what)
		}
	}
	refused("a mass below 0", []int{10}, two, []int{11, -1}, 60, 6)
	refused("a mass below 0 first", []int{10}, two, []int{-1, 11}, 60, 6)
	refused("above the capacity", []int{30}, []plant.Unit{unit(0, 20, 6)}, []int{21}, 120, 0)
	refused("above the capacity of one", []int{50}, two, []int{19, 21}, 240, 0)
	refused("too much at the only head", []int{9}, []plant.Unit{unit(0, 5, 6), unit(0, 5, 0)}, []int{5, 5}, 30, 0)
	refused("too much at the higher head", []int{10, 5}, []plant.Unit{unit(1, 20, 6), unit(0, 20, 6)}, []int{6, 9}, 90, 6, 0)
	refused("too much in the middle", []int{10, 5, 5}, []plant.Unit{unit(2, 5, 6), unit(1, 20, 6), unit(0, 20, 6)}, []int{5, 6, 9}, 120, 6, 0, 0)
	refused("too much at the highest head", []int{10, 5, 5}, []plant.Unit{unit(2, 9, 6), unit(1, 20, 6), unit(0, 20, 6)}, []int{6, 4, 10}, 120, 6, 0, 0)
	for _, n := range farNumbers {
		if plant.ProveShare([]int{10}, two, []int{n, 0}, 60, []int{6}) || plant.ProveShare([]int{10}, two, []int{10, n}, 60, []int{6}) ||
			plant.ProveShare([]int{10}, two, []int{10, 0}, n, []int{6}) || plant.ProveShare([]int{10}, two, []int{n, -n}, 60, []int{6}) {
			t.Errorf("ProveShare with %d", n)
		}
	}
}

// TestProveShareAny: P7.5, proofs with small changes.
func TestProveShareAny(t *testing.T) {
	d := &dice{seed: 75}
	met := map[bool]int{}
	for range 20000 {
		heads := d.amounts(d.roll(1, 4), 9)
		units := d.units(len(heads), d.roll(1, 4), 3, 4, d.pick(2, 4))
		masses, work, prices, _ := plant.Share(heads, units)
		for range d.roll(0, 2) {
			masses[d.roll(0, len(masses)-1)] += d.roll(-1, 1)
		}
		for range d.roll(0, 2) {
			prices[d.roll(0, len(prices)-1)] += d.roll(-1, 1)
		}
		work += d.pick(0, 0, 0, 0, -1, 1)
		want := isSharing(heads, units, masses) && workOf(units, masses) == work && arePrices(heads, prices) && trueBound(heads, units, prices) == work
		met[want]++
		if got := plant.ProveShare(heads, units, masses, work, prices); got != want {
			t.Errorf("ProveShare(%v, %v, %v, %d, %v): %v", heads, units, masses, work, prices, got)
		}
	}
	if met[true] < 1000 || met[false] < 1000 {
		t.Errorf("too few of a kind: %v", met)
	}
}
