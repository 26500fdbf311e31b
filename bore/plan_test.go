package bore_test

import (
	"slices"
	"testing"

	"fumarole/api"
	"fumarole/bore"
)

// opens gives whether some mud holds in the layers a, .., b - 1.
func opens(rock []bore.Layer, a, b int) bool {
	for _, l := range rock[a:b] {
		for _, m := range rock[a:b] {
			if l.Pore.Hi > m.Frac.Lo {
				return false
			}
		}
	}
	return true
}

// starts gives all safe beginnings of programs with at most so many strings.
func starts(rock []bore.Layer, strings int) [][]int {
	var all [][]int
	var grow func(shoes []int, a int)
	grow = func(shoes []int, a int) {
		for b := a + 1; b <= len(rock) && len(shoes) < strings; b++ {
			if opens(rock, a, b) {
				longer := append(slices.Clone(shoes), b)
				all = append(all, longer)
				grow(longer, b)
			}
		}
	}
	grow(nil, 0)
	return all
}

func costOf(rock []bore.Layer, prices, shoes []int) int {
	cost := 0
	for k, b := range shoes {
		cost += prices[k] * rock[b-1].Depth
	}
	return cost
}

// planned gives what Plan must return; all programs are tried.
func planned(rock []bore.Layer, prices []int) (shoes []int, cost int, table [][]int) {
	for range prices {
		table = append(table, slices.Repeat([]int{api.MaxCost}, len(rock)))
	}
	for _, l := range starts(rock, len(prices)) {
		k, b := len(l)-1, l[len(l)-1]
		n := costOf(rock, prices, l)
		table[k][b-1] = min(table[k][b-1], n)
		if b == len(rock) && (shoes == nil || n < cost || n == cost && slices.Compare(l, shoes) < 0) {
			shoes, cost = l, n
		}
	}
	return shoes, cost, table
}

// TestCost: P3.6, programs, and lists that are none.
func TestCost(t *testing.T) {
	rock := easyRock(4)                                                   // to 10, 20, 30 and 40
	rock[2].Pore, rock[3].Frac = between(1150, 1190), between(1180, 1190) // no mud holds in both
	prices := []int{7, 5, 3}
	for _, x := range []struct {
		shoes []int
		want  int
		e     api.Errno
	}{
		{[]int{3, 4}, 210 + 200, api.OK}, {[]int{1, 3, 4}, 70 + 150 + 120, api.OK}, {[]int{2, 3, 4}, 140 + 150 + 120, api.OK},
		{[]int{4}, 0, api.ErrNone}, {[]int{1, 4}, 0, api.ErrNone}, {[]int{2, 4}, 0, api.ErrNone}, {[]int{1, 2, 4}, 0, api.ErrNone},
		{nil, 0, api.ErrArg}, {[]int{}, 0, api.ErrArg}, {[]int{3}, 0, api.ErrArg}, {[]int{1, 2, 3}, 0, api.ErrArg},
		{[]int{5}, 0, api.ErrArg}, {[]int{3, 5}, 0, api.ErrArg}, {[]int{3, 4, 5}, 0, api.ErrArg},
		{[]int{0, 4}, 0, api.ErrArg}, {[]int{0, 3, 4}, 0, api.ErrArg}, {[]int{-1, 3, 4}, 0, api.ErrArg},
		{[]int{3, 3, 4}, 0, api.ErrArg}, {[]int{3, 4, 4}, 0, api.ErrArg}, {[]int{3, 2, 4}, 0, api.ErrArg}, {[]int{4, 3, 4}, 0, api.ErrArg}, {[]int{4, 3}, 0, api.ErrArg},
		{[]int{1, 2, 3, 4}, 0, api.ErrArg}, // a string without a price
	} {
		if n, e := bore.Cost(rock, prices, x.shoes); n != x.want || e != x.e {
			t.Errorf("Cost(%v): %d, %v", x.shoes, n, e)
		}
	}
	for _, n := range farNumbers {
		for _, shoes := range [][]int{{n}, {n, 4}, {3, n}, {3, n, 4}} {
			if c, e := bore.Cost(rock, prices, shoes); c != 0 || e != api.ErrArg {
				t.Errorf("Cost(%v): %d, %v", shoes, c, e)
			}
		}
	}
	deep := easyRock(api.MaxLayers)
	for i := range deep {
		deep[i].Depth = api.MaxDepth - api.MaxLayers + i + 1
	}
	shoes := []int{15, 16, 17, 18, 19, 20}
	if n, e := bore.Cost(deep, slices.Repeat([]int{api.MaxPrice}, 6), shoes); n != 6*api.MaxDepth*api.MaxPrice-15000 || e != api.OK {
		t.Errorf("the greatest cost: %d, %v", n, e)
	}
}

// TestPlan: P3.6, which of several cheapest programs it is, and rock without any.
func TestPlan(t *testing.T) {
	weak := easyRock(3)
	weak[1].Pore, weak[1].Frac = between(1210, 1220), between(1220, 1300) // no two have a mud in common
	weak[2].Pore, weak[2].Frac = between(1000, 1230), between(1230, 1300)
	shut := easyRock(3)
	shut[2].Pore = between(1000, 1201)
	for what, x := range map[string]struct {
		rock   []bore.Layer
		prices []int
		shoes  []int
		cost   int
		table  [][]int
	}{
		"one string":           {easyRock(3), []int{2}, []int{3}, 60, [][]int{{20, 40, 60}}},
		"one layer":            {easyRock(1), []int{2, 0}, []int{1}, 20, [][]int{{20}, {api.MaxCost}}},
		"a cheaper second":     {easyRock(3), []int{2, 1}, []int{1, 3}, 50, [][]int{{20, 40, 60}, {api.MaxCost, 40, 50}}},
		"all for nothing":      {easyRock(3), []int{0, 0, 0}, []int{1, 2, 3}, 0, [][]int{{0, 0, 0}, {api.MaxCost, 0, 0}, {api.MaxCost, api.MaxCost, 0}}},
		"the first costs":      {easyRock(3), []int{1, 0, 0}, []int{1, 2, 3}, 10, [][]int{{10, 20, 30}, {api.MaxCost, 10, 10}, {api.MaxCost, api.MaxCost, 10}}},
		"two as cheap":         {easyRock(3), []int{3, 2}, []int{1, 3}, 90, [][]int{{30, 60, 90}, {api.MaxCost, 70, 90}}},
		"three in weak rock":   {weak, []int{1, 1, 1}, []int{1, 2, 3}, 60, [][]int{{10, api.MaxCost, api.MaxCost}, {api.MaxCost, 30, api.MaxCost}, {api.MaxCost, api.MaxCost, 60}}},
		"too few strings":      {weak, []int{1, 1}, nil, 0, nil},
		"a layer that is shut": {shut, []int{1, 1, 1, 1, 1, 1}, nil, 0, nil},
	} {
		want := api.OK
		if x.shoes == nil {
			want = api.ErrNone
		}
		shoes, cost, table, e := bore.Plan(x.rock, x.prices)
		if !slices.Equal(shoes, x.shoes) || cost != x.cost || !sameTable(table, x.table) || e != want {
			t.Errorf("%s: %v, %d, %v, %v", what, shoes, cost, table, e)
		}
	}
}

// TestPlanHolds: P3.6 and P3.12, of any rock and prices.
func TestPlanHolds(t *testing.T) {
	d := &dice{state: 36}
	met := map[int]int{}
	for range 1500 {
		rock, prices := d.rock(7), d.prices(5)
		wantShoes, wantCost, wantTable := planned(rock, prices)
		met[len(wantShoes)]++
		shoes, cost, table, e := bore.Plan(rock, prices)
		if wantShoes == nil {
			if e != api.ErrNone || len(shoes) != 0 || cost != 0 || len(table) != 0 {
				t.Errorf("Plan(%v, %v): %v, %d, %v, %v, and there is none", rock, prices, shoes, cost, table, e)
			}
			continue
		}
		if e != api.OK || !slices.Equal(shoes, wantShoes) || cost != wantCost || !sameTable(table, wantTable) {
			t.Errorf("Plan(%v, %v): %v, %d, %v, %v, not %v, %d, %v", rock, prices, shoes, cost, table, e, wantShoes, wantCost, wantTable)
		}
		if !bore.ProvePlan(rock, prices, shoes, cost, table) {
			t.Errorf("ProvePlan(%v, %v, %v, %d, %v): not accepted", rock, prices, shoes, cost, table)
		}
		if n, e := bore.Cost(rock, prices, shoes); n != cost || e != api.OK {
			t.Errorf("Cost(%v, %v, %v): %d, %v", rock, prices, shoes, n, e)
		}
		if len(prices) < api.MaxStrings {
			if _, n, _, e := bore.Plan(rock, append(prices, d.roll(0, 5))); n > cost || e != api.OK {
				t.Errorf("Plan(%v, %v): %d, and %d, %v with one price more", rock, prices, cost, n, e)
			}
		}
	}
	for n := range 5 {
		if met[n] < 20 {
			t.Errorf("too few programs of a length: %v", met)
		}
	}
}

// TestPlanMost: P3.6, as many layers and strings as there may be.
func TestPlanMost(t *testing.T) {
	d := &dice{state: 361}
	for _, rock := range [][]bore.Layer{easyRock(api.MaxLayers), steepRock(api.MaxLayers)} {
		prices := []int{api.MaxPrice, d.roll(0, 900), d.roll(0, 900), 0, d.roll(0, 900), api.MaxPrice}
		wantShoes, wantCost, wantTable := planned(rock, prices)
		shoes, cost, table, e := bore.Plan(rock, prices)
		if e != api.OK || !slices.Equal(shoes, wantShoes) || cost != wantCost || !sameTable(table, wantTable) {
			t.Errorf("Plan(%v, %v): %v, %d, %v, %v, not %v, %d, %v", rock, prices, shoes, cost, table, e, wantShoes, wantCost, wantTable)
		}
	}
}

// steepRock is rock of so many layers; sections of more than five have no window.
func steepRock(layers int) []bore.Layer {
	var rock []bore.Layer
	for i := range layers {
		rock = append(rock, bore.Layer{Depth: 250 * (i + 1), Pore: between(0, 1000+20*i), Frac: between(1080+20*i, api.MaxDensity)})
	}
	return rock
}
