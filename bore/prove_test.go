package bore_test

import (
	"slices"
	"testing"

	"fumarole/api"
	"fumarole/bore"
)

// proof is what ProvePlan is given.
type proof struct {
	rock          []bore.Layer
	prices, shoes []int
	cost          int
	table         [][]int
}

func (p proof) accepted() bool { return bore.ProvePlan(p.rock, p.prices, p.shoes, p.cost, p.table) }

// plan gives a proof that must be accepted.
func plan(t *testing.T, rock []bore.Layer, prices ...int) proof {
	t.Helper()
	shoes, cost, table, e := bore.Plan(rock, prices)
	p := proof{rock, prices, shoes, cost, table}
	if e != api.OK || !p.accepted() {
		t.Fatalf("Plan(%v, %v): %v, %d, %v, %v", rock, prices, shoes, cost, table, e)
	}
	return p
}

// tableShows gives whether the table is one, and shows that no safe program costs less, as the chapter says it.
func (p proof) tableShows() bool {
	n := len(p.rock)
	exists := make([]bool, len(p.prices))
	for _, l := range starts(p.rock, len(p.prices)) {
		if l[len(l)-1] == n {
			exists[len(l)-1] = true
		}
	}
	if len(p.table) != len(p.prices) {
		return false
	}
	for k, row := range p.table {
		if len(row) != n || slices.Min(row) < 0 || slices.Max(row) > api.MaxCost || exists[k] && row[n-1] < p.cost {
			return false
		}
		for b, number := range row {
			own := p.rock[b].Depth * p.prices[k]
			if k == 0 && opens(p.rock, 0, b+1) && number > own {
				return false
			}
			for a := 0; k > 0 && a < b; a++ {
				if opens(p.rock, a+1, b+1) && number > p.table[k-1][a]+own {
					return false
				}
			}
		}
	}
	return true
}

// TestProvePlan: P3.7, what is accepted, and what is not.
func TestProvePlan(t *testing.T) {
	for what, x := range map[string]struct {
		shoes []int
		cost  int
		table [][]int
		want  bool
	}{
		"the greatest table":          {[]int{1, 3}, 50, [][]int{{20, 40, 60}, {api.MaxCost, 40, 50}}, true},
		"lower numbers":               {[]int{1, 3}, 50, [][]int{{20, 20, 50}, {0, 0, 50}}, true},
		"the first one too low":       {[]int{1, 3}, 50, [][]int{{19, 40, 60}, {api.MaxCost, 40, 50}}, false},
		"the last one of one string":  {[]int{1, 3}, 50, [][]int{{20, 40, 49}, {api.MaxCost, 40, 50}}, false},
		"the last one of two":         {[]int{1, 3}, 50, [][]int{{20, 40, 60}, {api.MaxCost, 40, 49}}, false},
		"a number too great":          {[]int{1, 3}, 50, [][]int{{21, 40, 60}, {api.MaxCost, 40, 50}}, false},
		"another one":                 {[]int{1, 3}, 50, [][]int{{20, 41, 60}, {api.MaxCost, 40, 50}}, false},
		"above what another allows":   {[]int{1, 3}, 50, [][]int{{20, 19, 60}, {api.MaxCost, 40, 50}}, false},
		"just what another allows":    {[]int{1, 3}, 50, [][]int{{20, 20, 60}, {api.MaxCost, 40, 50}}, true},
		"beyond the greatest number":  {[]int{1, 3}, 50, [][]int{{20, 40, 60}, {api.MaxCost + 1, 40, 50}}, false},
		"below 0":                     {[]int{1, 3}, 50, [][]int{{20, -1, 60}, {0, 40, 50}}, false},
		"a dearer program":            {[]int{2, 3}, 70, [][]int{{20, 40, 60}, {api.MaxCost, 40, 50}}, false},
		"a dearer one's cost":         {[]int{1, 3}, 60, [][]int{{20, 40, 60}, {api.MaxCost, 40, 50}}, false},
		"a dearer one with that cost": {[]int{3}, 50, [][]int{{20, 40, 60}, {api.MaxCost, 40, 50}}, false},
		"less than it costs":          {[]int{1, 3}, 49, [][]int{{20, 40, 60}, {api.MaxCost, 40, 50}}, false},
		"no program":                  {[]int{1, 2}, 50, [][]int{{20, 40, 60}, {api.MaxCost, 40, 50}}, false},
		"no shoes":                    {nil, 50, [][]int{{20, 40, 60}, {api.MaxCost, 40, 50}}, false},
		"no table":                    {[]int{1, 3}, 50, nil, false},
		"a row less":                  {[]int{1, 3}, 50, [][]int{{20, 40, 60}}, false},
		"a row more":                  {[]int{1, 3}, 50, [][]int{{20, 40, 60}, {api.MaxCost, 40, 50}, {api.MaxCost, api.MaxCost, 50}}, false},
		"a number less":               {[]int{1, 3}, 50, [][]int{{20, 40, 60}, {40, 50}}, false},
		"a number more":               {[]int{1, 3}, 50, [][]int{{20, 40, 60, 80}, {api.MaxCost, 40, 50}}, false},
		"an empty row":                {[]int{1, 3}, 50, [][]int{nil, {api.MaxCost, 40, 50}}, false},
	} {
		if is := bore.ProvePlan(easyRock(3), []int{2, 1}, x.shoes, x.cost, x.table); is != x.want {
			t.Errorf("%s: %v", what, is)
		}
	}
	for _, n := range farNumbers {
		p := plan(t, easyRock(3), 2, 1)
		if p.cost = n; p.accepted() {
			t.Errorf("the cost %d is accepted", n)
		}
		for k := range 2 {
			for b := range 3 {
				p := plan(t, easyRock(3), 2, 1)
				if p.table[k][b] = n; p.accepted() {
					t.Errorf("the number %d of %d, %d is accepted", n, k, b)
				}
			}
		}
	}
}

// TestProvePlanSafe: P3.7, programs must be safe, and numbers of strings that no safe program has do not matter.
func TestProvePlanSafe(t *testing.T) {
	rock := easyRock(2)
	rock[0].Pore, rock[1].Frac = between(1150, 1190), between(1180, 1190) // no mud holds in both
	p := plan(t, rock, 2, 1)
	if !slices.Equal(p.shoes, []int{1, 2}) || p.cost != 40 {
		t.Fatalf("the plan: %v", p)
	}
	p.table[0][1] = 0 // there is no safe program of one string
	if !p.accepted() {
		t.Error("not accepted with a low number where no program ends")
	}
	p.shoes = []int{2}
	if p.accepted() {
		t.Error("accepted with a program that is not safe")
	}
	p = plan(t, easyRock(1), 2, 1)
	p.table[1][0] = 0 // there are not two layers to be cased
	if !p.accepted() {
		t.Error("not accepted with a low number of a string without a layer")
	}
}

// TestProvePlanHolds: P3.7, tables with any changes.
func TestProvePlanHolds(t *testing.T) {
	d := &dice{state: 37}
	met := map[bool]int{}
	for range 3000 {
		rock, prices := d.rock(6), d.prices(4)
		shoes, cost, table := planned(rock, prices)
		if shoes == nil {
			continue
		}
		p := proof{rock, prices, shoes, cost, table}
		for range d.roll(0, 4) {
			row := p.table[d.roll(0, len(prices)-1)]
			b := d.roll(0, len(row)-1)
			row[b] = []int{row[b] - 1, row[b] + 1, d.roll(0, max(0, row[b])), p.cost, max(0, row[b]-d.roll(0, 5)), api.MaxCost}[d.roll(0, 5)]
		}
		is := p.tableShows()
		met[is]++
		if p.accepted() != is {
			t.Errorf("ProvePlan of %v: not %v", p, is)
		}
	}
	if met[true] < 300 || met[false] < 300 {
		t.Errorf("too few of a kind: %v", met)
	}
}

// TestProvePlanBest: P3.12, whatever the table is, no safe program costs less than a cost that is accepted.
func TestProvePlanBest(t *testing.T) {
	d := &dice{state: 312}
	accepted, cheaper := 0, 0
	for range 1500 {
		rock, prices := d.rock(5), d.prices(4)
		_, least, _ := planned(rock, prices)
		for _, shoes := range starts(rock, len(prices)) {
			if shoes[len(shoes)-1] != len(rock) {
				continue
			}
			cost := costOf(rock, prices, shoes)
			_, _, table := planned(rock, prices)
			table[len(shoes)-1][len(rock)-1] += d.roll(0, 3)
			for range d.roll(0, 2) {
				row := table[d.roll(0, len(prices)-1)]
				row[d.roll(0, len(row)-1)] = max(0, cost+d.roll(-2, 9))
			}
			if !(proof{rock, prices, shoes, cost, table}).accepted() {
				cheaper++
				continue
			}
			accepted++
			if cost > least {
				t.Errorf("ProvePlan(%v, %v, %v, %d, %v): accepted, and another one costs %d", rock, prices, shoes, cost, table, least)
			}
		}
	}
	if accepted < 100 || cheaper < 100 {
		t.Errorf("too few of a kind: %d, %d", accepted, cheaper)
	}
}
