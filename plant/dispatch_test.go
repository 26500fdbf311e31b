package plant_test

import (
	"math"
	"slices"
	"testing"

	"fumarole/api"
	"fumarole/plant"
)

// dispatched gives what Dispatch returns, if there is a plan; it tells if this proves nothing, or if the table is not the least one.
func dispatched(t *testing.T, j plant.Job) (plan []int, profit int, table [][]int, ok bool) {
	t.Helper()
	plan, profit, table, e := plant.Dispatch(j)
	if e == api.ErrNone {
		if len(plan) > 0 || profit != 0 || len(table) > 0 {
			t.Fatalf("Dispatch(%v): %v, %d, %v, %v", j, plan, profit, table, e)
		}
		return nil, 0, nil, false
	}
	n, is := trueProfit(j, plan)
	if e != api.OK || !is || n != profit {
		t.Fatalf("Dispatch(%v): %v, %d, %v", j, plan, profit, e)
	}
	if !isLeast(j, table) || !trueShows(j, table, profit) {
		t.Fatalf("Dispatch(%v): the table %v", j, table)
	}
	if !plant.ProveDispatch(j, plan, profit, table) {
		t.Fatalf("ProveDispatch(%v, %v, %d, %v)", j, plan, profit, table)
	}
	if m, f := plant.Profit(j, plan); m != profit || f != api.OK {
		t.Fatalf("Profit(%v, %v): %d, %v", j, plan, m, f)
	}
	return plan, profit, table, true
}

// TestDispatch: P7.6, the best plans, and of several the least list.
func TestDispatch(t *testing.T) {
	three := []int{0, 10, 30}
	for name, c := range map[string]struct {
		j      plant.Job
		plan   []int
		profit int
	}{
		"on, up and down":         {job(three, 1, 100, 1, -4, 30, 5, 30, 6, 29), []int{1, 2, 1}, 170},
		"stays off":               {job(three, 1, 121, 0, 3, 30, 3, 30), []int{0, 0}, 0},
		"off is as good":          {job(three, 1, 120, 0, 3, 30, 3, 30), []int{0, 0}, 0},
		"starts and goes up":      {job(three, 1, 119, 0, 3, 30, 3, 30), []int{1, 2}, 1},
		"a start that is repaid":  {job(three, 2, 100, 0, 3, 30, 3, 30), []int{2, 2}, 80},
		"a start for nothing":     {job(three, 2, 180, 0, 3, 30, 3, 30), []int{0, 0}, 0},
		"a start for one":         {job(three, 2, 179, 0, 3, 30, 3, 30), []int{2, 2}, 1},
		"no start from above":     {job(three, 2, 180, 1, 3, 30, 3, 30), []int{2, 2}, 180},
		"waits, as it is on":      {job(three, 2, 30, 1, -2, 30, 5, 30), []int{1, 2}, 130},
		"goes off, as starts pay": {job(three, 2, 19, 1, -2, 30, 5, 30), []int{0, 2}, 131},
		"off or on are as good":   {job(three, 2, 20, 1, -2, 30, 5, 30), []int{0, 2}, 130},
		"two starts":              {job(three, 2, 10, 0, 5, 30, -5, 30, 5, 30), []int{2, 0, 2}, 280},
		"the only level":          {job(three, 2, 10, 2, 0, 0), []int{0}, 0},
		"down to it":              {job(three, 1, 10, 2, 2, 30, 2, 10, 2, 0), []int{2, 1, 0}, 80},
		"down before it":          {job(three, 1, 10, 2, 2, 30, 2, 30, 2, 0), []int{2, 1, 0}, 80},
		"paid for all the way":    {job(three, 1, 10, 2, -2, 30, -2, 30, -2, 0), []int{1, 0, 0}, -20},
		"prices of 0":             {job(three, 1, 0, 2, 0, 30, 0, 30, 0, 30), []int{1, 0, 0}, 0},
		"prices of 0, up at last": {job(three, 1, 0, 0, 0, 30, 0, 30, 1, 30), []int{0, 1, 2}, 30},
		"as good later":           {job([]int{0, 10}, 1, 0, 0, 2, 10, 0, 10, 2, 10), []int{1, 0, 1}, 40},
		"starts of 0":             {job([]int{0, 10}, 1, 5, 0, 2, 10, 0, 10, 2, 10), []int{1, 1, 1}, 35},
		"the least at first":      {job([]int{0, 10, 20}, 1, 0, 1, 1, 10, 1, 20, -1, 20, 1, 20), []int{1, 2, 1, 2}, 40},
		"between the levels":      {job(three, 2, 0, 0, 7, 29, 7, 9, 7, 10, 7, 30), []int{1, 0, 1, 2}, 350},
	} {
		plan, profit, _, ok := dispatched(t, c.j)
		if !ok || !slices.Equal(plan, c.plan) || profit != c.profit {
			t.Errorf("Dispatch, %s: %v, %d", name, plan, profit)
		}
	}
}

// TestLeastTable: P7.6, the numbers of tables, row by row.
func TestLeastTable(t *testing.T) {
	least := -api.MaxProfit
	for name, c := range map[string]struct {
		j    plant.Job
		want [][]int
	}{
		"free":                {job([]int{0, 10, 30}, 1, 100, 1, -4, 30, 5, 30, 6, 29), [][]int{{70, 170, 170}, {10, 210, 210}, {0, 60, 60}, {0, 0, 0}}},
		"one hour":            {job([]int{0, 10}, 1, 3, 0, 1, 10), [][]int{{7, 10}, {0, 0}}},
		"paid for":            {job([]int{0, 10}, 1, 3, 0, -1, 10), [][]int{{0, 0}, {0, 0}}},
		"no way down":         {job([]int{0, 10, 20, 30}, 1, 0, 0, 5, 0), [][]int{{0, 0, least, least}, {0, 0, 0, 0}}},
		"no way down, later":  {job([]int{0, 10, 20, 30}, 1, 0, 0, 2, 30, 5, 0), [][]int{{20, 20, 20, least + 60}, {0, 0, least, least}, {0, 0, 0, 0}}},
		"paid for on the way": {job([]int{0, 10, 20, 30}, 1, 0, 0, -2, 30, 5, 0), [][]int{{0, 0, -20, least}, {0, 0, least, least}, {0, 0, 0, 0}}},
		"a long way": {
			job([]int{0, 10, 20, 30, 40}, 1, 7, 0, 3, 40, -1, 40, 5, 0),
			[][]int{{23, 50, 50, 50, least + 120}, {0, 0, -10, least, least}, {0, 0, least, least, least}, {0, 0, 0, 0, 0}},
		},
	} {
		_, _, table, _ := dispatched(t, c.j)
		if !sameTable(table, c.want) {
			t.Errorf("Dispatch, the table, %s: %v", name, table)
		}
	}
}

// TestNoPlan: P7.6, jobs without a plan.
func TestNoPlan(t *testing.T) {
	for name, j := range map[string]plant.Job{
		"at once":              job([]int{0, 10, 20}, 1, 0, 2, 5, 9),
		"from the first level": job([]int{0, 10, 20}, 1, 0, 2, 5, 0, 5, 20),
		"later":                job([]int{0, 10, 20, 30}, 1, 0, 3, 5, 30, 5, 0),
		"at last":              job([]int{0, 1, 2, 3, 4, 5, 6, 7, 8, 9, 10, 11}, 2, 0, 11, 5, 11, -5, 11, 5, 11, 5, 11, 5, 0),
		"far from any":         job([]int{0, 1, 2, 3, 4, 5, 6, 7, 8, 9, 10, 11}, 10, 0, 11, 5, 0),
	} {
		plan, profit, table, e := plant.Dispatch(j)
		if len(plan) > 0 || profit != 0 || len(table) > 0 || e != api.ErrNone {
			t.Errorf("Dispatch, %s: %v, %d, %v, %v", name, plan, profit, table, e)
		}
	}
}

// TestDownInTime: P7.6, a way that ends where nothing may follow is none, whatever it gains.
func TestDownInTime(t *testing.T) {
	levels := []int{0, 999999, api.MaxOutput}
	hours := slices.Repeat([]int{api.MaxTariff, api.MaxOutput}, api.MaxHours-1)
	j := job(levels, 1, 0, 2, append(hours, 0, 0)...)
	plan, profit, _, ok := dispatched(t, j)
	if !ok || plan[97] != 2 || plan[98] != 1 || plan[99] != 0 || profit != 98*1000000000+999999000 {
		t.Errorf("Dispatch down at last: %v, %d", plan, profit)
	}
	for i := range j.Hours[:99] {
		j.Hours[i].Price = -api.MaxTariff
	}
	if plan, profit, _, ok := dispatched(t, j); !ok || plan[0] != 1 || plan[1] != 0 || profit != -999999000 {
		t.Errorf("Dispatch down at once: %v, %d", plan, profit)
	}
	j.Hours = j.Hours[99:]
	if plan, profit, _, ok := dispatched(t, j); ok {
		t.Errorf("Dispatch in the last hour: %v, %d", plan, profit)
	}
}

// TestDispatchCounted: P7.6, P7.7, P7.11, against all plans of small jobs: those that are best are accepted, and no others.
func TestDispatchCounted(t *testing.T) {
	d := &dice{seed: 77}
	met := map[string]int{}
	for range 3000 {
		j := d.job(d.roll(2, 4), d.roll(1, 5), d.pick(4, 30))
		all := plans(j)
		plan, profit, table, ok := dispatched(t, j)
		if ok != (len(all) > 0) {
			t.Fatalf("Dispatch(%v): %v, and there are %d plans", j, ok, len(all))
		}
		if !ok {
			met["none"]++
			continue
		}
		var best []int
		most, several := math.MinInt, 0
		for _, l := range all {
			n, _ := trueProfit(j, l)
			if n > most {
				best, most, several = l, n, 0
			}
			if n == most {
				several++
			}
			if proved := plant.ProveDispatch(j, l, n, table); proved != (n == profit) {
				t.Errorf("ProveDispatch(%v, %v, %d, %v): %v", j, l, n, table, proved)
			}
		}
		if !slices.Equal(plan, best) || profit != most {
			t.Errorf("Dispatch(%v): %v, %d, not %v, %d", j, plan, profit, best, most)
		}
		if several > 1 {
			met["several"]++
		}
	}
	if met["none"] < 50 || met["several"] < 100 {
		t.Errorf("too few of a kind: %v", met)
	}
}

// TestDispatchAny: P7.6, P7.11, long jobs: no plan has more profit.
func TestDispatchAny(t *testing.T) {
	d := &dice{seed: 711}
	done := 0
	for range 300 {
		j := d.job(d.roll(2, api.MaxOutputs), d.pick(30, 60, api.MaxHours), d.pick(20, 1000, api.MaxOutput))
		_, profit, table, ok := dispatched(t, j)
		if !ok {
			continue
		}
		done++
		for range 5 {
			plan, is := d.plan(j)
			if !is {
				continue
			}
			n, _ := trueProfit(j, plan)
			if n > profit || n < profit && plant.ProveDispatch(j, plan, n, table) {
				t.Errorf("Dispatch(%v): %d, and %v has %d", j, profit, plan, n)
			}
		}
	}
	if done < 50 {
		t.Errorf("too few plans: %d", done)
	}
}

// TestMoreRoom: P7.12, a greater Ramp, a greater Most, a smaller Start.
func TestMoreRoom(t *testing.T) {
	d := &dice{seed: 712}
	met := map[string]int{}
	for range 2000 {
		output := d.pick(9, 1000)
		j := d.job(d.roll(2, 6), d.roll(1, 12), output)
		_, profit, _, ok := dispatched(t, j)
		if !ok {
			continue
		}
		compare := func(what string, more plant.Job) {
			_, n, _, still := dispatched(t, more)
			if !still || n < profit {
				t.Errorf("with %s: %d, %v; without it: %d, of %v", what, n, still, profit, j)
			}
			if n > profit {
				met[what]++
			}
		}
		ramp, most, start := j, j, j
		ramp.Ramp = d.roll(j.Ramp, api.MaxOutputs)
		compare("a greater Ramp", ramp)
		most.Hours = slices.Clone(j.Hours)
		hour := d.roll(0, len(j.Hours)-1)
		most.Hours[hour].Most = d.roll(j.Hours[hour].Most, output)
		compare("a greater Most", most)
		start.Start = d.roll(0, j.Start)
		compare("a smaller Start", start)
	}
	if len(met) < 3 || met["a greater Ramp"] < 50 || met["a greater Most"] < 20 || met["a smaller Start"] < 50 {
		t.Errorf("too few that have more: %v", met)
	}
}
