package plant_test

import (
	"slices"
	"testing"

	"fumarole/api"
	"fumarole/plant"
)

// proof is what ProveDispatch is given for the job of provedJob.
type proof struct {
	plan   []int
	profit int
	table  [][]int
}

// provedJob has levels of 0, 10 and 30, and 10 as its first one; the last of its three hours cannot have 30.
func provedJob() plant.Job { return job([]int{0, 10, 30}, 1, 100, 1, -4, 30, 5, 30, 6, 29) }

func goodProof() proof {
	return proof{[]int{1, 2, 1}, 170, [][]int{{70, 170, 170}, {10, 210, 210}, {0, 60, 60}, {0, 0, 0}}}
}

// proved tells if the proof is accepted, and should not be; or the other way round.
func proved(t *testing.T, what string, want bool, change func(*proof)) {
	t.Helper()
	p := goodProof()
	change(&p)
	if got := plant.ProveDispatch(provedJob(), p.plan, p.profit, p.table); got != want {
		t.Errorf("ProveDispatch, %s: %v", what, got)
	}
}

// TestProveDispatch: P7.7, other tables that show it, and those that do not.
func TestProveDispatch(t *testing.T) {
	proved(t, "as it is", true, func(p *proof) {})
	proved(t, "less profit", false, func(p *proof) { p.profit-- })
	proved(t, "more profit", false, func(p *proof) { p.profit++ })
	proved(t, "another plan", false, func(p *proof) { p.plan = []int{1, 2, 0} })
	proved(t, "another plan with its profit", false, func(p *proof) { p.plan, p.profit = []int{1, 2, 0}, 110 })
	proved(t, "no plan", false, func(p *proof) { p.plan = nil })
	proved(t, "no table", false, func(p *proof) { p.table = nil })
	proved(t, "a row too few", false, func(p *proof) { p.table = p.table[:3] })
	proved(t, "a row too many", false, func(p *proof) { p.table = append(p.table, []int{0, 0, 0}) })
	proved(t, "the first row left out", false, func(p *proof) { p.table = p.table[1:] })
	for hour := range 4 {
		proved(t, "no row", false, func(p *proof) { p.table[hour] = nil })
		proved(t, "a short row", false, func(p *proof) { p.table[hour] = p.table[hour][:2] })
		proved(t, "a long row", false, func(p *proof) { p.table[hour] = append(p.table[hour], 0) })
		for index := range 3 {
			proved(t, "a number that is one less", false, func(p *proof) { p.table[hour][index]-- })
			for _, n := range append([]int{api.MaxProfit + 1, -api.MaxProfit - 1}, farNumbers...) {
				proved(t, "a number that is none", false, func(p *proof) { p.table[hour][index] = n })
			}
		}
	}
}

// TestGreaterTables: P7.7, numbers may be greater, as far as the amount is not.
func TestGreaterTables(t *testing.T) {
	set := func(want bool, hour, index, n int) {
		t.Helper()
		proved(t, "another number", want, func(p *proof) { p.table[hour][index] = n })
	}
	set(true, 0, 0, 71)
	set(true, 0, 0, api.MaxProfit)
	set(true, 0, 2, 171)
	set(true, 0, 2, api.MaxProfit)
	set(false, 0, 1, 171)
	set(true, 1, 0, 50) // then the first hour's 0 needs 50, and its 10 has 170 still
	set(true, 1, 0, 70)
	set(false, 1, 0, 71)
	set(false, 1, 1, 211)
	set(true, 1, 2, 290)
	set(false, 1, 2, 291)
	set(true, 2, 0, 10)
	set(false, 2, 0, 11)
	set(false, 2, 1, 61)
	set(false, 2, 2, 61)
	set(false, 3, 0, 61)
	set(false, 3, 1, 1)
	set(true, 3, 2, 1) // the last hour cannot have it
	set(true, 3, 2, api.MaxProfit)
	all := func(more int) func(p *proof) {
		return func(p *proof) {
			for _, row := range p.table {
				for i := range row {
					row[i] += more
				}
			}
		}
	}
	proved(t, "all numbers one more", false, all(1))
	proved(t, "all numbers one less", false, all(-1))
	proved(t, "as much as may be in all rows", false, func(p *proof) {
		p.table = slices.Repeat([][]int{{api.MaxProfit, api.MaxProfit, api.MaxProfit}}, 4)
	})
	// A table that shows less than the profit of a plan does not show anything.
	proved(t, "nothing but 0", false, func(p *proof) {
		p.plan, p.profit, p.table = []int{0, 0, 0}, 0, slices.Repeat([][]int{{0, 0, 0}}, 4)
	})
}

// TestDeadEnds: P7.7, numbers that nothing limits may be the least ones, but not less.
func TestDeadEnds(t *testing.T) {
	j := job([]int{0, 10, 20, 30}, 1, 0, 0, 2, 30, 5, 0)
	least := -api.MaxProfit
	table := [][]int{{20, 20, 20, least + 60}, {0, 0, least, least}, {0, 0, 0, 0}}
	plan, profit := []int{1, 0}, 20
	if !plant.ProveDispatch(j, plan, profit, table) {
		t.Errorf("ProveDispatch of the least table")
	}
	for _, c := range []struct {
		hour, index, n int
		want           bool
	}{
		{0, 3, least + 59, false},
		{0, 3, least, false},
		{0, 3, 17, true},
		{1, 3, least + 1, false},
		{1, 3, least - 1, false},
		{1, 2, least + 1, true},
		{1, 2, least + 20, true},
		{1, 2, least + 21, false},
		{2, 3, api.MaxProfit, true},
		{2, 0, 1, false},
		{2, 3, -1, false},
		{1, 2, least - 1, false},
		{0, 0, api.MaxProfit, false},
		{0, 1, api.MaxProfit, true},
	} {
		changed := cloneTable(table)
		changed[c.hour][c.index] = c.n
		if got := plant.ProveDispatch(j, plan, profit, changed); got != c.want || got != trueShows(j, changed, profit) {
			t.Errorf("ProveDispatch with %d in the row %d: %v", c.n, c.hour, got)
		}
	}
	j = job([]int{0, 10}, 1, 5, 0, slices.Repeat([]int{api.MaxTariff, 10}, 3)...)
	table = [][]int{{api.MaxProfit, api.MaxProfit}, {api.MaxProfit, api.MaxProfit}, {api.MaxProfit, api.MaxProfit}, {api.MaxProfit, api.MaxProfit}}
	if plant.ProveDispatch(j, []int{1, 1, 1}, 29995, table) {
		t.Errorf("ProveDispatch where a row must be above the greatest number")
	}
}

// greater gives a table for the job that is greater than the least one here and there, and holds, unless it is changed at one place.
func (d *dice) greater(j plant.Job, table [][]int) [][]int {
	l := cloneTable(table)
	for hour := len(j.Hours); hour >= 0; hour-- {
		for last := range l[hour] {
			n := -api.MaxProfit
			for next := range j.Levels {
				if hour < len(j.Hours) && canFollow(j, hour, last, next) {
					n = max(n, trueGain(j, hour, last, next)+l[hour+1][next])
				}
			}
			if hour == len(j.Hours) {
				n = 0
			}
			l[hour][last] = min(api.MaxProfit, n+d.pick(0, 0, 0, 0, 0, 1, d.roll(0, 100), 2*api.MaxProfit))
		}
	}
	if d.roll(0, 1) == 0 {
		l[d.roll(0, len(l)-1)][d.roll(0, len(j.Levels)-1)] += d.pick(-1, 1)
	}
	return l
}

// TestProveDispatchAny: P7.7, P7.11, any tables: what is accepted is what the chapter says, and no plan has more then.
func TestProveDispatchAny(t *testing.T) {
	d := &dice{seed: 770}
	met := map[bool]int{}
	for range 20000 {
		j := d.job(d.roll(2, 5), d.roll(1, 3), d.pick(4, 30))
		plan, profit, table, ok := dispatched(t, j)
		if !ok {
			continue
		}
		most := profit
		if d.roll(0, 3) == 0 {
			if plan, ok = d.plan(j); !ok {
				continue
			}
			profit, _ = trueProfit(j, plan)
		}
		table = d.greater(j, table)
		want := trueShows(j, table, profit)
		met[want]++
		if got := plant.ProveDispatch(j, plan, profit, table); got != want {
			t.Errorf("ProveDispatch(%v, %v, %d, %v): %v", j, plan, profit, table, got)
		} else if got && profit < most {
			t.Errorf("ProveDispatch(%v, %v, %d, %v) is accepted, and there is a plan with %d", j, plan, profit, table, most)
		}
	}
	if met[true] < 1000 || met[false] < 1000 {
		t.Errorf("too few of a kind: %v", met)
	}
}
