package plant_test

import (
	"slices"
	"strconv"
	"testing"

	"fumarole/api"
	"fumarole/plant"
)

// badJobs are jobs that are not valid.
func badJobs() map[string]plant.Job {
	all := map[string]plant.Job{"nothing": {}}
	add := func(what string, n int, change func(*plant.Job)) {
		j := chapterJob()
		change(&j)
		all[what+" "+strconv.Itoa(n)] = j
	}
	levels := func(what string, l ...int) {
		add(what, 0, func(j *plant.Job) { j.Levels = l })
	}
	levels("no levels")
	levels("one level", 0)
	levels("one level, not 0", 5)
	levels("too many levels", 0, 1, 2, 3, 4, 5, 6, 7, 8, 9, 10, 11, 12)
	levels("far too many levels", slices.Repeat([]int{0}, 1000)...)
	levels("a first level above 0", 1, 50, 100)
	levels("equal levels", 0, 50, 50)
	levels("the level 0 twice", 0, 0, 50)
	levels("levels that fall", 0, 100, 50)
	for _, n := range outside(0, api.MaxOutput) {
		levels("a level "+strconv.Itoa(n), 0, 50, n)
		levels("a level before others "+strconv.Itoa(n), 0, n, 50)
		levels("a first level "+strconv.Itoa(n), n, 10, 50)
	}
	for _, n := range outside(1, api.MaxOutputs) {
		add("ramp", n, func(j *plant.Job) { j.Ramp = n })
	}
	for _, n := range outside(0, api.MaxStartup) {
		add("start", n, func(j *plant.Job) { j.Start = n })
	}
	for _, n := range outside(0, 2) {
		add("first", n, func(j *plant.Job) { j.First = n })
	}
	add("no hours", 0, func(j *plant.Job) { j.Hours = nil })
	add("too many hours", 0, func(j *plant.Job) { j.Hours = make([]plant.Hour, api.MaxHours+1) })
	add("far too many hours", 0, func(j *plant.Job) { j.Hours = make([]plant.Hour, 10000) })
	for _, hour := range []int{0, 3} {
		for _, n := range outside(-api.MaxTariff, api.MaxTariff) {
			add("price "+strconv.Itoa(hour), n, func(j *plant.Job) { j.Hours[hour].Price = n })
		}
		for _, n := range outside(0, api.MaxOutput) {
			add("most "+strconv.Itoa(hour), n, func(j *plant.Job) { j.Hours[hour].Most = n })
		}
	}
	return all
}

// goodJobs are valid ones, at the edges of what is valid.
func goodJobs() map[string]plant.Job {
	return map[string]plant.Job{
		"the chapter's":  chapterJob(),
		"the least":      job([]int{0, 1}, 1, 0, 0, 0, 0),
		"the greatest":   job([]int{0, 1, 2, 3, 4, 5, 6, 7, 8, 9, 10, api.MaxOutput}, api.MaxOutputs, api.MaxStartup, 11, slices.Repeat([]int{api.MaxTariff, api.MaxOutput}, api.MaxHours)...),
		"paid for":       job([]int{0, api.MaxOutput}, 1, api.MaxStartup, 1, slices.Repeat([]int{-api.MaxTariff, api.MaxOutput}, api.MaxHours)...),
		"a wide ramp":    job([]int{0, 7}, api.MaxOutputs, 3, 1, 5, 7),
		"a last first":   job([]int{0, 7, 9}, 1, 3, 2, 5, 9),
		"levels above":   job([]int{0, 7, 9}, 1, 3, 0, 5, 6, 5, 0),
		"mosts between":  job([]int{0, 7, 9}, 1, 3, 0, 5, 8, -5, 8),
		"no start to do": job([]int{0, 7, 9}, 2, 0, 0, -5, 9, 6, 9, -5, 9, 6, 9),
	}
}

// TestJobs: which jobs are valid: for all calls with one.
func TestJobs(t *testing.T) {
	for name, j := range goodJobs() {
		if _, _, _, e := plant.Dispatch(j); e != api.OK {
			t.Errorf("Dispatch, %s: %v", name, e)
		}
	}
	for name, j := range badJobs() {
		plan := make([]int, len(j.Hours))
		if n, e := plant.Profit(j, plan); n != 0 || e != api.ErrArg {
			t.Errorf("Profit, %s: %d, %v", name, n, e)
		}
		if n, e := plant.Profit(j, []int{-1}); n != 0 || e != api.ErrArg {
			t.Errorf("Profit of no plan, %s: %d, %v", name, n, e)
		}
		l, profit, table, e := plant.Dispatch(j)
		if len(l) > 0 || profit != 0 || len(table) > 0 || e != api.ErrArg {
			t.Errorf("Dispatch, %s: %v, %d, %v, %v", name, l, profit, table, e)
		}
		for range len(j.Hours) + 1 {
			table = append(table, make([]int, len(j.Levels)))
		}
		if plant.ProveDispatch(j, plan, 0, table) {
			t.Errorf("ProveDispatch, %s", name)
		}
	}
}

// TestProfit: P7.6, prices and starts.
func TestProfit(t *testing.T) {
	from := func(first int) plant.Job { // levels of 0, 50 and 100
		j := chapterJob()
		j.First = first
		return j
	}
	for _, c := range []struct {
		j    plant.Job
		plan []int
		want int
	}{
		{chapterJob(), []int{1, 1, 2, 2}, 6250},
		{chapterJob(), []int{0, 0, 0, 0}, 0},
		{chapterJob(), []int{0, 0, 0, 1}, 0},
		{chapterJob(), []int{1, 0, 1, 2}, 500 - 2000 + 2000 - 2000 + 4000},
		{chapterJob(), []int{1, 0, 1, 0}, 500 - 2000 + 2000 - 2000},
		{chapterJob(), []int{1, 2, 1, 0}, 500 - 2000 - 500 + 2000},
		{from(1), []int{1, 1, 2, 2}, 8250},
		{from(1), []int{0, 0, 0, 0}, 0},
		{from(1), []int{0, 1, 1, 1}, -250 - 2000 + 2000 + 2000},
		{from(1), []int{2, 1, 0, 1}, 1000 - 250 + 2000 - 2000},
		{from(2), []int{2, 2, 2, 2}, 1000 - 500 + 4000 + 4000},
		{from(2), []int{1, 0, 0, 0}, 500},
		{job([]int{0, 9}, 1, api.MaxStartup, 0, -1, 9), []int{1}, -1000000009},
		{goodJobs()["the greatest"], slices.Repeat([]int{11}, api.MaxHours), 100000000000},
		{goodJobs()["the greatest"], slices.Repeat([]int{0, 11}, api.MaxHours/2), 0},
		{goodJobs()["paid for"], slices.Repeat([]int{1}, api.MaxHours), -100000000000},
		{goodJobs()["paid for"], slices.Repeat([]int{0, 1}, api.MaxHours/2), -100000000000},
		{goodJobs()["mosts between"], []int{1, 1}, 35 - 3 - 35},
	} {
		if n, e := plant.Profit(c.j, c.plan); n != c.want || e != api.OK {
			t.Errorf("Profit(%v, %v): %d, %v", c.j, c.plan, n, e)
		}
	}
}

// TestPlans: P7.6, lists that are no plans, for Profit and ProveDispatch.
func TestPlans(t *testing.T) {
	j := job([]int{0, 10, 20, 30}, 2, 7, 1, 1, 30, 1, 29, 1, 20, 1, 0)
	_, _, table, _ := plant.Dispatch(j)
	for _, c := range []struct {
		what string
		plan []int
		want api.Errno
	}{
		{"as far up and down as may be", []int{3, 1, 2, 0}, api.OK},
		{"all that may be", []int{3, 2, 2, 0}, api.OK},
		{"none", nil, api.ErrArg},
		{"an hour too few", []int{3, 2, 2}, api.ErrArg},
		{"an hour too many", []int{3, 2, 2, 0, 0}, api.ErrArg},
		{"above the second Most", []int{3, 3, 2, 0}, api.ErrArg},
		{"above the third Most", []int{2, 2, 3, 0}, api.ErrArg},
		{"above the last Most", []int{3, 2, 2, 1}, api.ErrArg},
		{"too far down", []int{3, 0, 0, 0}, api.ErrArg},
		{"too far up", []int{0, 0, 0, 3}, api.ErrArg},
		{"no level", []int{3, 2, 2, -1}, api.ErrArg},
		{"no level at first", []int{-1, 0, 0, 0}, api.ErrArg},
		{"a level too many", []int{4, 2, 2, 0}, api.ErrArg},
	} {
		n, e := plant.Profit(j, c.plan)
		if e != c.want || e != api.OK && n != 0 {
			t.Errorf("Profit, %s: %d, %v", c.what, n, e)
		}
		if c.want != api.OK && (plant.ProveDispatch(j, c.plan, 0, table) || plant.ProveDispatch(j, c.plan, table[0][1], table)) {
			t.Errorf("ProveDispatch, %s", c.what)
		}
	}
	for hour := range j.Hours {
		for _, n := range outside(0, 3) {
			plan := []int{0, 0, 0, 0}
			plan[hour] = n
			if n, e := plant.Profit(j, plan); n != 0 || e != api.ErrArg {
				t.Errorf("Profit(%v): %d, %v", plan, n, e)
			}
		}
	}
	far := job([]int{0, 10, 20, 30}, 1, 7, 3, 1, 30)
	for next, want := range []api.Errno{api.ErrArg, api.ErrArg, api.OK, api.OK} {
		if _, e := plant.Profit(far, []int{next}); e != want {
			t.Errorf("Profit of %d after the first level: %v", next, e)
		}
	}
}

// plans gives all plans, the least lists first.
func plans(j plant.Job) [][]int {
	all := [][]int{nil}
	for hour := range j.Hours {
		var longer [][]int
		for _, plan := range all {
			last := j.First
			if hour > 0 {
				last = plan[hour-1]
			}
			for next := range j.Levels {
				if canFollow(j, hour, last, next) {
					longer = append(longer, append(slices.Clone(plan), next))
				}
			}
		}
		all = longer
	}
	return all
}

// TestProfitAny: P7.6, any plans, and lists that differ a little from them.
func TestProfitAny(t *testing.T) {
	d := &dice{seed: 76}
	met := map[bool]int{}
	for range 5000 {
		j := d.job(d.roll(2, api.MaxOutputs), d.roll(1, 20), d.pick(20, api.MaxOutput))
		plan, ok := d.plan(j)
		if !ok {
			continue
		}
		if d.roll(0, 1) == 0 {
			plan[d.roll(0, len(plan)-1)] += d.roll(-2, 2)
		}
		want, is := trueProfit(j, plan)
		met[is]++
		n, e := plant.Profit(j, plan)
		if n != want || is != (e == api.OK) || !is && e != api.ErrArg {
			t.Errorf("Profit(%v, %v): %d, %v", j, plan, n, e)
		}
	}
	if met[true] < 500 || met[false] < 500 {
		t.Errorf("too few of a kind: %v", met)
	}
}
