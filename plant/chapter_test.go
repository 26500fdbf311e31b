package plant_test

import (
	"slices"
	"testing"

	"fumarole/api"
	"fumarole/plant"
	"fumarole/steam"
)

// TestChapterExamples: the examples of the chapter, in its order.
func TestChapterExamples(t *testing.T) {
	u := chapterUnit()
	if n, e := plant.Power(u, 120); n != 56000 || e != api.OK {
		t.Errorf("Power: %d, %v", n, e)
	}
	s, work, e := plant.Expand(u, stream(120, 330000, 0, 0))
	if s != stream(120, 274000, 0, 0) || work != 56000 || e != api.OK {
		t.Errorf("Expand: %v, %d, %v", s, work, e)
	}
	s, vent, e := plant.Condense(s, stream(1000, 84000, 0, 3), 1000)
	if s != stream(1120, 358000, 0, 0) || vent != 3 || e != api.OK {
		t.Errorf("Condense: %v, %d, %v", s, vent, e)
	}
	s, air, e := plant.Tower(s, 200)
	if s != stream(1120, 224000, 0, 0) || air != 134000 || e != api.OK {
		t.Errorf("Tower: %v, %d, %v", s, air, e)
	}
	s, work, sink, e := plant.Run(plant.Cycle{Out: 300, Yield: 120, Most: 50000}, stream(500, 210000, 0, 0))
	if s != stream(500, 160000, 0, 0) || work != 6000 || sink != 44000 || e != api.OK {
		t.Errorf("Run: %v, %d, %d, %v", s, work, sink, e)
	}
	plan, profit, table, e := plant.Dispatch(chapterJob())
	if !slices.Equal(plan, []int{1, 1, 2, 2}) || profit != 6250 || e != api.OK {
		t.Errorf("Dispatch: %v, %d, %v", plan, profit, e)
	}
	if !isLeast(chapterJob(), table) || !plant.ProveDispatch(chapterJob(), plan, profit, table) {
		t.Errorf("Dispatch, the table: %v", table)
	}
}

// TestChapterShare: the chapter's example of a sharing, which is the seventh one of DOC.md.
func TestChapterShare(t *testing.T) {
	heads, units := []int{30, 100}, []plant.Unit{chapterUnit(), unit(0, 200, 400)}
	masses, work, prices, e := plant.Share(heads, units)
	if !slices.Equal(masses, []int{100, 30}) || work != 62000 || e != api.OK {
		t.Errorf("Share: %v, %d, %v", masses, work, e)
	}
	if !arePrices(heads, prices) || trueBound(heads, units, prices) != 62000 {
		t.Errorf("Share, the prices: %v", prices)
	}
	if n, e := plant.Bound(heads, units, []int{400, 0}); n != 62000 || e != api.OK {
		t.Errorf("Bound: %d, %v", n, e)
	}
	if !plant.ProveShare(heads, units, []int{100, 30}, 62000, []int{400, 0}) {
		t.Errorf("ProveShare")
	}
}

// spoil clears the list, and what its memory has behind it.
func spoil[T any](l []T) { clear(l[:cap(l)]) }

func roomy[T any](l ...T) []T { return slices.Grow(l, 20) }

func sameList[T comparable](a, b []T) bool {
	return slices.Equal(a, b) && slices.Equal(a[:cap(a)], b[:cap(b)])
}

// given is all that the calls are given, with memory behind each list.
type given struct {
	line          plant.Line
	units         []plant.Unit
	heads, masses []int
	prices, plan  []int
	job           plant.Job
	table         [][]int
}

// quiet gives arguments that are the same each time.
func quiet() given {
	g := given{
		line:   plant.Line{Table: roomy(chapterTable()...), Unit: unit(1, 100, 500, 91, 300), Most: 100, Target: 100, Cycle: plant.Cycle{Out: 300, Yield: 120, Most: 9000}},
		units:  roomy(chapterUnit(), unit(0, 200, 400)),
		heads:  roomy(30, 100),
		masses: roomy(100, 30),
		prices: roomy(400, 0),
		plan:   roomy(1, 1, 2, 2),
		job:    chapterJob(),
		table:  roomy(roomy(6250, 8750, 8750), roomy(5750, 7750, 7750), roomy(4000, 8000, 8000), roomy(0, 4000, 4000), roomy(0, 0, 0)),
	}
	g.line.Unit.Parts = roomy(g.line.Unit.Parts...)
	for i, u := range g.units {
		g.units[i].Parts = roomy(u.Parts...)
	}
	g.job.Levels, g.job.Hours = roomy(g.job.Levels...), roomy(g.job.Hours...)
	return g
}

// same gives whether the arguments are alike, with what is behind the lists.
func (g given) same(x given) bool {
	return sameList(g.line.Table, x.line.Table) && sameList(g.line.Unit.Parts, x.line.Unit.Parts) && g.line.Cycle == x.line.Cycle &&
		slices.EqualFunc(g.units[:cap(g.units)], x.units[:cap(x.units)], func(a, b plant.Unit) bool {
			return a.Inlet == b.Inlet && sameList(a.Parts, b.Parts)
		}) &&
		sameList(g.heads, x.heads) && sameList(g.masses, x.masses) && sameList(g.prices, x.prices) && sameList(g.plan, x.plan) &&
		sameList(g.job.Levels, x.job.Levels) && sameList(g.job.Hours, x.job.Hours) &&
		slices.EqualFunc(g.table[:cap(g.table)], x.table[:cap(x.table)], sameList)
}

// TestMemory: R4, arguments stay as they are, and what is returned is new; nothing is remembered.
func TestMemory(t *testing.T) {
	g := quiet()
	for range 2 {
		plant.CheckUnit(g.units[0])
		plant.Power(g.units[0], 150)
		plant.Expand(g.units[0], stream(120, 330000, 0, 0))
		if _, e := plant.Settle(g.line, stream(1000, 852000, 250000, 50), stream(5000, 420000, 7, 3)); e != api.OK {
			t.Errorf("Settle: %v", e)
		}
		masses, work, prices, e := plant.Share(g.heads, g.units)
		if !slices.Equal(masses, []int{100, 30}) || work != 62000 || e != api.OK {
			t.Errorf("Share: %v, %d, %v", masses, work, e)
		}
		spoil(masses)
		if !arePrices(g.heads, prices) || trueBound(g.heads, g.units, prices) != work {
			t.Errorf("Share, the prices: %v", prices)
		}
		spoil(prices)
		plant.Bound(g.heads, g.units, g.prices)
		if !plant.ProveShare(g.heads, g.units, g.masses, 62000, g.prices) {
			t.Errorf("ProveShare")
		}
		plant.Profit(g.job, g.plan)
		plan, _, table, _ := plant.Dispatch(g.job)
		spoil(table)
		spoil(plan)
		if !plant.ProveDispatch(g.job, g.plan, 6250, g.table) {
			t.Errorf("ProveDispatch")
		}
		if !g.same(quiet()) {
			t.Fatalf("arguments were changed: %v", g)
		}
	}
}

// TestMemoryOfTables: R4, no row of a table shares memory with another one, nor with the plan or the job.
func TestMemoryOfTables(t *testing.T) {
	g := quiet()
	for spoiled := range g.table {
		plan, _, table, e := plant.Dispatch(g.job)
		if !slices.Equal(plan, g.plan) || !sameTable(table, g.table) || e != api.OK {
			t.Fatalf("Dispatch: %v, %v, %v", plan, table, e)
		}
		row := table[spoiled][:cap(table[spoiled])]
		for i := range row {
			row[i] = -7
		}
		for hour := range table {
			if hour != spoiled && !slices.Equal(table[hour], g.table[hour]) {
				t.Errorf("the row %d shares memory with %d", hour, spoiled)
			}
		}
		if !slices.Equal(plan, g.plan) || !g.same(quiet()) {
			t.Errorf("the row %d shares memory with the plan, or with the job", spoiled)
		}
		spoil(plan)
		if !g.same(quiet()) {
			t.Errorf("the plan shares memory with the job")
		}
	}
	for range 2 {
		masses, _, prices, _ := plant.Share(g.heads, g.units)
		want := slices.Clone(prices)
		spoil(masses)
		if !slices.Equal(prices, want) {
			t.Errorf("the masses share memory with the prices")
		}
	}
}

// TestEmptyLists: R3, lists that are empty and not nil are as good as nil.
func TestEmptyLists(t *testing.T) {
	u := plant.Unit{Parts: []plant.Part{}}
	j := plant.Job{Levels: []int{0, 1}, Ramp: 1, Hours: []plant.Hour{}}
	l := plant.Line{Table: steam.Table{}, Unit: unit(0, 1, 1)}
	_, _, _, share := plant.Share([]int{}, []plant.Unit{unit(0, 1, 1)})
	_, _, _, none := plant.Share([]int{1}, []plant.Unit{})
	_, bound := plant.Bound([]int{1}, []plant.Unit{unit(0, 1, 1)}, []int{})
	_, _, _, dispatch := plant.Dispatch(j)
	_, profit := plant.Profit(chapterJob(), []int{})
	_, settle := plant.Settle(l, steam.Stream{}, steam.Stream{})
	for name, e := range map[string]api.Errno{"CheckUnit": plant.CheckUnit(u), "Share": share, "Share among none": none, "Bound": bound, "Dispatch": dispatch, "Profit": profit, "Settle": settle} {
		if e != api.ErrArg {
			t.Errorf("%s: %v", name, e)
		}
	}
	if plant.ProveShare([]int{1}, []plant.Unit{unit(0, 1, 1)}, []int{}, 0, []int{}) || plant.ProveDispatch(chapterJob(), []int{}, 0, [][]int{}) {
		t.Errorf("a proof of nothing")
	}
}
