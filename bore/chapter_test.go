package bore_test

import (
	"slices"
	"testing"

	"fumarole/api"
	"fumarole/bore"
)

// TestChapterWells: the examples of the chapter, up to Hits.
func TestChapterWells(t *testing.T) {
	w := chapterWell()
	if l := stations(t, w); !slices.Equal(l, []bore.Station{{At: at(250, 250, 0)}, {At: at(250, 250, 300), Radius: 5, Length: 300}, {At: at(370, 410, 700), Radius: 15, Length: 747}}) {
		t.Errorf("Stations: %v", l)
	}
	may, sure := crossed(t, w, 400)
	if !slices.Equal(may, []bore.Point{at(0, 0, -1), at(0, 0, 0), at(0, 0, 1), at(0, 1, 1)}) || !slices.Equal(sure, may[:3]) {
		t.Errorf("Crossed: %v, %v", may, sure)
	}
	for _, c := range []struct {
		low  bore.Point
		want uint8
	}{{at(350, 400, 680), bore.Maybe}, {at(350, 390, 680), bore.Yes}} {
		if n, e := bore.Hits(w, c.low, at(390, 430, 720)); n != c.want || e != api.OK {
			t.Errorf("Hits from %v: %d, %v", c.low, n, e)
		}
	}
	if l := [3]uint8{bore.No, bore.Maybe, bore.Yes}; l != [3]uint8{1, 2, 3} {
		t.Errorf("No, Maybe, Yes: %v", l)
	}
}

// TestChapterRock: the examples of the chapter, from Mud on.
func TestChapterRock(t *testing.T) {
	rock := chapterRock()
	if r, e := bore.Mud(rock, 0, 2); r != between(1250, 1300) || e != api.OK {
		t.Errorf("Mud: %v, %v", r, e)
	}
	if n, e := bore.Losses(rock, 0, 2, 1250); n != 75000 || e != api.OK {
		t.Errorf("Losses: %d, %v", n, e)
	}
	prices := []int{3, 2}
	shoes, cost, table, e := bore.Plan(rock, prices)
	if !slices.Equal(shoes, []int{2}) || cost != 2700 || !sameTable(table, [][]int{{1500, 2700}, {api.MaxCost, 3300}}) || e != api.OK {
		t.Errorf("Plan: %v, %d, %v, %v", shoes, cost, table, e)
	}
	if !bore.ProvePlan(rock, prices, shoes, cost, table) {
		t.Error("ProvePlan does not accept it")
	}
	rock[0].Frac.Lo = 1200
	shoes, cost, table, e = bore.Plan(rock, prices)
	if !slices.Equal(shoes, []int{1, 2}) || cost != 3300 || !sameTable(table, [][]int{{1500, api.MaxCost}, {api.MaxCost, 3300}}) || e != api.OK {
		t.Errorf("Plan with weaker rock: %v, %d, %v, %v", shoes, cost, table, e)
	}
	if !bore.ProvePlan(rock, prices, shoes, cost, table) {
		t.Error("ProvePlan does not accept it with weaker rock")
	}
}

// TestDocumentExample: the third example of DOC.md.
func TestDocumentExample(t *testing.T) {
	l := stations(t, well(at(0, 0, 0), leg(0, 0, 300, 5), leg(120, 160, 400, 10)))
	if l[2].Length != 747 || l[2].Radius != 15 {
		t.Errorf("Stations: %v", l)
	}
}

// TestMemory: R4, arguments stay as they are, and what is returned is new.
func TestMemory(t *testing.T) {
	w, rock, prices, legs := chapterWell(), chapterRock(), []int{3, 2}, []bore.Leg{leg(0, 0, 7, 1)}
	w.Legs = slices.Grow(w.Legs, 5) // what is appended to a part of it would be written into it
	for range 2 {
		found := stations(t, w)
		may, sure := crossed(t, w, 400)
		cut, _ := bore.Sidetrack(w, 1, legs)
		same, _ := bore.Sidetrack(w, 2, nil)
		fresh, _ := bore.Sidetrack(w, 0, legs)
		bore.Near(w, w, 0)
		bore.Hits(w, at(0, 0, 0), at(0, 0, 0))
		bore.Mud(rock, 0, 2)
		bore.Losses(rock, 0, 2, 1250)
		shoes, cost, table, _ := bore.Plan(rock, prices)
		bore.Cost(rock, prices, shoes)
		if !bore.ProvePlan(rock, prices, shoes, cost, table) || !sameTable(table, [][]int{{1500, 2700}, {api.MaxCost, 3300}}) {
			t.Errorf("ProvePlan changes the table, or Plan keeps it: %v", table)
		}
		spoil(found)
		spoil(may)
		if !slices.Equal(sure, []bore.Point{at(0, 0, -1), at(0, 0, 0), at(0, 0, 1)}) {
			t.Errorf("what Crossed returns is shared, or kept: %v", sure)
		}
		spoil(sure)
		spoil(cut.Legs)
		spoil(same.Legs)
		spoil(fresh.Legs)
		spoil(table[0])
		if !slices.Equal(shoes, []int{2}) || !slices.Equal(table[1], []int{api.MaxCost, 3300}) {
			t.Errorf("what Plan returns is shared: %v, %v", shoes, table)
		}
		spoil(table[1])
		spoil(shoes)
		if !sameWell(w, chapterWell()) || !slices.Equal(rock, chapterRock()) || !slices.Equal(prices, []int{3, 2}) || !slices.Equal(legs, []bore.Leg{leg(0, 0, 7, 1)}) {
			t.Fatalf("arguments were changed: %v, %v, %v, %v", w, rock, prices, legs)
		}
	}
}

// spoil clears the list, and what its memory has behind it.
func spoil[T any](l []T) { clear(l[:cap(l)]) }
