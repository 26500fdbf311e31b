package bore_test

import (
	"math"
	"slices"
	"testing"

	"fumarole/api"
	"fumarole/bore"
)

// The calls of the chapter, with their exact signatures.
var (
	_ func(bore.Well) api.Errno                                                            = bore.CheckWell
	_ func(bore.Well) ([]bore.Station, api.Errno)                                          = bore.Stations
	_ func(bore.Well, int) (may, sure []bore.Point, e api.Errno)                           = bore.Crossed
	_ func(bore.Well, bore.Well, int) (bool, api.Errno)                                    = bore.Near
	_ func(bore.Well, bore.Point, bore.Point) (uint8, api.Errno)                           = bore.Hits
	_ func(bore.Well, int, []bore.Leg) (bore.Well, api.Errno)                              = bore.Sidetrack
	_ func([]bore.Layer) api.Errno                                                         = bore.CheckRock
	_ func([]bore.Layer, int, int) (bore.Range, api.Errno)                                 = bore.Mud
	_ func([]bore.Layer, int, int, int) (int, api.Errno)                                   = bore.Losses
	_ func([]bore.Layer, []int, []int) (int, api.Errno)                                    = bore.Cost
	_ func([]bore.Layer, []int) (shoes []int, cost int, table [][]int, e api.Errno)        = bore.Plan
	_ func(rock []bore.Layer, prices, shoes []int, cost int, table [][]int) (accepts bool) = bore.ProvePlan
)

// farNumbers are numbers whose products, sums and differences overflow.
var farNumbers = []int{math.MinInt, math.MinInt + 1, -1 << 62, -1 << 34, 1 << 34, 1 << 62, math.MaxInt - 1, math.MaxInt}

func at(x, y, z int) bore.Point { return bore.Point{X: x, Y: y, Z: z} }

func leg(x, y, z, off int) bore.Leg { return bore.Leg{By: at(x, y, z), Error: off} }

func well(head bore.Point, legs ...bore.Leg) bore.Well { return bore.Well{Head: head, Legs: legs} }

func between(lo, hi int) bore.Range { return bore.Range{Lo: lo, Hi: hi} }

// numbers gives X, Y and Z.
func numbers(p bore.Point) [3]int { return [3]int{p.X, p.Y, p.Z} }

// point gives the point with the numbers.
func point(n [3]int) bore.Point { return at(n[0], n[1], n[2]) }

// chapterWell is the well of the chapter's examples.
func chapterWell() bore.Well { return well(at(250, 250, 0), leg(0, 0, 300, 5), leg(120, 160, 400, 10)) }

// chapterRock is the rock of the chapter's examples.
func chapterRock() []bore.Layer {
	return []bore.Layer{
		{Depth: 500, Pore: between(1000, 1050), Frac: between(1300, 1400), Leak: 1100},
		{Depth: 900, Pore: between(1200, 1250), Frac: between(1500, 1600), Leak: 2000},
	}
}

// easyRock is rock of so many layers that one mud holds in.
func easyRock(layers int) []bore.Layer {
	var rock []bore.Layer
	for i := range layers {
		rock = append(rock, bore.Layer{Depth: 10 * (i + 1), Pore: between(900, 1000), Frac: between(1200, 1300), Leak: 1100})
	}
	return rock
}

// dice gives numbers that are the same in each run.
type dice struct{ state uint64 }

// roll gives a number from lo to hi.
func (d *dice) roll(lo, hi int) int {
	d.state = d.state*6364136223846793005 + 1442695040888963407
	return lo + int((d.state>>20)%uint64(hi-lo+1))
}

// well gives a valid well of at most so many legs; its head is at most so far away, and so are the ends of a leg.
func (d *dice) well(legs, far int) bore.Well {
	w := well(at(d.roll(-far, far), d.roll(-far, far), d.roll(-far, far)))
	for range d.roll(1, legs) {
		by := at(d.roll(-far, far), d.roll(-far, far), d.roll(0, far))
		switch d.roll(0, 5) {
		case 0:
			by.X, by.Y = 0, 0
		case 1:
			by.Z = 0
		case 2:
			by = at(10*d.roll(-far/10, far/10), 10*d.roll(-far/10, far/10), 10*d.roll(0, far/10))
		}
		if by == (bore.Point{}) {
			by.Z = 1
		}
		w.Legs = append(w.Legs, bore.Leg{By: by, Error: d.roll(0, 3) * d.roll(0, api.MaxError/3)})
	}
	return w
}

// rock gives valid rock with at most so many layers, whose densities grow with the depth.
func (d *dice) rock(layers int) []bore.Layer {
	var rock []bore.Layer
	depth, density, steep := 0, 500, d.roll(0, 60)
	for range d.roll(1, layers) {
		depth += d.roll(1, 5)
		density += d.roll(0, steep)
		l := bore.Layer{Depth: depth, Leak: density + d.roll(0, 300)}
		l.Pore.Hi = density + d.roll(0, 50)
		l.Pore.Lo = l.Pore.Hi - d.roll(0, 100)
		l.Frac.Lo = density + d.roll(20, 200)
		l.Frac.Hi = l.Frac.Lo + d.roll(0, 100)
		rock = append(rock, l)
	}
	return rock
}

// prices gives at most so many prices, often equal ones.
func (d *dice) prices(most int) []int {
	l := make([]int, d.roll(1, most))
	top := d.roll(0, 5)
	for i := range l {
		l[i] = d.roll(0, top)
	}
	return l
}

// reach is between what a leg lies on each axis: at the part t of it, between low + t lowBy and high + t highBy.
type reach struct{ low, lowBy, high, highBy [3]int }

// reaches gives the reaches of the legs, as the chapter says.
func reaches(w bore.Well) []reach {
	var l []reach
	place, radius := numbers(w.Head), 0
	for _, leg := range w.Legs {
		var r reach
		for axis, by := range numbers(leg.By) {
			r.low[axis], r.lowBy[axis] = place[axis]-radius, by-leg.Error
			r.high[axis], r.highBy[axis] = place[axis]+radius, by+leg.Error
			place[axis] += by
		}
		radius += leg.Error
		l = append(l, r)
	}
	return l
}

// trueCourse gives the points of a true course of the well, often at the ends of what is possible.
func (d *dice) trueCourse(w bore.Well) []bore.Point {
	points := []bore.Point{w.Head}
	place, radius := numbers(w.Head), 0
	for _, leg := range w.Legs {
		radius += leg.Error
		off := place
		for axis, by := range numbers(leg.By) {
			place[axis] += by
			off[axis] = place[axis] + []int{-radius, d.roll(-radius, radius), radius}[d.roll(0, 2)]
		}
		points = append(points, point(off))
	}
	return points
}

// along gives the point that is n of d parts of the way from a to b, d times as great.
func along(a, b bore.Point, n, d int) [3]int {
	p, q := numbers(a), numbers(b)
	var l [3]int
	for axis := range l {
		l[axis] = d*p[axis] + n*(q[axis]-p[axis])
	}
	return l
}

func stations(t *testing.T, w bore.Well) []bore.Station {
	t.Helper()
	l, e := bore.Stations(w)
	if e != api.OK || len(l) != len(w.Legs)+1 {
		t.Fatalf("Stations(%v): %v, %v", w, l, e)
	}
	return l
}

func crossed(t *testing.T, w bore.Well, size int) (may, sure []bore.Point) {
	t.Helper()
	may, sure, e := bore.Crossed(w, size)
	if e != api.OK {
		t.Fatalf("Crossed(%v, %d): %v", w, size, e)
	}
	return may, sure
}

func near(t *testing.T, a, b bore.Well, gap int) bool {
	t.Helper()
	is, e := bore.Near(a, b, gap)
	if e != api.OK {
		t.Fatalf("Near(%v, %v, %d): %v", a, b, gap, e)
	}
	return is
}

func sameTable(a, b [][]int) bool {
	return slices.EqualFunc(a, b, func(x, y []int) bool { return slices.Equal(x, y) })
}

func sameWell(a, b bore.Well) bool { return a.Head == b.Head && slices.Equal(a.Legs, b.Legs) }
