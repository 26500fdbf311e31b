package bore_test

import (
	"cmp"
	"slices"
	"testing"

	"fumarole/api"
	"fumarole/bore"
)

// part is the part n/d of a leg.
type part struct{ n, d int }

// parts gives the ends of a leg, and the parts of it at which an end of the reach is at an end of the block. If any part has the reach in the block, or a point of it, one of these has.
func (r reach) parts(block bore.Point, size int) []part {
	l := []part{{0, 1}, {1, 1}}
	add := func(from, by, n int) {
		p := part{n - from, by}
		if by < 0 {
			p = part{from - n, -by}
		}
		if by != 0 && 0 < p.n && p.n < p.d {
			l = append(l, p)
		}
	}
	for axis, n := range numbers(block) {
		for _, end := range []int{n * size, (n + 1) * size} {
			add(r.low[axis], r.lowBy[axis], end)
			add(r.high[axis], r.highBy[axis], end)
		}
	}
	return l
}

// crosses gives whether a point of the reach is in the block for some part, and whether all of it is.
func (r reach) crosses(block bore.Point, size int) (may, sure bool) {
	for _, p := range r.parts(block, size) {
		touches, fits := true, true
		for axis, n := range numbers(block) {
			low, high := p.d*r.low[axis]+p.n*r.lowBy[axis], p.d*r.high[axis]+p.n*r.highBy[axis]
			from, to := p.d*n*size, p.d*(n+1)*size
			touches = touches && low <= to && high >= from
			fits = fits && low >= from && high <= to
		}
		may, sure = may || touches, sure || fits
	}
	return may, sure
}

// around gives all blocks near the reach.
func (r reach) around(size int) []bore.Point {
	var lo, hi [3]int
	for axis := range lo {
		lo[axis] = min(r.low[axis], r.low[axis]+r.lowBy[axis])/size - 2
		hi[axis] = max(r.high[axis], r.high[axis]+r.highBy[axis])/size + 2
	}
	var l []bore.Point
	for x := lo[0]; x <= hi[0]; x++ {
		for y := lo[1]; y <= hi[1]; y++ {
			for z := lo[2]; z <= hi[2]; z++ {
				l = append(l, at(x, y, z))
			}
		}
	}
	return l
}

// crossedBy gives what Crossed must return.
func crossedBy(w bore.Well, size int) (may, sure []bore.Point) {
	for _, r := range reaches(w) {
		for _, block := range r.around(size) {
			touches, fits := r.crosses(block, size)
			if touches {
				may = append(may, block)
			}
			if fits {
				sure = append(sure, block)
			}
		}
	}
	return ordered(may), ordered(sure)
}

func ordered(l []bore.Point) []bore.Point {
	slices.SortFunc(l, func(a, b bore.Point) int {
		return cmp.Or(cmp.Compare(a.X, b.X), cmp.Compare(a.Y, b.Y), cmp.Compare(a.Z, b.Z))
	})
	return slices.Compact(l)
}

// TestCrossed: P3.2, wells along the faces, the edges and the corners of blocks, and just beside them.
func TestCrossed(t *testing.T) {
	inside := at(50, 50, 50)
	for what, c := range map[string]struct {
		w         bore.Well
		may, only []bore.Point // only: those that it does not surely cross
	}{
		"in a block":        {w: well(inside, leg(10, 0, 0, 20)), may: []bore.Point{at(0, 0, 0)}},
		"to a face":         {w: well(inside, leg(50, 0, 0, 0)), may: []bore.Point{at(0, 0, 0), at(1, 0, 0)}},
		"nearly to a face":  {w: well(inside, leg(49, 0, 0, 0)), may: []bore.Point{at(0, 0, 0)}},
		"maybe to a face":   {well(inside, leg(49, 0, 0, 1)), []bore.Point{at(0, 0, 0), at(1, 0, 0)}, []bore.Point{at(1, 0, 0)}},
		"back to a face":    {w: well(inside, leg(0, -50, 0, 0)), may: []bore.Point{at(0, -1, 0), at(0, 0, 0)}},
		"nearly back to it": {w: well(inside, leg(0, -49, 0, 0)), may: []bore.Point{at(0, 0, 0)}},
		"on the ground":     {w: well(at(50, 50, 0), leg(1, 0, 0, 0)), may: []bore.Point{at(0, 0, -1), at(0, 0, 0)}},
		"to an edge":        {w: well(inside, leg(50, 50, 0, 0)), may: []bore.Point{at(0, 0, 0), at(0, 1, 0), at(1, 0, 0), at(1, 1, 0)}},
		"across an edge":    {w: well(at(50, 150, 50), leg(100, -100, 0, 0)), may: []bore.Point{at(0, 0, 0), at(0, 1, 0), at(1, 0, 0), at(1, 1, 0)}},
		"beside an edge":    {w: well(at(51, 150, 50), leg(100, -100, 0, 0)), may: []bore.Point{at(0, 1, 0), at(1, 0, 0), at(1, 1, 0)}},
		"through blocks":    {w: well(at(0, 50, 50), leg(200, 0, 0, 0)), may: []bore.Point{at(-1, 0, 0), at(0, 0, 0), at(1, 0, 0), at(2, 0, 0)}},
		"there and back":    {w: well(inside, leg(60, 0, 0, 0), leg(-60, 0, 0, 0)), may: []bore.Point{at(0, 0, 0), at(1, 0, 0)}},
		"left of the zero":  {w: well(at(-50, -150, -250), leg(0, 0, 1, 0)), may: []bore.Point{at(-1, -2, -3)}},
		"sure in the end":   {w: well(at(50, 50, 90), leg(0, 0, 30, 20)), may: []bore.Point{at(0, 0, 0), at(0, 0, 1)}},
		"sure no more":      {well(at(50, 50, 90), leg(0, 0, 29, 20)), []bore.Point{at(0, 0, 0), at(0, 0, 1)}, []bore.Point{at(0, 0, 1)}},
		"sure at a part":    {w: well(at(50, 98, 50), leg(3, 3, 0, 0)), may: []bore.Point{at(0, 0, 0), at(0, 1, 0)}},
		"maybe into more":   {well(inside, leg(0, 0, 65, 20), leg(80, 0, 0, 0)), []bore.Point{at(0, 0, 0), at(0, 0, 1), at(1, 0, 0), at(1, 0, 1)}, []bore.Point{at(0, 0, 1), at(1, 0, 0), at(1, 0, 1)}},
	} {
		may, sure := crossed(t, c.w, 100)
		wantSure := slices.DeleteFunc(slices.Clone(c.may), func(b bore.Point) bool { return slices.Contains(c.only, b) })
		if !slices.Equal(may, c.may) || !slices.Equal(sure, wantSure) {
			t.Errorf("%s: %v, %v", what, may, sure)
		}
	}
}

// TestCrossedCorner: P3.2, all blocks at a corner, in their order.
func TestCrossedCorner(t *testing.T) {
	want := []bore.Point{at(-1, -1, -1), at(-1, -1, 0), at(-1, 0, -1), at(-1, 0, 0), at(0, -1, -1), at(0, -1, 0), at(0, 0, -1), at(0, 0, 0)}
	may, sure := crossed(t, well(at(0, 0, 0), leg(0, 0, 99, 0)), 100)
	if !slices.Equal(may, want) || !slices.Equal(sure, want) {
		t.Errorf("from a corner: %v, %v", may, sure)
	}
	may, sure = crossed(t, well(at(0, 0, 0), leg(0, 0, 1, 1)), 1000)
	if !slices.Equal(may, want) || !slices.Equal(sure, want) {
		t.Errorf("sure at the head only: %v, %v", may, sure)
	}
}

// TestCrossedSizes: P3.2, of any wells, with blocks of any size.
func TestCrossedSizes(t *testing.T) {
	d := &dice{state: 32}
	differ := 0
	for range 600 {
		w, size := d.well(4, []int{120, 300, 1000}[d.roll(0, 2)]), []int{api.MinSize, 100 * d.roll(1, 10), d.roll(api.MinSize, api.MaxSize)}[d.roll(0, 2)]
		may, sure := crossed(t, w, size)
		wantMay, wantSure := crossedBy(w, size)
		if !slices.Equal(may, wantMay) || !slices.Equal(sure, wantSure) {
			t.Errorf("Crossed(%v, %d): %v, %v, not %v, %v", w, size, may, sure, wantMay, wantSure)
		}
		if len(sure) < len(may) {
			differ++
		}
	}
	if differ < 100 {
		t.Errorf("too few that may cross more than they surely cross: %d", differ)
	}
}

// TestCrossedMost: P3.2, the greatest numbers.
func TestCrossedMost(t *testing.T) {
	for _, w := range []bore.Well{
		well(at(api.MaxPlace, -api.MaxPlace, api.MaxPlace), slices.Repeat([]bore.Leg{leg(1000, -1000, 1000, 20)}, api.MaxLegs)...),
		well(at(-api.MaxPlace, api.MaxPlace, -api.MaxPlace), slices.Repeat([]bore.Leg{leg(-1000, 999, 0, 20)}, api.MaxLegs)...),
	} {
		may, sure := crossed(t, w, api.MinSize)
		wantMay, wantSure := crossedBy(w, api.MinSize)
		if !slices.Equal(may, wantMay) || !slices.Equal(sure, wantSure) {
			t.Errorf("Crossed(%v): %d and %d blocks, not %d and %d", w, len(may), len(sure), len(wantMay), len(wantSure))
		}
	}
}

// TestCourseInBlocks: P3.8, each point of a true course is in blocks that may be crossed, and each one surely crossed has a point of it.
func TestCourseInBlocks(t *testing.T) {
	d := &dice{state: 38}
	for range 300 {
		w, size := d.well(4, 400), d.roll(api.MinSize, 200)
		may, sure := crossed(t, w, size)
		for range 5 {
			course := d.trueCourse(w)
			steps := make([]reach, len(w.Legs)) // the course is a reach without errors
			for k := range w.Legs {
				from, to := numbers(course[k]), numbers(course[k+1])
				for axis := range from {
					steps[k].low[axis], steps[k].high[axis] = from[axis], from[axis]
					steps[k].lowBy[axis], steps[k].highBy[axis] = to[axis]-from[axis], to[axis]-from[axis]
				}
				for n := range 17 {
					if block := holder(along(course[k], course[k+1], n, 16), 16*size); !slices.Contains(may, block) {
						t.Errorf("Crossed(%v, %d): not %v, and %v", w, size, block, course)
					}
				}
			}
			for _, block := range sure {
				if !slices.ContainsFunc(steps, func(r reach) bool { may, _ := r.crosses(block, size); return may }) {
					t.Errorf("Crossed(%v, %d): surely %v, and %v", w, size, block, course)
				}
			}
		}
	}
}

// holder gives a block of the size that has the point.
func holder(p [3]int, size int) bore.Point {
	for axis, n := range p {
		p[axis] = n / size
		if n%size < 0 {
			p[axis]--
		}
	}
	return point(p)
}

// TestCrossedErrors: P3.8, what greater errors change.
func TestCrossedErrors(t *testing.T) {
	d := &dice{state: 380}
	changed := 0
	for range 400 {
		w, size := d.well(4, 300), d.roll(api.MinSize, 300)
		may, sure := crossed(t, w, size)
		k := d.roll(0, len(w.Legs)-1)
		w.Legs[k].Error = min(api.MaxError, w.Legs[k].Error+d.roll(1, 20))
		more, fewer := crossed(t, w, size)
		if !contains(may, sure) || !contains(more, may) || !contains(sure, fewer) {
			t.Errorf("Crossed(%v, %d): %v, %v, and with less error %v, %v", w, size, more, fewer, may, sure)
		}
		if len(more) > len(may) && len(fewer) < len(sure) {
			changed++
		}
	}
	if changed < 20 {
		t.Errorf("too few that change: %d", changed)
	}
}

// contains gives whether the list has all the blocks.
func contains(l, blocks []bore.Point) bool {
	for _, b := range blocks {
		if !slices.Contains(l, b) {
			return false
		}
	}
	return true
}
