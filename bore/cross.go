package bore

import (
	"iter"
	"maps"
	"slices"

	"fumarole/api"
)

// Crossed returns the blocks that the well may cross, and those that it surely crosses.
func Crossed(w Well, size int) (may, sure []Point, e api.Errno) {
	if e := CheckWell(w); e != api.OK {
		return nil, nil, e
	}
	if !within(size, api.MinSize, api.MaxSize) {
		return nil, nil, api.ErrRange
	}
	touched, passed := map[Point]bool{}, map[Point]bool{}
	for _, r := range measure(w).reaches() {
		for block := range r.blocks(size) {
			touch := r.limits(block, size, span.touching)
			if !possible(touch[:]...) {
				continue
			}
			touched[block] = true
			fit := r.limits(block, size, span.fitting)
			if possible(fit[:]...) {
				passed[block] = true
			}
		}
	}
	return inOrder(touched), inOrder(passed), api.OK
}

// blocks yields all blocks that touch the box around the reach.
func (r reach) blocks(size int) iter.Seq[Point] {
	x, y, z := r[0].numbers(size), r[1].numbers(size), r[2].numbers(size)
	return func(yield func(Point) bool) {
		var block Point
		for block.X = x.Lo; block.X <= x.Hi; block.X++ {
			for block.Y = y.Lo; block.Y <= y.Hi; block.Y++ {
				for block.Z = z.Lo; block.Z <= z.Hi; block.Z++ {
					if !yield(block) {
						return
					}
				}
			}
		}
	}
}

// numbers returns which blocks the span touches on its axis, whatever t is; a block contains both its ends.
func (s span) numbers(size int) Range {
	least := min(s.low.from, s.low.from+s.low.by)
	most := max(s.high.from, s.high.from+s.high.by)
	return Range{floor(least-1, size), floor(most, size)}
}

// limits returns those on t that the block makes on each axis.
func (r reach) limits(block Point, size int, of func(s span, lo, hi int) [2]limit) [6]limit {
	var all [6]limit
	for axis, n := range block.numbers() {
		two := of(r[axis], n*size, (n+1)*size)
		copy(all[2*axis:], two[:])
	}
	return all
}

// touching returns the limits on t with which the span has a number from lo to hi.
func (s span) touching(lo, hi int) [2]limit { return [2]limit{s.low.atMost(hi), s.high.atLeast(lo)} }

// fitting returns the limits on t with which the span has no other numbers than those from lo to hi.
func (s span) fitting(lo, hi int) [2]limit { return [2]limit{s.low.atLeast(lo), s.high.atMost(hi)} }

// floor divides, rounded down.
func floor(n, d int) int {
	if n < 0 {
		return -((d - 1 - n) / d)
	}
	return n / d
}

// inOrder returns the blocks ordered by X, then Y, then Z.
func inOrder(blocks map[Point]bool) []Point {
	return slices.SortedFunc(maps.Keys(blocks), func(a, b Point) int {
		p, q := a.numbers(), b.numbers()
		return slices.Compare(p[:], q[:])
	})
}
