package rock

import (
	"fumarole/api"
	"fumarole/field"
)

// Strikes returns which models are left, and for each other one the first reading that contradicts it.
func Strikes(b Bed, models []field.Model, plan [][]int, l []Reading) (left []int, strikes []Strike, e api.Errno) {
	grounds, e := expect(b, plan, models...)
	if e != api.OK {
		return nil, nil, e
	}
	if e := b.checkReadings(l, len(plan)); e != api.OK {
		return nil, nil, e
	}
	courses, e := play(grounds, plan)
	if e != api.OK {
		return nil, nil, e
	}
	for i, c := range courses {
		if first, miss := c.contradicted(l); miss == 0 {
			left = append(left, i)
		} else {
			strikes = append(strikes, Strike{Model: i, Reading: first, Miss: miss})
		}
	}
	return left, strikes, api.OK
}

func (b Bed) checkReadings(l []Reading, ticks int) api.Errno {
	if len(l) > api.MaxReadings {
		return api.ErrLimit
	}
	for _, r := range l {
		if !r.valid() {
			return api.ErrArg
		}
		if !b.hasRead(r, ticks) {
			return api.ErrRange
		}
	}
	return api.OK
}

// valid returns whether the reading is one, wherever and whenever it was made.
func (r Reading) valid() bool {
	return Pressure <= r.What && r.What <= Stain && -api.MaxSum <= r.In.Lo && r.In.Lo <= r.In.Hi && r.In.Hi <= api.MaxSum
}

// hasRead returns whether the valid reading was made in a run of so many ticks.
func (b Bed) hasRead(r Reading, ticks int) bool {
	if r.What == Pressure {
		return within(r.Tick, 0, ticks) && b.hasBlock(r.Index)
	}
	return within(r.Tick, 1, ticks) && b.hasWell(r.Index)
}

// contradicted returns the first reading that contradicts the course, and the miss; the miss is 0 if none does.
func (c course) contradicted(l []Reading) (first, miss int) {
	values := tellers()
	for i, r := range l {
		if miss := r.In.miss(values[r.What](c, r)); miss != 0 {
			return i, miss
		}
	}
	return 0, 0
}

// miss returns by how much n is above the range, or below it.
func (r Range) miss(n int) int {
	switch {
	case n > r.Hi:
		return n - r.Hi
	case n < r.Lo:
		return n - r.Lo
	}
	return 0
}

// tellers returns for each What how the value of a reading is found in a course.
func tellers() [Stain + 1]func(course, Reading) int {
	return [...]func(course, Reading) int{
		Pressure: course.pressureOf,
		Mass:     course.massOf,
		Warmth:   course.warmthOf,
		Stain:    course.stainOf,
	}
}

func (c course) pressureOf(r Reading) int { return c.pressure(c.States[r.Tick], r.Index) }

func (c course) massOf(r Reading) int { return c.yieldOf(r).Mass }

func (c course) warmthOf(r Reading) int {
	y := c.yieldOf(r)
	if y.Mass == 0 {
		return 0
	}
	return y.Heat / y.Mass
}

func (c course) stainOf(r Reading) int { return c.yieldOf(r).Mark }

// yieldOf returns the yield that is read: ticks are counted from 1.
func (c course) yieldOf(r Reading) Yield { return c.Yields[r.Tick-1][r.Index] }
