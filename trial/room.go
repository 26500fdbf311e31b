package trial

import (
	"iter"

	"fumarole/api"
)

// family is all curves that agree and have the same B and C; the A of its curve is 0.
type family struct {
	Curve
	rests Range // of A
}

// rooms yields a curve for each B of the box, rising, and each C, rising, with the A 0, and its rooms: that of the box, and then those of the steps.
func (t Test) rooms() iter.Seq2[Curve, []Range] {
	return func(yield func(Curve, []Range) bool) {
		for b := t.B.Lo; b <= t.B.Hi; b++ {
			for c := t.C.Lo; c <= t.C.Hi; c++ {
				curve := Curve{B: b, C: c}
				room := func(s Step) Range { return s.In.plus(-curve.at(s.Flow)) }
				rooms := []Range{t.A}
				for _, s := range t.Steps {
					rooms = append(rooms, room(s))
				}
				if !yield(curve, rooms) {
					return
				}
			}
		}
	}
}

// families returns all curves that agree with the test.
func (t Test) families() []family {
	var l []family
	for curve, rooms := range t.rooms() {
		if rests := cut(rooms[0], rooms[1:]...); rests.Lo <= rests.Hi {
			l = append(l, family{curve, rests})
		}
	}
	return l
}

// agreeing returns the families of the test, or the error of a call whose other arguments are in range or not.
func agreeing(t Test, inRange bool) ([]family, api.Errno) {
	if e := CheckTest(t); e != api.OK {
		return nil, e
	}
	if !inRange {
		return nil, api.ErrRange
	}
	l := t.families()
	if len(l) == 0 {
		return nil, api.ErrNone
	}
	return l, api.OK
}

// enclose returns the least and the greatest number of the ranges of the families; there is at least one family.
func enclose(l []family, of func(family) Range) Range {
	all := of(l[0])
	for _, f := range l {
		r := of(f)
		all = Range{min(all.Lo, r.Lo), max(all.Hi, r.Hi)}
	}
	return all
}

// drawdowns returns the least and the greatest drawdown of the families at the flow.
func drawdowns(l []family, flow int) Range {
	return enclose(l, func(f family) Range { return f.rests.plus(f.at(flow)) })
}
