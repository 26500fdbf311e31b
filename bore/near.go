package bore

import "fumarole/api"

// Near returns whether the wells may come as near to each other as the gap.
func Near(a, b Well, gap int) (bool, api.Errno) {
	for _, w := range []Well{a, b} {
		if e := CheckWell(w); e != api.OK {
			return false, e
		}
	}
	if !within(gap, 0, api.MaxGap) {
		return false, api.ErrRange
	}
	near, others := false, measure(b).reaches()
search:
	for _, r := range measure(a).reaches() {
		for _, other := range others {
			if near = r.nears(other, gap); near {
				break search
			}
		}
	}
	return near, api.OK
}

// nears returns whether points of both reaches differ by at most the gap on each axis.
func (r reach) nears(other reach, gap int) bool {
	var limits []joint
	for axis, s := range r {
		o := other[axis]
		limits = append(limits, s.low.notAbove(o.high, gap), s.high.notBelow(o.low, gap))
	}
	return possibleTogether(limits...)
}
