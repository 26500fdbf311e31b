package bore

// limit is one on t: slope times t is at most most.
type limit struct{ slope, most int }

// joint is a limit on t and u: slope times t and slopeU times u are together at most most.
type joint struct {
	limit
	slopeU int
}

// fraction is n/d; d is above 0.
type fraction struct{ n, d int }

// possible returns whether some t from 0 to 1 keeps all limits.
func possible(limits ...limit) bool {
	from, to := fraction{0, 1}, fraction{1, 1}
	for _, l := range limits {
		switch {
		case l.slope > 0:
			if end := (fraction{l.most, l.slope}); end.below(to) {
				to = end
			}
		case l.slope < 0:
			if end := (fraction{-l.most, -l.slope}); from.below(end) {
				from = end
			}
		case l.most < 0:
			return false
		}
	}
	return !to.below(from)
}

// possibleTogether returns whether some t and some u, each from 0 to 1, keep all limits.
func possibleTogether(limits ...joint) bool {
	all := []joint{{limit{0, 0}, -1}, {limit{0, 1}, 1}} // u is from 0 to 1
	return possible(withoutU(append(all, limits...))...)
}

// withoutU returns what is left of the limits for t: some u goes with it exactly if no least u is above a greatest one.
func withoutU(limits []joint) []limit {
	var left []limit
	for _, a := range limits {
		if a.slopeU == 0 {
			left = append(left, a.limit)
		}
		for _, b := range limits {
			if a.slopeU > 0 && b.slopeU < 0 {
				left = append(left, limit{
					slope: b.slope*a.slopeU - a.slope*b.slopeU,
					most:  b.most*a.slopeU - a.most*b.slopeU,
				})
			}
		}
	}
	return left
}

func (f fraction) below(g fraction) bool { return f.n*g.d < g.n*f.d }
