package bore

// side is an end of a reach on an axis: at t it is at from, and t times by farther.
type side struct{ from, by int }

// span is between what a reach lies on an axis.
type span struct{ low, high side }

// reach is where a leg may be, on each axis.
type reach [3]span

// reaches returns the reach of each leg.
func (m measured) reaches() []reach {
	var reaches []reach
	for k, leg := range m.Legs {
		at, by, radius := m.stations[k].At.numbers(), leg.By.numbers(), m.stations[k].Radius
		var r reach
		for axis := range r {
			r[axis].low = side{at[axis] - radius, by[axis] - leg.Error}
			r[axis].high = side{at[axis] + radius, by[axis] + leg.Error}
		}
		reaches = append(reaches, r)
	}
	return reaches
}

func (s side) atMost(n int) limit { return limit{s.by, n - s.from} }

func (s side) atLeast(n int) limit { return limit{-s.by, s.from - n} }

// notAbove keeps the side, at t, at most the gap above the other one, at u.
func (s side) notAbove(other side, gap int) joint {
	return joint{limit{s.by, other.from + gap - s.from}, -other.by}
}

// notBelow keeps the side, at t, at most the gap below the other one, at u.
func (s side) notBelow(other side, gap int) joint {
	return joint{limit{-s.by, s.from + gap - other.from}, other.by}
}
