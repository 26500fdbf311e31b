package steam

import (
	"iter"

	"fumarole/api"
)

// CheckTable returns ErrArg if the table is not valid.
func CheckTable(t Table) api.Errno {
	if !t.valid() {
		return api.ErrArg
	}
	return api.OK
}

// At returns the greatest level whose pressure is at most the given one.
func At(t Table, pressure int) (int, api.Errno) {
	if e := CheckTable(t); e != api.OK {
		return 0, e
	}
	for level := len(t) - 1; level >= 0; level-- {
		if t[level].P <= pressure {
			return level, api.OK
		}
	}
	return 0, api.ErrNone
}

// Saturation returns the pressure at which water boils at the temperature, on straight lines between the rows.
func Saturation(t Table, temp int) (Ratio, api.Errno) {
	if e := CheckTable(t); e != api.OK {
		return Ratio{}, e
	}
	if !within(temp, t[0].T, t[len(t)-1].T) {
		return Ratio{}, api.ErrRange
	}
	next := 1
	for t[next].T < temp {
		next++
	}
	return between(t[next-1], t[next], temp), api.OK
}

// between returns the pressure at a temperature from that of one row to that of the other one.
func between(low, high Row, temp int) Ratio {
	d := high.T - low.T
	n := low.P*d + (high.P-low.P)*(temp-low.T)
	common := greatestDivisor(n, d)
	return Ratio{N: n / common, D: d / common}
}

// greatestDivisor returns the greatest number that divides both; both are above 0.
func greatestDivisor(a, b int) int {
	for b != 0 {
		a, b = b, a%b
	}
	return a
}

// checkLevels returns the errors of a table, and then those of levels of it.
func checkLevels(t Table, levels ...int) api.Errno {
	if e := CheckTable(t); e != api.OK {
		return e
	}
	if !every(levels, t.isLevel) {
		return api.ErrRange
	}
	return api.OK
}

func (t Table) valid() bool {
	if !within(len(t), 2, api.MaxRows) {
		return false
	}
	for i, r := range t {
		if !r.valid() || i > 0 && !t[i-1].below(r) {
			return false
		}
	}
	return true
}

func (t Table) isLevel(level int) bool { return within(level, 0, len(t)-1) }

// rows yields the row of each of the levels.
func (t Table) rows(levels []int) iter.Seq[Row] {
	return func(yield func(Row) bool) {
		for _, level := range levels {
			if !yield(t[level]) {
				return
			}
		}
	}
}

func (r Row) valid() bool {
	return within(r.T, 0, api.MaxTemp) &&
		within(r.P, 1, api.MaxPressure) &&
		within(r.Liquid, 0, api.MaxEnthalpy) &&
		within(r.Silica, 0, api.MaxSilica) &&
		r.Liquid < r.Vapour && r.Vapour <= api.MaxEnthalpy
}

// below returns whether the row may stand before the other one in a table.
func (r Row) below(next Row) bool {
	return r.T < next.T && r.P < next.P && r.Liquid < next.Liquid && r.Silica <= next.Silica
}
