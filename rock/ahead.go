package rock

import (
	"fumarole/api"
	"fumarole/field"
)

// Ahead returns for each tick between what the yields, and the pressures after it, lie in all models.
func Ahead(b Bed, models []field.Model, plan [][]int) ([]Forecast, api.Errno) {
	grounds, e := expect(b, plan, models...)
	if e != api.OK {
		return nil, e
	}
	courses, e := play(grounds, plan)
	if e != api.OK {
		return nil, e
	}
	var forecasts []Forecast
	for i := range plan {
		forecasts = append(forecasts, b.forecast(courses, i+1))
	}
	return forecasts, api.OK
}

// Decline returns the least and the greatest first tick in which the well yields less than the mass.
func Decline(b Bed, models []field.Model, plan [][]int, well, least int) (first, last int, e api.Errno) {
	grounds, e := expect(b, plan, models...)
	if e != api.OK {
		return 0, 0, e
	}
	if !b.hasWell(well) || !within(least, 0, api.MaxRate) {
		return 0, 0, api.ErrRange
	}
	return when(grounds, plan, well, func(y Yield) bool { return y.Mass < least })
}

// Arrival returns the least and the greatest first tick in which the well yields a mark.
func Arrival(b Bed, models []field.Model, plan [][]int, well int) (first, last int, e api.Errno) {
	grounds, e := expect(b, plan, models...)
	if e != api.OK {
		return 0, 0, e
	}
	if !b.hasWell(well) {
		return 0, 0, api.ErrRange
	}
	return when(grounds, plan, well, func(y Yield) bool { return y.Mark > 0 })
}

// forecast returns the forecast for a tick, counted from 1.
func (b Bed) forecast(courses []course, tick int) Forecast {
	var f Forecast
	for well := range b.Wells {
		r := Reading{Tick: tick, Index: well}
		f.Wells = append(f.Wells, Bounds{
			Mass: enclose(courses, func(c course) int { return c.yieldOf(r).Mass }),
			Heat: enclose(courses, func(c course) int { return c.yieldOf(r).Heat }),
			Mark: enclose(courses, func(c course) int { return c.yieldOf(r).Mark }),
		})
	}
	for block := range b.size() {
		r := Reading{Tick: tick, Index: block}
		f.Pressure = append(f.Pressure, enclose(courses, func(c course) int { return c.pressureOf(r) }))
	}
	return f
}

// when returns the least and the greatest number of the first tick in which the well has such a yield.
func when(grounds []ground, plan [][]int, well int, is func(Yield) bool) (first, last int, e api.Errno) {
	courses, e := play(grounds, plan)
	if e != api.OK {
		return 0, 0, e
	}
	r := enclose(courses, func(c course) int { return c.first(well, is) })
	return r.Lo, r.Hi, api.OK
}

// first returns the first tick in which the well has such a yield, or the number behind the last one.
func (c course) first(well int, is func(Yield) bool) int {
	for i, yields := range c.Yields {
		if is(yields[well]) {
			return i + 1
		}
	}
	return len(c.Yields) + 1
}
