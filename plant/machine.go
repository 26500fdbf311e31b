package plant

import (
	"fumarole/api"
	"fumarole/steam"
)

// Condense returns the steam mixed with cold water, without their gas, and how much gas is vented.
func Condense(hot, cold steam.Stream, most int) (out steam.Stream, vent int, e api.Errno) {
	if !every([]steam.Stream{hot, cold}, isStream) {
		return steam.Stream{}, 0, api.ErrArg
	}
	if !within(most, 0, api.MaxVent) {
		return steam.Stream{}, 0, api.ErrRange
	}
	out, e = steam.Mix([]steam.Stream{hot, cold})
	if e != api.OK {
		return steam.Stream{}, 0, e
	}
	if out.Gas > most {
		return steam.Stream{}, 0, api.ErrFull
	}
	vent, out.Gas = out.Gas, 0
	return out, vent, api.OK
}

// Tower returns the stream that is cooled to the target, and the heat that goes to the air.
func Tower(s steam.Stream, target int) (out steam.Stream, air int, e api.Errno) {
	if e := steam.CheckStream(s); e != api.OK {
		return steam.Stream{}, 0, e
	}
	if !within(target, 0, api.MaxEnthalpy) {
		return steam.Stream{}, 0, api.ErrRange
	}
	air = above(s, target)
	s.Heat -= air
	return s, air, api.OK
}

// Run returns the stream that leaves the cycle, the work, and what goes to the sink.
func Run(c Cycle, s steam.Stream) (out steam.Stream, work, sink int, e api.Errno) {
	if !c.valid() || !isStream(s) {
		return steam.Stream{}, 0, 0, api.ErrArg
	}
	taken := min(above(s, c.Out), c.Most)
	work = taken * c.Yield / 1000
	s.Heat -= taken
	return s, work, taken - work, api.OK
}

func isStream(s steam.Stream) bool { return steam.CheckStream(s) == api.OK }

// above returns the heat that the stream has above so many kilojoules a kilogram.
func above(s steam.Stream, kilojoules int) int { return max(0, s.Heat-kilojoules*s.Mass) }

func (c Cycle) valid() bool {
	return within(c.Out, 0, api.MaxEnthalpy) && within(c.Yield, 0, 1000) && within(c.Most, 0, api.MaxHeat)
}
