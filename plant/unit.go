package plant

import (
	"fumarole/api"
	"fumarole/steam"
)

// CheckUnit returns ErrArg if the unit is not valid.
func CheckUnit(u Unit) api.Errno {
	if !u.valid() {
		return api.ErrArg
	}
	return api.OK
}

// Power returns the work of so many kilograms.
func Power(u Unit, mass int) (int, api.Errno) {
	if e := CheckUnit(u); e != api.OK {
		return 0, e
	}
	if !u.takes(mass) {
		return 0, api.ErrRange
	}
	return u.work(mass), api.OK
}

// Expand returns the stream that leaves the unit, and its work.
func Expand(u Unit, s steam.Stream) (out steam.Stream, work int, e api.Errno) {
	if e := steam.CheckStream(s); e != api.OK {
		return steam.Stream{}, 0, e // the same one as that of a unit that is not valid
	}
	work, e = Power(u, s.Mass)
	if e != api.OK {
		return steam.Stream{}, 0, e
	}
	if s.Heat < work {
		return steam.Stream{}, 0, api.ErrFail
	}
	s.Heat -= work
	return s, work, api.OK
}

func (u Unit) valid() bool {
	return within(u.Inlet, 0, api.MaxHeads-1) &&
		within(len(u.Parts), 1, api.MaxParts) &&
		every(u.Parts, Part.valid) &&
		u.isFalling()
}

// isFalling returns whether no part gains more than the one before it.
func (u Unit) isFalling() bool {
	for i := 1; i < len(u.Parts); i++ {
		if u.Parts[i].Gain > u.Parts[i-1].Gain {
			return false
		}
	}
	return true
}

// takes returns whether the mass is from 0 to the capacity.
func (u Unit) takes(mass int) bool {
	capacity := 0
	for _, p := range u.Parts {
		capacity += p.Width
	}
	return within(mass, 0, capacity)
}

func (u Unit) work(mass int) int {
	work := 0
	for _, p := range u.Parts {
		used := min(mass, p.Width)
		work += used * p.Gain
		mass -= used
	}
	return work
}

func (p Part) valid() bool {
	return within(p.Width, 1, api.MaxWidth) && within(p.Gain, 0, api.MaxGain)
}
