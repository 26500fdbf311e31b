package rock

import (
	"fumarole/api"
	"fumarole/field"
)

// Start returns the first state of the model.
func Start(b Bed, m field.Model) (State, api.Errno) {
	grounds, e := lay(b, m)
	if e != api.OK {
		return nil, e
	}
	return grounds[0].start(), api.OK
}

// Pressures returns the pressure of each block.
func Pressures(b Bed, m field.Model, s State) ([]int, api.Errno) {
	grounds, e := lay(b, m)
	if e != api.OK {
		return nil, e
	}
	if !b.hasState(s) {
		return nil, api.ErrArg
	}
	return grounds[0].pressures(s), api.OK
}

func (b Bed) hasState(s State) bool { return len(s) == b.size() && every(s, Block.valid) }

func (b Block) valid() bool {
	return within(b.Mass, 1, api.MaxMass) && within(b.Heat, 0, api.MaxStore) && within(b.Mark, 0, api.MaxStain)
}

func (g ground) start() State {
	var s State
	for block := range g.size() {
		mass := g.number(hold, block)
		s = append(s, Block{Mass: mass, Heat: mass * g.number(warm, block)})
	}
	return s
}

func (g ground) pressures(s State) []int {
	var l []int
	for block := range s {
		l = append(l, g.pressure(s, block))
	}
	return l
}

func (g ground) pressure(s State, block int) int {
	mass, rest := s[block].Mass, g.number(hold, block)
	return max(0, g.lift(block)+divided(g.Stiff*(mass-rest), rest), g.boiling(s[block]))
}

// lift returns the pressure at rest, which is more in the layers below.
func (b Bed) lift(block int) int {
	_, _, z, _ := field.Place(b.Field, block)
	return z * b.Lift
}

// boiling returns the pressure at which the block boils, or 0 if it does not.
func (b Bed) boiling(x Block) int {
	pressure := 0
	for _, row := range b.Table {
		if row.Liquid*x.Mass <= x.Heat {
			pressure = row.P
		}
	}
	return pressure
}

// drives returns for each block by how much its pressure is above the one at rest.
func (g ground) drives(s State) []int {
	l := g.pressures(s)
	for block := range l {
		l[block] -= g.lift(block)
	}
	return l
}
