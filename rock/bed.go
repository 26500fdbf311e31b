package rock

import (
	"iter"

	"fumarole/api"
	"fumarole/field"
	"fumarole/steam"
)

// The kinds of numbers that a model has for each block.
const (
	hold = iota // what it holds at rest
	open
	warm
	feed
	kinds // how many kinds there are at least
)

// way is from where to where something moves: a block's number, or a place outside of all blocks.
type way struct{ from, to int }

// Places outside of all blocks.
const (
	below = -1 // where feeds come from
	above = -2 // where wells take to, and give from
)

// ground is a valid bed with a model that fits it.
type ground struct {
	Bed
	field.Model
}

// CheckBed returns ErrArg if the bed is not valid.
func CheckBed(b Bed) api.Errno {
	if !b.valid() {
		return api.ErrArg
	}
	return api.OK
}

// lay returns the bed with each of the models, or the first error of the bed and then of the models.
func lay(b Bed, models ...field.Model) ([]ground, api.Errno) {
	if e := CheckBed(b); e != api.OK {
		return nil, e
	}
	switch field.CheckModels(b.Field, models) {
	case api.OK:
	case api.ErrLimit:
		return nil, api.ErrLimit
	default:
		return nil, api.ErrArg
	}
	var grounds []ground
	for _, m := range models {
		g := ground{b, m}
		if !g.fits() {
			return nil, api.ErrArg
		}
		grounds = append(grounds, g)
	}
	return grounds, api.OK
}

func (b Bed) valid() bool {
	return field.CheckField(b.Field) == api.OK &&
		b.Field.Kinds >= kinds &&
		steam.CheckTable(b.Table) == api.OK &&
		within(b.Stiff, 1, api.MaxStiff) &&
		within(b.Lift, 0, api.MaxLift) &&
		within(b.Deep, 0, api.MaxWarm) &&
		len(b.Wells) <= api.MaxBores &&
		every(b.Wells, b.canHave) &&
		areApart(b.Wells)
}

// canHave returns whether the well is valid, whatever other wells there are.
func (b Bed) canHave(w Bore) bool {
	return b.hasBlock(w.Block) && within(w.Heat, 0, api.MaxWarm) && within(w.Mark, 0, api.MaxMark)
}

// areApart returns whether no two wells have the same block.
func areApart(wells []Bore) bool {
	taken := map[int]bool{}
	for _, w := range wells {
		taken[w.Block] = true
	}
	return len(taken) == len(wells)
}

// size returns how many blocks the bed has.
func (b Bed) size() int { return b.Field.X * b.Field.Y * b.Field.Z }

func (b Bed) hasBlock(n int) bool { return within(n, 0, b.size()-1) }

func (b Bed) hasWell(n int) bool { return within(n, 0, len(b.Wells)-1) }

// links yields the blocks that are linked, each pair of them once.
func (b Bed) links() iter.Seq[way] {
	return func(yield func(way) bool) {
		for block := range b.size() {
			x, y, z, _ := field.Place(b.Field, block)
			for _, p := range [...][3]int{{x + 1, y, z}, {x, y + 1, z}, {x, y, z + 1}} {
				next, e := field.Number(b.Field, p[0], p[1], p[2])
				if e == api.OK && !yield(way{block, next}) {
					return
				}
			}
		}
	}
}

// fits returns whether the model, which is one for the field, has numbers of a bed.
func (g ground) fits() bool {
	limits := [kinds]Range{hold: {1000, 100000}, open: {0, 1000}, warm: {0, api.MaxWarm}, feed: {0, 1000}}
	for kind, limit := range limits {
		for block := range g.size() {
			if !limit.has(g.number(kind, block)) {
				return false
			}
		}
	}
	return true
}

// number returns the model's number of a kind for a block.
func (g ground) number(kind, block int) int { return g.Values[kind*g.size()+block] }

func (r Range) has(n int) bool { return within(n, r.Lo, r.Hi) }
