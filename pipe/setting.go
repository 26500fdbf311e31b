package pipe

import (
	"slices"

	"fumarole/api"
	"fumarole/steam"
)

// Set returns the net with the levels in its separators.
func Set(n Net, levels []int) (Net, api.Errno) {
	if e := CheckNet(n); e != api.OK {
		return Net{}, e
	}
	if len(levels) != count(n.Elements, Separator) {
		return Net{}, api.ErrArg
	}
	set := n.with(levels)
	if e := CheckNet(set); e != api.OK {
		return Net{}, e
	}
	return set, api.OK
}

// Best returns the setting with which nothing falls out in any case, and the most steam is made in the worst one.
func Best(n Net, state []int, cases [][]steam.Stream) (levels []int, steam int, e api.Errno) {
	if e := checkCases(n, state, cases); e != api.OK {
		return nil, 0, e
	}
	separators := count(n.Elements, Separator)
	if separators > api.MaxSet {
		return nil, 0, api.ErrLimit
	}
	found := false
	var choose func(chosen []int)
	choose = func(chosen []int) {
		if len(chosen) < separators {
			for level := range n.Table {
				choose(append(slices.Clone(chosen), level))
			}
			return
		}
		// Of several best settings the one that is tried first is the first one: levels rise.
		if made, right := n.steamWith(chosen, state, cases); right && (!found || made > steam) {
			levels, steam, found = chosen, made, true
		}
	}
	choose(nil)
	if !found {
		return nil, 0, api.ErrNone
	}
	return levels, steam, api.OK
}

// with returns a copy of the net with the levels, one for each separator.
func (n Net) with(levels []int) Net {
	set := Net{Table: slices.Clone(n.Table)}
	for _, x := range n.Elements {
		x.From, x.Weights = slices.Clone(x.From), slices.Clone(x.Weights)
		if x.Kind == Separator {
			x.Level, levels = levels[0], levels[1:]
		}
		set.Elements = append(set.Elements, x)
	}
	return set
}

// steamWith returns the steam of the setting, and whether the setting is right.
func (n Net) steamWith(levels, state []int, cases [][]steam.Stream) (made int, right bool) {
	done, e := each(n.with(levels), state, cases)
	if e != api.OK || !every(done, work.isSafe) {
		return 0, false
	}
	return enclose(done, func(w work) int { return w.made }).Lo, true
}

// isSafe returns whether nothing falls out in the tick.
func (w work) isSafe() bool { return len(w.falls()) == 0 }
