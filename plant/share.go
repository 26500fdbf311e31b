package plant

import (
	"cmp"
	"iter"
	"slices"

	"fumarole/api"
)

// house is the heads, and the units that share their steam.
type house struct {
	heads []int
	units []Unit
}

// piece is a part with the number of its unit.
type piece struct {
	Part
	unit int
}

// Share returns a best sharing, its work, and prices whose bound is this work.
func Share(heads []int, units []Unit) (masses []int, work int, prices []int, e api.Errno) {
	h := house{heads, units}
	if !h.valid() {
		return nil, 0, nil, api.ErrArg
	}
	masses, prices = h.share()
	return masses, h.work(masses), prices, api.OK
}

// Bound returns the bound by the prices.
func Bound(heads []int, units []Unit, prices []int) (int, api.Errno) {
	h := house{heads, units}
	if !h.valid() || !h.hasPrices(prices) {
		return 0, api.ErrArg
	}
	return h.bound(prices), api.OK
}

// ProveShare returns whether the masses are a sharing with this work, and the prices show that none has more.
func ProveShare(heads []int, units []Unit, masses []int, work int, prices []int) bool {
	bound, e := Bound(heads, units, prices)
	h := house{heads, units}
	return e == api.OK && bound == work && h.isSharing(masses) && h.work(masses) == work
}

func (h house) valid() bool {
	return within(len(h.heads), 1, api.MaxHeads) &&
		every(h.heads, func(n int) bool { return within(n, 0, api.MaxMass) }) &&
		within(len(h.units), 1, api.MaxUnits) &&
		every(h.units, h.canHave)
}

// canHave returns whether the unit is valid, and has a head.
func (h house) canHave(u Unit) bool { return u.valid() && u.Inlet < len(h.heads) }

func (h house) hasPrices(prices []int) bool {
	return len(prices) == len(h.heads) && every(prices, func(n int) bool { return within(n, 0, api.MaxGain) })
}

func (h house) isSharing(masses []int) bool {
	if len(masses) != len(h.units) {
		return false
	}
	for i, u := range h.units {
		if !u.takes(masses[i]) {
			return false
		}
	}
	return every(h.left(masses), func(n int) bool { return n >= 0 })
}

// left returns for each head what the masses leave of it and all higher ones.
func (h house) left(masses []int) []int {
	left := make([]int, len(h.heads))
	for k := range h.heads {
		left[k] = total(h.heads[k:])
		for i, u := range h.units {
			if u.Inlet >= k {
				left[k] -= masses[i]
			}
		}
	}
	return left
}

func (h house) work(masses []int) int {
	work := 0
	for i, u := range h.units {
		work += u.work(masses[i])
	}
	return work
}

func (h house) bound(prices []int) int {
	bound := 0
	for k, price := range prices {
		bound += price * total(h.heads[k:])
	}
	for p := range h.pieces() {
		bound += p.Width * max(0, p.Gain-total(h.reached(p, prices)))
	}
	return bound
}

// pieces yields the parts of all units.
func (h house) pieces() iter.Seq[piece] {
	return func(yield func(piece) bool) {
		for i, u := range h.units {
			for _, p := range u.Parts {
				if !yield(piece{p, i}) {
					return
				}
			}
		}
	}
}

// reached returns the list's numbers from that of the head 0 to that of the piece's unit.
func (h house) reached(p piece, l []int) []int { return l[:h.units[p.unit].Inlet+1] }

// share lets the pieces that gain most come first, each of them with all that is left for it.
// No other sharing has more work: what a piece takes is lost, kilogram for kilogram, to pieces that gain no more.
func (h house) share() (masses, prices []int) {
	masses = make([]int, len(h.units))
	// What a kilogram more of a head and all higher ones would gain: as much as the first piece that leaves none of them.
	worth := make([]int, len(h.heads))
	for _, p := range ranked(h.pieces(), func(p piece) int { return p.Gain }) {
		masses[p.unit] += min(p.Width, slices.Min(h.reached(p, h.left(masses))))
		for k, left := range h.reached(p, h.left(masses)) {
			if left == 0 {
				worth[k] = max(worth[k], p.Gain)
			}
		}
	}
	return masses, steps(worth)
}

// ranked returns the elements, those with the greatest numbers first.
func ranked[T any](l iter.Seq[T], number func(T) int) []T {
	return slices.SortedStableFunc(l, func(a, b T) int { return cmp.Compare(number(b), number(a)) })
}

// steps returns prices that are together, up to each head, the greatest worth so far: a unit pays those of all heads up to its own.
func steps(worth []int) []int {
	var prices []int
	paid := 0
	for _, n := range worth {
		step := max(0, n-paid)
		prices = append(prices, step)
		paid += step
	}
	return prices
}
