package steam

import (
	"cmp"
	"slices"

	"fumarole/api"
)

// Share returns the parts of the stream, one for each weight, and what rounding leaves over.
func Share(s Stream, weights []int) (parts []Stream, lost Loss, e api.Errno) {
	if e := CheckStream(s); e != api.OK {
		return nil, Loss{}, e
	}
	if !validWeights(weights) {
		return nil, Loss{}, api.ErrArg
	}
	for _, mass := range shareMass(s.Mass, weights) {
		parts = append(parts, s.part(mass))
	}
	shared := sum(parts...)
	lost = Loss{
		Heat:   s.Heat - shared.Heat,
		Silica: s.Silica - shared.Silica,
		Gas:    s.Gas - shared.Gas,
	}
	return parts, lost, api.OK
}

func validWeights(weights []int) bool {
	if !within(len(weights), 1, api.MaxShares) {
		return false
	}
	if !every(weights, isWeight) {
		return false
	}
	return slices.Max(weights) > 0
}

func isWeight(w int) bool { return within(w, 0, api.MaxShare) }

// shareMass returns the masses of the parts; they add up to the mass.
func shareMass(mass int, weights []int) []int {
	whole := 0
	for _, w := range weights {
		whole += w
	}
	masses := make([]int, len(weights))
	remainders := make([]int, len(weights))
	left := mass
	for i, w := range weights {
		masses[i] = mass * w / whole
		remainders[i] = mass * w % whole
		left -= masses[i]
	}
	for _, i := range ranked(remainders)[:left] {
		masses[i]++
	}
	return masses
}

// ranked returns the indexes of the list, those of the greatest elements first, and of equal ones the first one first.
func ranked[T cmp.Ordered](l []T) []int {
	order := make([]int, len(l))
	for i := range l {
		order[i] = i
	}
	slices.SortStableFunc(order, func(a, b int) int { return cmp.Compare(l[b], l[a]) })
	return order
}

// part returns what so many kilograms of the stream have, each number rounded down.
func (s Stream) part(mass int) Stream {
	if s.Mass == 0 {
		return Stream{}
	}
	part := s
	for _, n := range part.numbers() {
		*n = *n * mass / s.Mass
	}
	return part
}
