package bore

import (
	"slices"
	"sort"

	"fumarole/api"
)

// measured is a well with its stations.
type measured struct {
	Well
	stations []Station
}

// CheckWell returns ErrArg if the well is not valid.
func CheckWell(w Well) api.Errno {
	if !w.valid() {
		return api.ErrArg
	}
	return api.OK
}

// Stations returns the head and the end of each leg.
func Stations(w Well) ([]Station, api.Errno) {
	if e := CheckWell(w); e != api.OK {
		return nil, e
	}
	return measure(w).stations, api.OK
}

// Hits returns whether the well ends in the target from low to high, as far as it is known.
func Hits(w Well, low, high Point) (uint8, api.Errno) {
	if e := CheckWell(w); e != api.OK {
		return 0, e
	}
	from, to := low.numbers(), high.numbers()
	for axis := range from {
		if from[axis] > to[axis] {
			return 0, api.ErrArg
		}
	}
	end, hit := measure(w).end(), Yes
	for axis, n := range end.At.numbers() {
		least, most := n-end.Radius, n+end.Radius
		if most < from[axis] || least > to[axis] {
			return No, api.OK
		}
		if least < from[axis] || most > to[axis] {
			hit = Maybe
		}
	}
	return hit, api.OK
}

// Sidetrack returns the well with its first k legs, and then the other ones.
func Sidetrack(w Well, k int, legs []Leg) (Well, api.Errno) {
	if e := CheckWell(w); e != api.OK {
		return Well{}, e
	}
	if !within(k, 0, len(w.Legs)) {
		return Well{}, api.ErrRange
	}
	side := Well{w.Head, slices.Concat(w.Legs[:k], legs)}
	if e := CheckWell(side); e != api.OK {
		return Well{}, e
	}
	return side, api.OK
}

func measure(w Well) measured {
	last := Station{At: w.Head}
	m := measured{w, []Station{last}}
	for _, leg := range w.Legs {
		last.At = last.At.plus(leg.By)
		last.Radius += leg.Error
		last.Length += leg.length()
		m.stations = append(m.stations, last)
	}
	return m
}

func (m measured) end() Station { return m.stations[len(m.Legs)] }

func (w Well) valid() bool {
	head := w.Head.numbers()
	return every(head[:], isPlace) &&
		within(len(w.Legs), 1, api.MaxLegs) &&
		every(w.Legs, Leg.valid)
}

func (l Leg) valid() bool {
	by := l.By.numbers()
	return every(by[:], isWay) &&
		l.By.Z >= 0 &&
		l.By != Point{} &&
		within(l.Error, 0, api.MaxError)
}

// length returns the root of the sum of the squares, rounded down.
func (l Leg) length() int {
	sum := 0
	for _, n := range l.By.numbers() {
		sum += n * n
	}
	return sort.Search(sum, func(n int) bool { return (n+1)*(n+1) > sum })
}

func (p Point) numbers() [3]int { return [3]int{p.X, p.Y, p.Z} }

func (p Point) plus(by Point) Point { return Point{p.X + by.X, p.Y + by.Y, p.Z + by.Z} }

func isPlace(n int) bool { return within(n, -api.MaxPlace, api.MaxPlace) }

func isWay(n int) bool { return within(n, -api.MaxLeg, api.MaxLeg) }
