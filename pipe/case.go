package pipe

import (
	"fumarole/api"
	"fumarole/steam"
)

// Life returns how many ticks with the case can be done, one after another, at most so many, and the element that is full then.
func Life(n Net, state []int, wells []steam.Stream, most int) (ticks, full int, e api.Errno) {
	if e := checkCase(n, state, wells); e != api.OK {
		return 0, 0, e
	}
	if !within(most, 1, api.MaxLife) {
		return 0, 0, api.ErrRange
	}
	for ticks < most {
		w, full, e := n.tick(state, wells)
		switch e {
		case api.OK:
			state = w.State
			ticks++
		case api.ErrFull:
			return ticks, full, api.OK
		default:
			return 0, 0, e
		}
	}
	return ticks, -1, api.OK
}

// Covers returns for each open end between what its streams lie in all cases.
func Covers(n Net, state []int, cases [][]steam.Stream) ([]Cover, api.Errno) {
	done, e := each(n, state, cases)
	if e != api.OK {
		return nil, e
	}
	var covers []Cover
	for _, p := range n.ends() {
		number := func(of func(steam.Stream) int) steam.Range {
			return enclose(done, func(w work) int { return of(w.at(p)) })
		}
		covers = append(covers, Cover{
			Mass:   number(func(s steam.Stream) int { return s.Mass }),
			Heat:   number(func(s steam.Stream) int { return s.Heat }),
			Silica: number(func(s steam.Stream) int { return s.Silica }),
			Gas:    number(func(s steam.Stream) int { return s.Gas }),
		})
	}
	return covers, api.OK
}

// Unsafe returns the first case in which something falls out, and the first element where it does.
func Unsafe(n Net, state []int, cases [][]steam.Stream) (at, element int, e api.Errno) {
	done, e := each(n, state, cases)
	if e != api.OK {
		return 0, 0, e
	}
	for i, w := range done {
		if falls := w.falls(); len(falls) > 0 {
			return i, falls[0].Element, api.OK
		}
	}
	return -1, -1, api.OK
}

// each returns the tick of each case, all of them from the state.
func each(n Net, state []int, cases [][]steam.Stream) ([]work, api.Errno) {
	if e := checkCases(n, state, cases); e != api.OK {
		return nil, e
	}
	var done []work
	for _, wells := range cases {
		w, _, e := n.tick(state, wells)
		if e != api.OK {
			return nil, e
		}
		done = append(done, w)
	}
	return done, api.OK
}
