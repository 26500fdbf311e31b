package pipe

import (
	"iter"
	"slices"

	"fumarole/api"
	"fumarole/steam"
)

// work is a tick of a net at work.
type work struct {
	Net
	Tick
	wells []steam.Stream
	made  int // the mass of steam that all flashes make
}

// overfull is thrown by an element that is full; it is the element's number.
type overfull int

// Do returns the tick of the net with the state and the case.
func Do(n Net, state []int, wells []steam.Stream) (t Tick, full int, e api.Errno) {
	w, full, e := start(n, state, wells)
	return w.Tick, full, e
}

// Account returns what comes in, what goes out at the open ends, and what is lost.
func Account(n Net, state []int, wells []steam.Stream) (in, out steam.Stream, lost Lost, e api.Errno) {
	w, _, e := start(n, state, wells)
	if e != api.OK {
		return steam.Stream{}, steam.Stream{}, Lost{}, e
	}
	var left []steam.Stream
	for _, p := range n.ends() {
		left = append(left, w.at(p))
	}
	return total(wells, plus), total(left, plus), total(w.Lost, Lost.plus), api.OK
}

// Falls returns the elements at which something falls out, and how much.
func Falls(n Net, state []int, wells []steam.Stream) ([]Fall, api.Errno) {
	w, _, e := start(n, state, wells)
	return w.falls(), e
}

// start returns the tick at work when all is done, or the first error of the arguments and of the tick.
func start(n Net, state []int, wells []steam.Stream) (w work, full int, e api.Errno) {
	if e := checkCase(n, state, wells); e != api.OK {
		return work{}, 0, e
	}
	return n.tick(state, wells)
}

// tick returns the tick at work when all is done, or ErrFull with the first element that is full.
func (n Net) tick(state []int, wells []steam.Stream) (w work, full int, e api.Errno) {
	defer func() {
		switch x := recover().(type) {
		case nil:
		case overfull:
			w, full, e = work{}, int(x), api.ErrFull
		default: // no call may panic, whatever was thrown
			w, full, e = work{}, 0, api.ErrFail
		}
	}()
	w = work{Net: n, Tick: Tick{State: slices.Clone(state)}, wells: wells}
	for i := range w.Elements {
		w.do(i)
	}
	return w, 0, api.OK
}

// do lets the element do its work; it throws overfull, if the element is full.
func (w *work) do(i int) {
	x := w.Elements[i]
	var in steam.Stream
	for s := range w.incoming(i) {
		in = plus(in, s)
	}
	if in.Mass > x.width(w.State[i]) {
		panic(overfull(i))
	}
	done := doings()[x.Kind](x, w.Table, in)
	w.Out = append(w.Out, done.out)
	w.Lost = append(w.Lost, done.lost)
	w.State[i] += done.lost.Scale
	w.made += done.made
}

// incoming yields the streams that come into the element.
func (w *work) incoming(i int) iter.Seq[steam.Stream] {
	return func(yield func(steam.Stream) bool) {
		if w.Elements[i].Kind == Well {
			yield(w.wells[count(w.Elements[:i], Well)])
			return
		}
		for _, p := range w.Elements[i].From {
			if !yield(w.at(p)) {
				return
			}
		}
	}
}

// at returns what goes out at the port.
func (w *work) at(p Port) steam.Stream { return w.Out[p.Element][p.Outlet] }

func (w *work) falls() []Fall {
	var falls []Fall
	for i, l := range w.Lost {
		if l.Scale > 0 {
			falls = append(falls, Fall{i, l.Scale})
		}
	}
	return falls
}
