package pipe_test

import (
	"slices"
	"testing"

	"fumarole/api"
	"fumarole/pipe"
	"fumarole/steam"
)

// notAlone stands for an error beside which another result is not zero.
const notAlone api.Errno = -1

// alone gives the error, if R2 holds for it.
func alone(e api.Errno, zero bool) api.Errno {
	if e != api.OK && !zero {
		return notAlone
	}
	return e
}

// args is all that a call may be given.
type args struct {
	net    pipe.Net
	state  []int
	cases  [][]steam.Stream // the first one of them is the case
	most   int
	levels []int
}

func (x args) wells() []steam.Stream {
	if len(x.cases) == 0 {
		return nil
	}
	return x.cases[0]
}

// called is a call, and what it takes beside a net.
type called struct {
	call              func(args) api.Errno
	stated, one, many bool
}

// takesCase gives whether the call takes a case, or many.
func (c called) takesCase() bool { return c.one || c.many }

// calls are those with a net.
func calls() map[string]called {
	return map[string]called{
		"CheckNet": {call: func(x args) api.Errno { return pipe.CheckNet(x.net) }},
		"Ends": {call: func(x args) api.Errno {
			l, e := pipe.Ends(x.net)
			return alone(e, len(l) == 0)
		}},
		"Widths": {stated: true, call: func(x args) api.Errno {
			l, e := pipe.Widths(x.net, x.state)
			return alone(e, len(l) == 0)
		}},
		"Do": {stated: true, one: true, call: func(x args) api.Errno {
			y, full, e := pipe.Do(x.net, x.state, x.wells())
			return alone(e, isNothing(y) && (full == 0 || e == api.ErrFull))
		}},
		"Account": {stated: true, one: true, call: func(x args) api.Errno {
			in, out, lost, e := pipe.Account(x.net, x.state, x.wells())
			return alone(e, in == steam.Stream{} && out == steam.Stream{} && lost == pipe.Lost{})
		}},
		"Falls": {stated: true, one: true, call: func(x args) api.Errno {
			l, e := pipe.Falls(x.net, x.state, x.wells())
			return alone(e, len(l) == 0)
		}},
		"Life": {stated: true, one: true, call: func(x args) api.Errno {
			ticks, full, e := pipe.Life(x.net, x.state, x.wells(), x.most)
			return alone(e, ticks == 0 && full == 0)
		}},
		"Covers": {stated: true, many: true, call: func(x args) api.Errno {
			l, e := pipe.Covers(x.net, x.state, x.cases)
			return alone(e, len(l) == 0)
		}},
		"Unsafe": {stated: true, many: true, call: func(x args) api.Errno {
			at, element, e := pipe.Unsafe(x.net, x.state, x.cases)
			return alone(e, at == 0 && element == 0)
		}},
		"Set": {call: func(x args) api.Errno {
			n, e := pipe.Set(x.net, x.levels)
			return alone(e, len(n.Table) == 0 && len(n.Elements) == 0)
		}},
		"Best": {stated: true, many: true, call: func(x args) api.Errno {
			l, made, e := pipe.Best(x.net, x.state, x.cases)
			return alone(e, len(l) == 0 && made == 0)
		}},
	}
}

// goodArgs gives arguments for the net with which no call has an error, unless there are too many separators for Best.
func goodArgs(n pipe.Net) args {
	x := args{net: n, state: zeros(n), cases: make([][]steam.Stream, 2), most: 2}
	for i := range x.cases {
		x.cases[i] = slices.Repeat([]steam.Stream{stream(10, 7000, 20, 5)}, kinds(n, pipe.Well))
	}
	for _, element := range n.Elements {
		if element.Kind == pipe.Separator {
			x.levels = append(x.levels, element.Level)
		}
	}
	return x
}

// trainArgs gives arguments for a net of two wells and three separators in a row.
func trainArgs() args {
	return goodArgs(net(
		well(2), well(2), join(2, ports(0, 0, 1, 0)...), separator(2, 50, 2, 0), separator(1, 0, 3, 1), separator(1, 50, 4, 1),
	))
}

// fault is an error of an argument, and which calls have it.
type fault struct {
	name string
	of   func(called) bool
	make func(*args)
	want api.Errno
}

// faults are errors in the order in which they count; each one can be made behind those that follow.
func faults() []fault {
	all := func(called) bool { return true }
	stated := func(c called) bool { return c.stated }
	many := func(c called) bool { return c.many }
	return []fault{
		{"the table", all, func(x *args) { x.net.Table[0].P = 0 }, api.ErrArg},
		{"an element", all, func(x *args) { x.net.Elements[0].Narrow = 0 }, api.ErrArg},
		{"a port", all, func(x *args) { x.net.Elements[4].From[0].Outlet = 2 }, api.ErrArg},
		{"the elements of the state", stated, func(x *args) { x.state = x.state[1:] }, api.ErrArg},
		{"a number of the state", stated, func(x *args) { x.state[2] = -1 }, api.ErrArg},
		{"no cases", many, func(x *args) { x.cases = nil }, api.ErrLimit},
		{"too many cases", many, func(x *args) { x.cases = make([][]steam.Stream, api.MaxCases+1) }, api.ErrLimit},
		{"the streams of the case", called.takesCase, func(x *args) { x.cases[0] = append(x.cases[0], steam.Stream{}) }, api.ErrArg},
		{"a stream", called.takesCase, func(x *args) { x.cases[0][1].Heat = -1 }, api.ErrArg},
		{"the masses", called.takesCase, func(x *args) { x.cases[0][0].Mass = api.MaxMass }, api.ErrLimit},
		{"the gas", called.takesCase, func(x *args) { x.cases[0][0].Gas = api.MaxGas }, api.ErrLimit},
		{"the streams of the next case", many, func(x *args) { x.cases[1] = nil }, api.ErrArg},
		{"a stream of the next case", many, func(x *args) { x.cases[1][0].Silica = -1 }, api.ErrArg},
		{"the masses of the next case", many, func(x *args) { x.cases[1][1].Mass = api.MaxMass }, api.ErrLimit},
	}
}

// ownFaults are those of the single calls, behind the ones of all.
func ownFaults(name string) []fault {
	always := func(called) bool { return true }
	narrow := func(x *args) { x.net.Elements[5].Wide = 0 }
	scaly := func(x *args) {
		for i := range x.cases {
			for j := range x.cases[i] {
				x.cases[i][j].Silica = api.MaxGrain * x.cases[i][j].Mass
			}
		}
	}
	switch name {
	case "Do", "Account", "Falls", "Covers", "Unsafe":
		return []fault{{"an element that is full", always, narrow, api.ErrFull}}
	case "Life":
		return []fault{{"no ticks", always, func(x *args) { x.most = 0 }, api.ErrRange}}
	case "Set":
		return []fault{
			{"the number of levels", always, func(x *args) { x.levels = x.levels[1:] }, api.ErrArg},
			{"a level", always, func(x *args) { x.levels[1] = 3 }, api.ErrArg},
		}
	case "Best":
		return []fault{
			{"too many separators", always, func(x *args) {
				x.net.Elements = append(x.net.Elements, sized(separator(0, 0, 5, 1), 1000, 1000))
				x.state = append(x.state, 0)
			}, api.ErrLimit},
			{"silica everywhere", always, scaly, api.ErrNone},
			{"an element that is always full", always, narrow, api.ErrNone},
		}
	}
	return nil
}

// allFaults are those that the call has, in the order in which they count.
func allFaults(name string, c called) []fault {
	l := slices.DeleteFunc(faults(), func(f fault) bool { return !f.of(c) })
	return append(l, ownFaults(name)...)
}

// TestErrorOrder: R1, of two errors the one that the chapter names first counts; R2, it stands alone.
func TestErrorOrder(t *testing.T) {
	for name, c := range calls() {
		if e := c.call(trainArgs()); e != api.OK {
			t.Errorf("%s: %v", name, e)
		}
		l := allFaults(name, c)
		for i, one := range l {
			x := trainArgs()
			one.make(&x)
			if e := c.call(x); e != one.want {
				t.Errorf("%s, %s: %v", name, one.name, e)
			}
			for _, other := range l[i+1:] {
				x := trainArgs()
				other.make(&x)
				one.make(&x)
				if e := c.call(x); e != one.want {
					t.Errorf("%s, %s before %s: %v", name, one.name, other.name, e)
				}
			}
		}
	}
}

// TestEverythingWrong: each call has its first error if all that it is given is wrong.
func TestEverythingWrong(t *testing.T) {
	for name, c := range calls() {
		l := allFaults(name, c)
		for first := range l {
			x := trainArgs()
			for i := len(l) - 1; i >= first; i-- {
				l[i].make(&x)
			}
			if e := c.call(x); e != l[first].want {
				t.Errorf("%s, all from %s on: %v", name, l[first].name, e)
			}
		}
	}
}

// TestOtherFaults: a call has no error of what it does not take.
func TestOtherFaults(t *testing.T) {
	for name, c := range calls() {
		for _, f := range faults() {
			x := trainArgs()
			f.make(&x)
			if c.one && len(x.wells()) == 0 {
				continue // without cases there is no first one
			}
			if e := c.call(x); !f.of(c) && e != api.OK {
				t.Errorf("%s, %s: %v", name, f.name, e)
			}
		}
	}
}
