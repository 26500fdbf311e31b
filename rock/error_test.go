package rock_test

import (
	"slices"
	"strconv"
	"testing"

	"fumarole/api"
	"fumarole/field"
	"fumarole/rock"
)

// notAlone stands for an error beside which another result is not zero.
const notAlone api.Errno = -1

// alone gives the error, if R2 holds for it.
func alone(e api.Errno, zero bool) api.Errno {
	if e != api.OK && !zero {
		return notAlone
	}
	return e
}

// args is all that a call may be given.
type args struct {
	bed         rock.Bed
	models      []field.Model // the first one of them is the model
	state       rock.State
	rates       []int
	plan        [][]int
	readings    []rock.Reading
	well, least int
}

func (x args) model() field.Model {
	if len(x.models) == 0 {
		return field.Model{}
	}
	return x.models[0]
}

// called is a call with a model, or with many, and with what else it takes.
type called struct {
	call                     func(args) api.Errno
	many, plan, well, stated bool
}

// calls are those with a bed and a model, or models.
func calls() map[string]called {
	return map[string]called{
		"Start": {call: func(x args) api.Errno {
			s, e := rock.Start(x.bed, x.model())
			return alone(e, len(s) == 0)
		}},
		"Pressures": {stated: true, call: func(x args) api.Errno {
			l, e := rock.Pressures(x.bed, x.model(), x.state)
			return alone(e, len(l) == 0)
		}},
		"Tick": {stated: true, call: func(x args) api.Errno {
			s, y, e := rock.Tick(x.bed, x.model(), x.state, x.rates)
			return alone(e, len(s) == 0 && len(y) == 0)
		}},
		"Play": {plan: true, call: func(x args) api.Errno {
			r, e := rock.Play(x.bed, x.model(), x.plan)
			return alone(e, len(r.States) == 0 && len(r.Yields) == 0)
		}},
		"Balance": {plan: true, call: func(x args) api.Errno {
			a, e := rock.Balance(x.bed, x.model(), x.plan)
			return alone(e, a == rock.Account{})
		}},
		"Strikes": {plan: true, many: true, call: func(x args) api.Errno {
			left, strikes, e := rock.Strikes(x.bed, x.models, x.plan, x.readings)
			return alone(e, len(left) == 0 && len(strikes) == 0)
		}},
		"Ahead": {plan: true, many: true, call: func(x args) api.Errno {
			l, e := rock.Ahead(x.bed, x.models, x.plan)
			return alone(e, len(l) == 0)
		}},
		"Decline": {plan: true, many: true, well: true, call: func(x args) api.Errno {
			first, last, e := rock.Decline(x.bed, x.models, x.plan, x.well, x.least)
			return alone(e, first == 0 && last == 0)
		}},
		"Arrival": {plan: true, many: true, well: true, call: func(x args) api.Errno {
			first, last, e := rock.Arrival(x.bed, x.models, x.plan, x.well)
			return alone(e, first == 0 && last == 0)
		}},
	}
}

// goodArgs gives arguments for the bed with which no call has an error, if the bed has a well.
func goodArgs(b rock.Bed) args {
	m := even(b, "m", 5000, 100, 200, 1)
	rates := make([]int, len(b.Wells))
	return args{
		bed: b, models: []field.Model{m}, state: slices.Repeat(rock.State{{Mass: 5000}}, size(b)),
		rates: rates, plan: [][]int{rates, rates}, readings: []rock.Reading{reading(0, rock.Pressure, 0, 0, 9)},
	}
}

// fillArgs gives arguments whose wells give as much as a block can hold: a kilogram more, and a tick fails.
func fillArgs() args {
	b := bed(2, 1, 1, rock.Bore{Block: 1})
	return args{
		bed: b, models: named(even(b, "m", 1000, 0, 0, 0), 3), state: rock.State{{Mass: 1000}, {Mass: 900000}},
		rates: []int{-api.MaxRate}, plan: append(slices.Repeat([][]int{{-api.MaxRate}}, 9), []int{-99000}),
		readings: []rock.Reading{reading(9, rock.Mass, 0, 0, 0)},
	}
}

// fault is an error of an argument, and which calls have it.
type fault struct {
	name string
	of   func(called) bool
	make func(*args)
	want api.Errno
}

// faults are errors in the order in which they count; each one can be made behind those that follow.
func faults() []fault {
	all := func(called) bool { return true }
	many := func(c called) bool { return c.many }
	planned := func(c called) bool { return c.plan }
	stateful := func(c called) bool { return c.stated }
	well := func(c called) bool { return c.well }
	return []fault{
		{"the bed", all, func(x *args) { x.bed.Stiff = 0 }, api.ErrArg},
		{"no models", many, func(x *args) { x.models = nil }, api.ErrLimit},
		{"too many models", many, func(x *args) {
			x.models = append(x.models, named(even(x.bed, "m", 1000, 0, 0, 0), api.MaxModels+1)...)
		}, api.ErrLimit},
		{"a model", all, func(x *args) { x.models[0].Values = x.models[0].Values[1:] }, api.ErrArg},
		{"a number of a model", all, func(x *args) { x.models[0].Values[0] = 999 }, api.ErrArg},
		{"a name of a model", all, func(x *args) { x.models[0].Name = "M" }, api.ErrArg},
		{"twins", many, func(x *args) { x.models[2].Name = x.models[1].Name }, api.ErrArg},
		{"the state", stateful, func(x *args) { x.state[0].Mass = 0 }, api.ErrArg},
		{"the blocks of the state", stateful, func(x *args) { x.state = x.state[1:] }, api.ErrArg},
		{"too many ticks", planned, func(x *args) {
			for len(x.plan) <= api.MaxRun {
				x.plan = append(x.plan, []int{0})
			}
		}, api.ErrLimit},
		{"the rates of a tick", planned, func(x *args) { x.plan = append([][]int{{}}, x.plan...) }, api.ErrArg},
		{"a rate of a tick", planned, func(x *args) { x.plan = append([][]int{{api.MaxRate + 1}}, x.plan...) }, api.ErrRange},
		{"the well", well, func(x *args) { x.well = 1 }, api.ErrRange},
	}
}

// ownFaults are those of the single calls, behind the ones of all.
func ownFaults(name string) []fault {
	always := func(called) bool { return true }
	fail := fault{"a tick that fails", always, func(x *args) { x.plan = append([][]int{{-api.MaxRate}}, x.plan...) }, api.ErrFail}
	switch name {
	case "Start", "Pressures":
		return nil
	case "Tick":
		return []fault{
			{"the number of rates", always, func(x *args) { x.rates = append(x.rates, 0) }, api.ErrArg},
			{"a rate", always, func(x *args) { x.rates = []int{-api.MaxRate - 1} }, api.ErrRange},
			{"a tick that fails", always, func(x *args) { x.state[len(x.state)-1].Mass++ }, api.ErrFail},
		}
	case "Strikes":
		return []fault{
			{"too many readings", always, func(x *args) {
				x.readings = append(x.readings, slices.Repeat(x.readings[:1], api.MaxReadings)...)
			}, api.ErrLimit},
			{"what a reading tells", always, func(x *args) { x.add(reading(1, 9, 0, 0, 0)) }, api.ErrArg},
			{"the range of a reading", always, func(x *args) { x.add(reading(1, rock.Mass, 0, 1, 0)) }, api.ErrArg},
			{"the tick of a reading", always, func(x *args) { x.add(reading(0, rock.Mass, 0, 0, 0)) }, api.ErrRange},
			{"the well of a reading", always, func(x *args) { x.add(reading(1, rock.Mass, 1, 0, 0)) }, api.ErrRange},
			fail,
		}
	case "Decline":
		return []fault{{"the mass", always, func(x *args) { x.least = -1 }, api.ErrRange}, fail}
	}
	return []fault{fail}
}

// add puts a reading ahead of the others.
func (x *args) add(r rock.Reading) { x.readings = append([]rock.Reading{r}, x.readings...) }

// TestErrorOrder: R1, of two errors the one that the chapter names first counts; R2, it stands alone.
func TestErrorOrder(t *testing.T) {
	for name, c := range calls() {
		if e := c.call(fillArgs()); e != api.OK {
			t.Errorf("%s: %v", name, e)
		}
		l := slices.DeleteFunc(faults(), func(f fault) bool { return !f.of(c) })
		l = append(l, ownFaults(name)...)
		for i, one := range l {
			x := fillArgs()
			one.make(&x)
			if e := c.call(x); e != one.want {
				t.Errorf("%s, %s: %v", name, one.name, e)
			}
			for _, other := range l[i+1:] {
				x := fillArgs()
				other.make(&x)
				one.make(&x)
				if e := c.call(x); e != one.want {
					t.Errorf("%s, %s before %s: %v", name, one.name, other.name, e)
				}
			}
		}
	}
}

// TestEverythingWrong: each call has its first error if all that it is given is wrong.
func TestEverythingWrong(t *testing.T) {
	for name, c := range calls() {
		l := slices.DeleteFunc(faults(), func(f fault) bool { return !f.of(c) })
		l = append(l, ownFaults(name)...)
		for first := range l {
			x := fillArgs()
			for i := len(l) - 1; i >= first; i-- {
				l[i].make(&x)
			}
			if e := c.call(x); e != l[first].want {
				t.Errorf("%s, all from %s on: %v", name, l[first].name, e)
			}
		}
	}
}

// TestPlans: which plans the calls take, tick by tick.
func TestPlans(t *testing.T) {
	b := bed(2, 1, 1, wells(2)...)
	for what, c := range map[string]struct {
		plan [][]int
		want api.Errno
	}{
		"none":                        {nil, api.OK},
		"many ticks":                  {slices.Repeat([][]int{{0, 0}}, api.MaxRun), api.OK},
		"a tick too many":             {slices.Repeat([][]int{{0, 0}}, api.MaxRun+1), api.ErrLimit},
		"ticks of nothing, too many":  {make([][]int, api.MaxRun+1), api.ErrLimit},
		"the greatest rates":          {[][]int{{-api.MaxRate, api.MaxRate}, {api.MaxRate, -api.MaxRate}}, api.OK},
		"a rate too few":              {[][]int{{0, 0}, {0}}, api.ErrArg},
		"no rates":                    {[][]int{{0, 0}, nil, {0, 0}}, api.ErrArg},
		"a rate too many":             {[][]int{{0, 0, 0}}, api.ErrArg},
		"too many before a far one":   {[][]int{{0, 0, 0}, {0, api.MaxRate + 1}}, api.ErrArg},
		"a far one before too many":   {[][]int{{0, api.MaxRate + 1}, {0, 0, 0}}, api.ErrRange},
		"too many and far in a tick":  {[][]int{{0, 0, api.MaxRate + 1}}, api.ErrArg},
		"too few and far in a tick":   {[][]int{{api.MaxRate + 1}}, api.ErrArg},
		"a far one in the last tick":  {append(slices.Repeat([][]int{{0, 0}}, 199), []int{-api.MaxRate - 1, 0}), api.ErrRange},
		"a missing one in the last":   {append(slices.Repeat([][]int{{0, 0}}, 199), []int{0}), api.ErrArg},
		"a far one before a bad tick": {[][]int{{-api.MaxRate, 0}, {0, -api.MaxRate - 1}, nil}, api.ErrRange},
	} {
		x := goodArgs(b)
		x.plan = c.plan
		for name, call := range calls() {
			if e := call.call(x); call.plan && e != c.want {
				t.Errorf("%s, %s: %v", name, what, e)
			}
		}
	}
	for _, n := range append([]int{-api.MaxRate - 1, api.MaxRate + 1}, farNumbers...) {
		for _, rates := range [][]int{{n, 0}, {0, n}} {
			x := goodArgs(b)
			x.plan, x.rates = [][]int{{0, 0}, rates}, rates
			for name, call := range calls() {
				if e := call.call(x); (call.plan || name == "Tick") && e != api.ErrRange {
					t.Errorf("%s with the rates %v: %v", name, rates, e)
				}
			}
		}
	}
	for _, n := range []int{-api.MaxRate, api.MaxRate} {
		x := goodArgs(b)
		x.rates = []int{n, n}
		if e := calls()["Tick"].call(x); e != api.OK {
			t.Errorf("Tick with the rates %v: %v", x.rates, e)
		}
	}
	for _, rates := range [][]int{nil, {0}, {0, 0, 0}, {api.MaxRate + 1}, {0, 0, api.MaxRate + 1}} {
		x := goodArgs(b)
		x.rates = rates
		if e := calls()["Tick"].call(x); e != api.ErrArg {
			t.Errorf("Tick with the rates %v: %v", rates, e)
		}
	}
}

// TestFar: numbers of any size are refused.
func TestFar(t *testing.T) {
	x := goodArgs(bed(2, 1, 1, wells(2)...))
	for _, n := range append([]int{-1, 2}, farNumbers...) {
		x.well = n
		for name, c := range calls() {
			if e := c.call(x); c.well && e != api.ErrRange {
				t.Errorf("%s of the well %d: %v", name, n, e)
			}
		}
	}
	for _, n := range []int{0, 1} {
		x.well = n
		for name, c := range calls() {
			if e := c.call(x); e != api.OK {
				t.Errorf("%s of the well %d: %v", name, n, e)
			}
		}
	}
	for _, n := range append([]int{-1, api.MaxRate + 1}, farNumbers...) {
		if p, q, e := rock.Decline(x.bed, x.models, x.plan, 0, n); p != 0 || q != 0 || e != api.ErrRange {
			t.Errorf("Decline below %d: %d, %d, %v", n, p, q, e)
		}
	}
	x.bed.Wells = nil
	for name, c := range calls() {
		x.plan, x.rates, x.well = [][]int{{}, nil}, nil, 0
		want := api.OK
		if c.well {
			want = api.ErrRange
		}
		if e := c.call(x); e != want {
			t.Errorf("%s without wells: %v", name, e)
		}
	}
}

// TestReadingErrors: which readings Strikes takes, one by one.
func TestReadingErrors(t *testing.T) {
	x := goodArgs(bed(2, 1, 1, rock.Bore{Block: 1}))
	x.plan = slices.Repeat([][]int{{0}}, 5)
	try := func(what string, want api.Errno, l ...rock.Reading) {
		t.Helper()
		x.readings = l
		if e := calls()["Strikes"].call(x); e != want {
			t.Errorf("%s: %v", what, e)
		}
	}
	good := reading(5, rock.Mass, 0, 0, 9)
	try("none", api.OK)
	try("many", api.OK, slices.Repeat([]rock.Reading{good}, api.MaxReadings)...)
	try("too many", api.ErrLimit, slices.Repeat([]rock.Reading{good}, api.MaxReadings+1)...)
	try("too many, none of them one", api.ErrLimit, make([]rock.Reading, api.MaxReadings+1)...)
	for what := range 256 {
		for _, r := range []rock.Reading{reading(1, uint8(what), 0, 0, 0), reading(0, uint8(what), 0, 0, 0), reading(5, uint8(what), 1, 0, 0)} {
			want := api.OK
			switch {
			case what < 1 || what > 4:
				want = api.ErrArg
			case what != 1 && (r.Tick == 0 || r.Index == 1):
				want = api.ErrRange
			}
			try("what "+strconv.Itoa(what), want, good, r)
			try("what "+strconv.Itoa(what)+", first", want, r, good)
		}
	}
	for what := rock.Pressure; what <= rock.Stain; what++ {
		for _, n := range append([]int{-1, 6}, farNumbers...) {
			try("the tick "+strconv.Itoa(n), api.ErrRange, good, reading(n, what, 0, 0, 0))
		}
		for _, n := range append([]int{-1, 2}, farNumbers...) {
			try("the index "+strconv.Itoa(n), api.ErrRange, good, reading(1, what, n, 0, 0))
		}
		for _, n := range append([]int{-api.MaxSum - 1, api.MaxSum + 1}, farNumbers...) {
			try("from "+strconv.Itoa(n), api.ErrArg, good, reading(1, what, 0, n, 5))
			try("to "+strconv.Itoa(n), api.ErrArg, good, reading(1, what, 0, 5, n))
			try("only "+strconv.Itoa(n), api.ErrArg, good, reading(1, what, 0, n, n))
		}
		try("no range", api.ErrArg, good, reading(1, what, 0, 1, 0))
		try("no range, far", api.ErrArg, good, reading(1, what, 0, api.MaxSum, -api.MaxSum))
		try("the widest range", api.OK, good, reading(1, what, 0, -api.MaxSum, api.MaxSum))
		try("the least range", api.OK, good, reading(1, what, 0, -api.MaxSum, -api.MaxSum))
		try("the greatest range", api.OK, good, reading(1, what, 0, api.MaxSum, api.MaxSum))
		try("both in one", api.ErrArg, reading(-1, what, -1, 1, 0))
		try("the range before the tick of the next one", api.ErrArg, reading(1, what, 0, 1, 0), reading(-1, what, 0, 0, 0))
		try("the tick before the range of the next one", api.ErrRange, reading(-1, what, 0, 0, 0), reading(1, what, 0, 1, 0))
		try("the index before what the next one tells", api.ErrRange, reading(1, what, 2, 0, 0), reading(1, 0, 0, 0, 0))
	}
	x.plan = nil
	try("before the plan", api.OK, reading(0, rock.Pressure, 1, 0, 0))
	try("behind no plan", api.ErrRange, reading(1, rock.Pressure, 0, 0, 0))
	for what := rock.Mass; what <= rock.Stain; what++ {
		try("no tick for a well", api.ErrRange, reading(0, what, 0, 0, 0))
		try("no first tick for a well", api.ErrRange, reading(1, what, 0, 0, 0))
	}
}

// TestFails: ErrFail, in any model and in any tick, whatever else the runs show.
func TestFails(t *testing.T) {
	struck, kept := reading(0, rock.Pressure, 0, 5, 5), reading(1, rock.Mass, 0, 0, 0)
	for name, c := range calls() {
		for at := range fillArgs().models {
			if !c.plan || !c.many && at > 0 {
				continue
			}
			for _, l := range [][]rock.Reading{nil, {struck}, {kept}} {
				x := fillArgs()
				x.readings, x.least = l, 1 // the well yields nothing from the first tick on
				x.models[at].Values[1]++
				if e := c.call(x); e != api.ErrFail {
					t.Errorf("%s, the model %d fails: %v", name, at, e)
				}
				x.plan[9][0]++
				if e := c.call(x); e != api.OK {
					t.Errorf("%s, it does not: %v", name, e)
				}
				x.plan = append(x.plan, []int{-1}, []int{api.MaxRate}, []int{0})
				if e := c.call(x); e != api.ErrFail {
					t.Errorf("%s, a tick before the last one fails: %v", name, e)
				}
			}
		}
	}
}
