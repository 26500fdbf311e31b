package trial_test

import (
	"slices"
	"strconv"
	"testing"

	"fumarole/api"
	"fumarole/trial"
)

// notAlone stands for an error beside which another result is not zero.
const notAlone api.Errno = -1

// alone gives the error, if R2 holds for it.
func alone(e api.Errno, zero bool) api.Errno {
	if e != api.OK && !zero {
		return notAlone
	}
	return e
}

// choice is what the calls with a test are given besides it.
type choice struct {
	flow, limit int
	flows       []int
}

func goodChoice() choice { return choice{flows: []int{0}} }

// badChoice has an error for each call that is given something.
func badChoice() choice { return choice{flow: -1, limit: api.MaxDrop + 1} }

// testCalls are those that take a test.
func testCalls() map[string]func(trial.Test, choice) api.Errno {
	return map[string]func(trial.Test, choice) api.Errno{
		"CheckTest": func(x trial.Test, c choice) api.Errno { return trial.CheckTest(x) },
		"Curves": func(x trial.Test, c choice) api.Errno {
			n, p, q, r, e := trial.Curves(x)
			return alone(e, n == 0 && p == trial.Range{} && q == trial.Range{} && r == trial.Range{})
		},
		"Drawdown": func(x trial.Test, c choice) api.Errno {
			r, e := trial.Drawdown(x, c.flow)
			return alone(e, r == trial.Range{})
		},
		"Capacity": func(x trial.Test, c choice) api.Errno {
			sure, may, e := trial.Capacity(x, c.limit)
			return alone(e, sure == 0 && may == 0)
		},
		"Widest": func(x trial.Test, c choice) api.Errno {
			i, e := trial.Widest(x, c.flows)
			return alone(e, i == 0)
		},
		"Blame": func(x trial.Test, c choice) api.Errno {
			i, e := trial.Blame(x)
			return alone(e, i == 0)
		},
		"Conflicts": func(x trial.Test, c choice) api.Errno {
			l, e := trial.Conflicts(x)
			return alone(e, len(l) == 0)
		},
	}
}

// blames gives whether the call is one about a test with which no curve agrees.
func blames(name string) bool { return name == "Blame" || name == "Conflicts" }

// edgeTests are tests that are just valid, and with which curves agree.
func edgeTests() map[string]trial.Test {
	return map[string]trial.Test{
		"nothing":             {},
		"the greatest box":    {A: between(0, api.MaxRest), B: between(api.MaxSlope-39, api.MaxSlope), C: between(api.MaxBend-39, api.MaxBend)},
		"the least box":       {A: only(0), B: between(0, 39), C: between(0, 39)},
		"single numbers":      {A: only(api.MaxRest), B: only(api.MaxSlope), C: only(api.MaxBend)},
		"many steps":          {Steps: slices.Repeat([]trial.Step{step(5, 0, 0)}, api.MaxSteps)},
		"the greatest flow":   {Steps: []trial.Step{step(api.MaxFlow, 0, 0)}},
		"the widest drawdown": {Steps: []trial.Step{step(0, -api.MaxDrop, api.MaxDrop)}},
	}
}

// badTests are tests that are not valid, but for their number of steps.
func badTests() map[string]trial.Test {
	all := map[string]trial.Test{
		"A is none":         {A: between(1, 0)},
		"B is none":         {B: between(1, 0)},
		"C is none":         {C: between(1, 0)},
		"A is none, above":  {A: between(api.MaxRest, 5)},
		"B is wide":         {B: between(0, 40)},
		"C is wide":         {C: between(0, 40)},
		"B is wide, above":  {B: between(api.MaxSlope-40, api.MaxSlope)},
		"C is wide, above":  {C: between(api.MaxBend-40, api.MaxBend)},
		"B is all":          {B: between(0, api.MaxSlope)},
		"C is all":          {C: between(0, api.MaxBend)},
		"a step of nothing": {Steps: []trial.Step{step(0, 1, 0)}},
		"a step far off":    {Steps: []trial.Step{step(0, api.MaxDrop, -api.MaxDrop)}},
	}
	add := func(what string, n int, x trial.Test) { all[what+" "+strconv.Itoa(n)] = x }
	for _, n := range append([]int{-1}, farNumbers...) {
		add("A from", n, trial.Test{A: between(n, 5)})
		add("B from", n, trial.Test{B: between(n, 5)})
		add("C from", n, trial.Test{C: between(n, 5)})
		add("only A", n, trial.Test{A: only(n)})
		add("only B", n, trial.Test{B: only(n)})
		add("only C", n, trial.Test{C: only(n)})
	}
	for _, n := range farNumbers {
		add("A to", n, trial.Test{A: between(5, n)})
		add("B to", n, trial.Test{B: between(5, n)})
		add("C to", n, trial.Test{C: between(5, n)})
	}
	add("A to", api.MaxRest+1, trial.Test{A: between(5, api.MaxRest+1)})
	add("B to", api.MaxSlope+1, trial.Test{B: between(api.MaxSlope, api.MaxSlope+1)})
	add("C to", api.MaxBend+1, trial.Test{C: between(api.MaxBend, api.MaxBend+1)})
	for _, n := range append([]int{-1, api.MaxFlow + 1}, farNumbers...) {
		add("a flow", n, trial.Test{Steps: []trial.Step{step(n, -api.MaxDrop, api.MaxDrop)}})
	}
	for _, n := range append([]int{-api.MaxDrop - 1, api.MaxDrop + 1}, farNumbers...) {
		add("a drawdown from", n, trial.Test{Steps: []trial.Step{step(0, n, 5)}})
		add("a drawdown to", n, trial.Test{Steps: []trial.Step{step(0, -5, n)}})
		add("only a drawdown", n, trial.Test{Steps: []trial.Step{step(0, n, n)}})
	}
	for name, x := range all {
		if len(x.Steps) == 1 { // the same step behind good ones, and ahead of one
			good := step(1, -9, 9)
			last, first := x, x
			last.Steps, first.Steps = []trial.Step{good, good, x.Steps[0]}, []trial.Step{x.Steps[0], good}
			all[name+", the last one"], all[name+", the first one"] = last, first
		}
	}
	return all
}

// TestTestErrors: P4.1, a test that is not valid is the first error of each call with it.
func TestTestErrors(t *testing.T) {
	for name, call := range testCalls() {
		for what, x := range edgeTests() {
			want := api.OK
			if blames(name) {
				want = api.ErrNone
			}
			if e := call(x, goodChoice()); e != want {
				t.Errorf("%s, %s: %v", name, what, e)
			}
		}
		for what, x := range badTests() {
			long := x
			long.Steps = slices.Concat(x.Steps, slices.Repeat([]trial.Step{step(0, 0, 0)}, api.MaxSteps+1-len(x.Steps)))
			for _, c := range []choice{goodChoice(), badChoice()} {
				if e := call(x, c); e != api.ErrArg {
					t.Errorf("%s, %s: %v", name, what, e)
				}
				if e := call(long, c); e != api.ErrLimit {
					t.Errorf("%s, %s, and a step too many: %v", name, what, e)
				}
			}
		}
		long := trial.Test{Steps: slices.Repeat([]trial.Step{step(0, 0, 0)}, api.MaxSteps+1)}
		if e := call(long, goodChoice()); e != api.ErrLimit {
			t.Errorf("%s, a step too many: %v", name, e)
		}
	}
	for what, x := range badTests() {
		if trial.Agrees(x, trial.Curve{A: x.A.Lo, B: x.B.Lo, C: x.C.Lo}) {
			t.Errorf("Agrees, %s", what)
		}
	}
	if trial.Agrees(trial.Test{Steps: slices.Repeat([]trial.Step{step(0, 0, 0)}, api.MaxSteps+1)}, trial.Curve{}) {
		t.Error("Agrees, a step too many")
	}
}

// TestChoiceErrors: the errors of the calls themselves, ErrRange before ErrNone.
func TestChoiceErrors(t *testing.T) {
	calls := testCalls()
	expect := func(name string, c choice, good, empty api.Errno) {
		t.Helper()
		if e := calls[name](chapterTest(), c); e != good {
			t.Errorf("%s of %v: %v, not %v", name, c, e, good)
		}
		if e := calls[name](emptyTest(), c); e != empty {
			t.Errorf("%s of %v, and no curve: %v, not %v", name, c, e, empty)
		}
	}
	for name := range calls {
		good, empty := api.OK, api.ErrNone
		if blames(name) {
			good, empty = empty, good
		}
		if name != "CheckTest" {
			expect(name, goodChoice(), good, empty)
		}
	}
	expect("CheckTest", goodChoice(), api.OK, api.OK)
	for _, n := range []int{0, 1, api.MaxFlow} {
		expect("Drawdown", choice{flow: n}, api.OK, api.ErrNone)
		expect("Widest", choice{flows: []int{n}}, api.OK, api.ErrNone)
	}
	for _, n := range append([]int{-1, api.MaxFlow + 1}, farNumbers...) {
		expect("Drawdown", choice{flow: n}, api.ErrRange, api.ErrRange)
		for _, flows := range [][]int{{n}, {n, 5}, {5, n}, {5, 6, n, 7}} {
			expect("Widest", choice{flows: flows}, api.ErrRange, api.ErrRange)
		}
	}
	expect("Widest", choice{}, api.ErrRange, api.ErrRange)
	expect("Widest", choice{flows: []int{}}, api.ErrRange, api.ErrRange)
	expect("Widest", choice{flows: make([]int, api.MaxSteps)}, api.OK, api.ErrNone)
	expect("Widest", choice{flows: make([]int, api.MaxSteps+1)}, api.ErrRange, api.ErrRange)
	for _, n := range []int{-api.MaxDrop, api.MaxDrop} {
		expect("Capacity", choice{limit: n}, api.OK, api.ErrNone)
	}
	for _, n := range append([]int{-api.MaxDrop - 1, api.MaxDrop + 1}, farNumbers...) {
		expect("Capacity", choice{limit: n}, api.ErrRange, api.ErrRange)
	}
}
