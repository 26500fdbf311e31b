package pipe_test

import (
	"slices"
	"testing"

	"fumarole/api"
	"fumarole/steam"
)

// TestStates: which states the calls take.
func TestStates(t *testing.T) {
	for name, c := range calls() {
		if !c.stated {
			continue
		}
		x := trainArgs()
		try := func(want api.Errno, state ...int) {
			t.Helper()
			x.state = state
			if e := c.call(x); e != want {
				t.Errorf("%s in the state %v: %v", name, state, e)
			}
		}
		try(api.OK, 0, 0, 0, 0, 0, 0)
		try(api.ErrArg)
		try(api.ErrArg, 0, 0, 0, 0, 0)
		try(api.ErrArg, 0, 0, 0, 0, 0, 0, 0)
		for i := range x.net.Elements {
			for _, n := range append([]int{-1, api.MaxDeposit + 1, api.MaxDeposit, 1}, farNumbers...) {
				state, want := zeros(x.net), api.ErrArg
				state[i] = n
				if 0 <= n && n <= api.MaxDeposit {
					want = api.OK
				}
				try(want, state...)
			}
		}
	}
}

// TestCases: which cases the calls take, alone, and among others.
func TestCases(t *testing.T) {
	half := stream(api.MaxMass/2, 0, 0, api.MaxGas/2)
	for what, c := range map[string]struct {
		wells []steam.Stream
		want  api.Errno
	}{
		"nothing flows":              {make([]steam.Stream, 2), api.OK},
		"all that can be":            {[]steam.Stream{half, half}, api.OK},
		"all from the first one":     {[]steam.Stream{stream(api.MaxMass, 0, 0, api.MaxGas), {}}, api.OK},
		"gas alone":                  {[]steam.Stream{{Gas: 5}, {Gas: 6}}, api.OK},
		"none":                       {nil, api.ErrArg},
		"a stream too few":           {make([]steam.Stream, 1), api.ErrArg},
		"a stream too many":          {make([]steam.Stream, 3), api.ErrArg},
		"as many as elements":        {make([]steam.Stream, 6), api.ErrArg},
		"far too many":               {make([]steam.Stream, 41), api.ErrArg},
		"a kilogram too much":        {[]steam.Stream{half, stream(api.MaxMass/2+1, 0, 0, 0)}, api.ErrLimit},
		"a gram of gas too much":     {[]steam.Stream{half, stream(0, 0, 0, api.MaxGas/2+1)}, api.ErrLimit},
		"too much heat":              {[]steam.Stream{half, stream(1, api.MaxEnthalpy+1, 0, 0)}, api.ErrArg},
		"too much silica":            {[]steam.Stream{stream(1, 0, api.MaxGrain+1, 0), half}, api.ErrArg},
		"too much in one":            {[]steam.Stream{stream(api.MaxMass+1, 0, 0, 0), {}}, api.ErrArg},
		"too much gas in one":        {[]steam.Stream{{}, stream(0, 0, 0, api.MaxGas+1)}, api.ErrArg},
		"no stream before too much":  {[]steam.Stream{stream(api.MaxMass, 0, 0, 0), stream(1, -1, 0, 0)}, api.ErrArg},
		"too few before too much":    {[]steam.Stream{stream(api.MaxMass+1, 0, 0, 0)}, api.ErrArg},
		"too many before too much":   {slices.Repeat([]steam.Stream{half}, 3), api.ErrArg},
		"a mass below 0":             {[]steam.Stream{stream(-1, 0, 0, 0), half}, api.ErrArg},
		"gas that is less than none": {[]steam.Stream{half, stream(0, 0, 0, -1)}, api.ErrArg},
	} {
		for name, call := range calls() {
			x := trainArgs()
			x.cases = [][]steam.Stream{c.wells}
			if e := call.call(x); call.takesCase() && e != c.want {
				t.Errorf("%s, %s: %v", name, what, e)
			}
			x.cases = append(trainArgs().cases, c.wells, trainArgs().cases[0])
			if e := call.call(x); call.many && e != c.want {
				t.Errorf("%s, %s among others: %v", name, what, e)
			}
		}
	}
}

// TestCaseLists: none, many, too many, and the first one that is wrong.
func TestCaseLists(t *testing.T) {
	good := trainArgs().cases[0]
	much := []steam.Stream{stream(api.MaxMass, 0, 0, 0), stream(1, 0, 0, 0)}
	for what, c := range map[string]struct {
		cases [][]steam.Stream
		want  api.Errno
	}{
		"none":                  {nil, api.ErrLimit},
		"one":                   {[][]steam.Stream{good}, api.OK},
		"many":                  {slices.Repeat([][]steam.Stream{good}, api.MaxCases), api.OK},
		"too many":              {slices.Repeat([][]steam.Stream{good}, api.MaxCases+1), api.ErrLimit},
		"too many that are not": {make([][]steam.Stream, api.MaxCases+1), api.ErrLimit},
		"too much, then none":   {[][]steam.Stream{good, much, nil}, api.ErrLimit},
		"none, then too much":   {[][]steam.Stream{good, nil, much}, api.ErrArg},
		"the last of many":      {append(slices.Repeat([][]steam.Stream{good}, api.MaxCases-1), much), api.ErrLimit},
	} {
		for name, call := range calls() {
			x := trainArgs()
			x.cases = c.cases
			if e := call.call(x); call.many && e != c.want {
				t.Errorf("%s, %s: %v", name, what, e)
			}
		}
	}
}
