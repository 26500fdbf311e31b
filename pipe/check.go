package pipe

import (
	"fumarole/api"
	"fumarole/steam"
)

// checkState returns the first error of the net and of the state.
func checkState(n Net, state []int) api.Errno {
	if e := CheckNet(n); e != api.OK {
		return e
	}
	if len(state) != len(n.Elements) || !every(state, isDeposit) {
		return api.ErrArg
	}
	return api.OK
}

func isDeposit(n int) bool { return within(n, 0, api.MaxDeposit) }

// checkCase returns the first error of the net, of the state and of the case.
func checkCase(n Net, state []int, wells []steam.Stream) api.Errno {
	if e := checkState(n, state); e != api.OK {
		return e
	}
	return n.checkWells(wells)
}

// checkCases returns the first error of the net, of the state and of the cases.
func checkCases(n Net, state []int, cases [][]steam.Stream) api.Errno {
	if e := checkState(n, state); e != api.OK {
		return e
	}
	if !within(len(cases), 1, api.MaxCases) {
		return api.ErrLimit
	}
	for _, wells := range cases {
		if e := n.checkWells(wells); e != api.OK {
			return e
		}
	}
	return api.OK
}

// checkWells returns the error of a case of the net, which is valid.
func (n Net) checkWells(wells []steam.Stream) api.Errno {
	if len(wells) != count(n.Elements, Well) {
		return api.ErrArg
	}
	// Streams can be mixed if they are valid, and together neither of too much mass nor of too much gas: so are those of a case.
	_, e := steam.Mix(wells)
	return e
}
