package pipe

import (
	"fumarole/api"
	"fumarole/steam"
)

// rule is what the elements of a kind have.
type rule struct {
	from    int // the greatest number of ports in a From; there is one at least, if there may be any
	amount  int // the greatest Amount
	outlets int // 0: one for each weight
}

// CheckNet returns ErrArg if the net is not valid.
func CheckNet(n Net) api.Errno {
	if !n.valid() {
		return api.ErrArg
	}
	return api.OK
}

// Ends returns the open ends of the net.
func Ends(n Net) ([]Port, api.Errno) {
	if e := CheckNet(n); e != api.OK {
		return nil, e
	}
	return n.ends(), api.OK
}

// Widths returns the width of each element in the state.
func Widths(n Net, state []int) ([]int, api.Errno) {
	if e := checkState(n, state); e != api.OK {
		return nil, e
	}
	var widths []int
	for i, x := range n.Elements {
		widths = append(widths, x.width(state[i]))
	}
	return widths, api.OK
}

// count returns how many of the elements are of the kind.
func count(l []Element, kind uint8) int {
	found := 0
	for _, x := range l {
		if x.Kind == kind {
			found++
		}
	}
	return found
}

func (n Net) valid() bool {
	return steam.CheckTable(n.Table) == api.OK &&
		within(len(n.Elements), 1, api.MaxElements) &&
		every(n.Elements, Element.valid) &&
		every(n.Elements, n.hasLevel) &&
		n.isJoined()
}

func (n Net) hasLevel(x Element) bool { return within(x.Level, 0, len(n.Table)-1) }

// isJoined returns whether each element takes from elements before it, none of which is below it, and no two take from the same port.
func (n Net) isJoined() bool {
	ports := 0
	for i, x := range n.Elements {
		for _, p := range x.From {
			if p.Element >= i || !n.hasPort(p) || x.Level > n.Elements[p.Element].Level {
				return false
			}
		}
		ports += len(x.From)
	}
	return len(n.taken()) == ports
}

func (n Net) hasPort(p Port) bool {
	return within(p.Element, 0, len(n.Elements)-1) && within(p.Outlet, 0, n.Elements[p.Element].outlets()-1)
}

// taken returns the ports that stand in the Froms.
func (n Net) taken() map[Port]bool {
	taken := map[Port]bool{}
	for _, x := range n.Elements {
		for _, p := range x.From {
			taken[p] = true
		}
	}
	return taken
}

func (n Net) ends() []Port {
	taken := n.taken()
	var ends []Port
	for i, x := range n.Elements {
		for outlet := range x.outlets() {
			if p := (Port{i, outlet}); !taken[p] {
				ends = append(ends, p)
			}
		}
	}
	return ends
}

// valid returns whether the element is as its kind says, whatever net it is in.
func (x Element) valid() bool {
	if x.Kind < Well || x.Kind > Valve {
		return false
	}
	r := x.rule()
	return within(len(x.From), min(1, r.from), r.from) &&
		within(x.Amount, 0, r.amount) &&
		within(x.Wide, 0, api.MaxMass) &&
		within(x.Narrow, 1, api.MaxNarrow) &&
		x.hasWeights()
}

// hasWeights returns whether a Split has weights that steam.Share takes, and another element none.
func (x Element) hasWeights() bool {
	if x.Kind != Split {
		return len(x.Weights) == 0
	}
	_, _, e := steam.Share(steam.Stream{}, x.Weights)
	return e == api.OK
}

func (x Element) rule() rule {
	rules := [...]rule{
		Well:      {outlets: 1},
		Join:      {from: api.MaxJoins, outlets: 1},
		Line:      {from: 1, amount: api.MaxCooling, outlets: 1},
		Separator: {from: 1, amount: 1000, outlets: 2},
		Split:     {from: 1},
		Valve:     {from: 1, outlets: 1},
	}
	return rules[x.Kind]
}

func (x Element) outlets() int {
	if x.Kind == Split {
		return len(x.Weights)
	}
	return x.rule().outlets
}

// width returns the width of the element with so much that has settled.
func (x Element) width(deposit int) int { return max(0, x.Wide-deposit/x.Narrow) }
