package pipe_test

import (
	"slices"

	"fumarole/api"
	"fumarole/pipe"
	"fumarole/steam"
)

// dice gives numbers that are the same in each run.
type dice struct{ seed uint64 }

// roll gives a number from lo to hi.
func (d *dice) roll(lo, hi int) int {
	d.seed = d.seed*6364136223846793005 + 1442695040888963407
	return lo + int((d.seed>>20)%uint64(hi-lo+1))
}

// pick gives one of the numbers.
func (d *dice) pick(l ...int) int { return l[d.roll(0, len(l)-1)] }

// table gives a valid table of so many rows.
func (d *dice) table(rows int) steam.Table {
	var t steam.Table
	r := steam.Row{T: d.roll(0, 9), P: d.roll(1, 400), Liquid: d.roll(0, 300), Silica: d.roll(0, 200)}
	for range rows {
		r.Vapour = r.Liquid + d.roll(1, 2000)
		t = append(t, r)
		r.T, r.P, r.Liquid, r.Silica = r.T+d.roll(1, 19), r.P+d.roll(1, 400), r.Liquid+d.roll(1, 85), r.Silica+d.roll(0, 80)
	}
	return t
}

// shape is what nets may be like.
type shape struct {
	elements, separators int  // at most so many
	tight                bool // elements may be full
}

// net gives a valid net.
func (d *dice) net(s shape) pipe.Net {
	n := pipe.Net{Table: d.table(d.roll(2, 6))}
	var open []pipe.Port
	for i := range d.roll(1, s.elements) {
		x := d.element(n, s, &open)
		n.Elements = append(n.Elements, x)
		for outlet := range outlets(x) {
			open = append(open, pipe.Port{Element: i, Outlet: outlet})
		}
	}
	return n
}

// element gives an element that fits behind the net, and takes its From away from the open ends.
func (d *dice) element(n pipe.Net, s shape, open *[]pipe.Port) pipe.Element {
	x := pipe.Element{Kind: uint8(d.roll(1, 6)), Wide: api.MaxMass, Narrow: d.pick(1, 1000, 1000000, api.MaxNarrow), Level: len(n.Table) - 1}
	if s.tight && d.roll(0, 7) == 0 {
		x.Wide = d.pick(0, d.roll(0, 1000), d.roll(0, api.MaxMass))
	}
	if d.roll(0, 1) == 0 && kinds(n, pipe.Separator) < s.separators {
		x.Kind = pipe.Separator
	}
	if len(*open) == 0 {
		x.Kind = pipe.Well
	}
	if x.Kind == pipe.Separator && kinds(n, pipe.Separator) == s.separators {
		x.Kind = pipe.Valve
	}
	from := 1
	switch x.Kind {
	case pipe.Well:
		from = 0
	case pipe.Join:
		from = d.roll(1, min(api.MaxJoins, len(*open)))
	case pipe.Line:
		x.Amount = d.pick(0, d.roll(0, 1000000), api.MaxCooling)
	case pipe.Separator:
		x.Amount = d.pick(0, 0, d.roll(1, 300), d.roll(0, 1000), 1000)
	case pipe.Split:
		x.Weights = d.weights()
	}
	for range from {
		at := d.roll(0, len(*open)-1)
		x.From = append(x.From, (*open)[at])
		*open = slices.Delete(*open, at, at+1)
	}
	for _, p := range x.From {
		x.Level = min(x.Level, n.Elements[p.Element].Level)
	}
	if d.roll(0, 2) == 0 {
		x.Level = d.roll(0, x.Level)
	}
	return x
}

func (d *dice) weights() []int {
	l := make([]int, d.pick(1, d.roll(1, 4), d.roll(1, api.MaxShares)))
	for i := range l {
		l[i] = d.pick(0, d.roll(0, 9), d.roll(0, api.MaxShare))
	}
	l[d.roll(0, len(l)-1)] = d.roll(1, api.MaxShare)
	return l
}

// wells gives a case of the net.
func (d *dice) wells(n pipe.Net) []steam.Stream {
	var l []steam.Stream
	count := kinds(n, pipe.Well)
	grain := d.pick(0, 0, 50, 100, 300, 1000, api.MaxGrain)
	for range count {
		m := d.pick(0, d.roll(0, 50), d.roll(0, api.MaxMass/count), d.roll(0, api.MaxMass/count), api.MaxMass/count)
		s := steam.Stream{Mass: m, Heat: d.pick(m*d.roll(0, 1500), d.roll(0, 1500*m), d.roll(0, api.MaxEnthalpy*m)), Gas: d.roll(0, api.MaxGas/count)}
		s.Silica = d.roll(0, grain*m)
		l = append(l, s)
	}
	return l
}

// cases gives cases of the net.
func (d *dice) cases(n pipe.Net) [][]steam.Stream {
	var l [][]steam.Stream
	for range d.roll(1, api.MaxCases) {
		l = append(l, d.wells(n))
	}
	return l
}

// state gives a state of the net; in most elements little has settled.
func (d *dice) state(n pipe.Net) []int {
	var l []int
	for _, x := range n.Elements {
		l = append(l, d.pick(0, 0, 0, d.roll(0, x.Narrow), d.roll(0, min(api.MaxDeposit, x.Narrow*100))))
	}
	return l
}
