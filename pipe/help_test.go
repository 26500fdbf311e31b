package pipe_test

import (
	"math"
	"slices"
	"testing"

	"fumarole/api"
	"fumarole/pipe"
	"fumarole/steam"
)

// The calls of the chapter, with their exact signatures.
var (
	_ func(pipe.Net) api.Errno                                                                                = pipe.CheckNet
	_ func(pipe.Net) ([]pipe.Port, api.Errno)                                                                 = pipe.Ends
	_ func(pipe.Net, []int) ([]int, api.Errno)                                                                = pipe.Widths
	_ func(n pipe.Net, state []int, wells []steam.Stream) (t pipe.Tick, full int, e api.Errno)                = pipe.Do
	_ func(n pipe.Net, state []int, wells []steam.Stream) (in, out steam.Stream, lost pipe.Lost, e api.Errno) = pipe.Account
	_ func(n pipe.Net, state []int, wells []steam.Stream) ([]pipe.Fall, api.Errno)                            = pipe.Falls
	_ func(n pipe.Net, state []int, wells []steam.Stream, most int) (ticks, full int, e api.Errno)            = pipe.Life
	_ func(n pipe.Net, state []int, cases [][]steam.Stream) ([]pipe.Cover, api.Errno)                         = pipe.Covers
	_ func(n pipe.Net, state []int, cases [][]steam.Stream) (at, element int, e api.Errno)                    = pipe.Unsafe
	_ func(n pipe.Net, levels []int) (pipe.Net, api.Errno)                                                    = pipe.Set
	_ func(n pipe.Net, state []int, cases [][]steam.Stream) (levels []int, made int, e api.Errno)             = pipe.Best
	_ [6]uint8                                                                                                = [...]uint8{pipe.Well, pipe.Join, pipe.Line, pipe.Separator, pipe.Split, pipe.Valve}
	_ struct{ Heat, Silica, Gas, Scale int }                                                                  = pipe.Lost{}
	_ struct{ Mass, Heat, Silica, Gas steam.Range }                                                           = pipe.Cover{}
	_ struct{ Element, Scale int }                                                                            = pipe.Fall{}
	_ struct{ Element, Outlet int }                                                                           = pipe.Port{}
	_ struct {
		Out   [][]steam.Stream
		Lost  []pipe.Lost
		State []int
	} = pipe.Tick{}
	_ struct {
		Kind                        uint8
		From                        []pipe.Port
		Level, Amount, Wide, Narrow int
		Weights                     []int
	} = pipe.Element{}
)

// farNumbers are numbers whose products, sums and differences overflow.
var farNumbers = []int{math.MinInt, math.MinInt + 1, -1 << 62, -1 << 42, 1 << 42, 1 << 62, math.MaxInt - 1, math.MaxInt}

// chapterTable is the table of the examples of chapter 1.
func chapterTable() steam.Table {
	return steam.Table{
		{T: 100, P: 101, Liquid: 419, Vapour: 2676, Silica: 150},
		{T: 150, P: 476, Liquid: 632, Vapour: 2746, Silica: 300},
		{T: 200, P: 1555, Liquid: 852, Vapour: 2793, Silica: 600},
	}
}

// chapterNet is the net of the chapter's examples.
func chapterNet() pipe.Net {
	return pipe.Net{Table: chapterTable(), Elements: []pipe.Element{
		{Kind: pipe.Well, Level: 2, Wide: 1000, Narrow: 1000000},
		{Kind: pipe.Line, From: []pipe.Port{{}}, Level: 2, Amount: 2000, Wide: 1000, Narrow: 1000000},
		{Kind: pipe.Separator, From: []pipe.Port{{Element: 1}}, Amount: 100, Wide: 1000, Narrow: 1000000},
	}}
}

// chapterCase is the case of the chapter's examples.
func chapterCase() []steam.Stream {
	return []steam.Stream{{Mass: 1000, Heat: 852000, Silica: 250000, Gas: 50}}
}

// net gives a net with the table of the chapter; elements without a Narrow are so wide that they are never full.
func net(l ...pipe.Element) pipe.Net {
	for i := range l {
		if l[i].Narrow == 0 {
			l[i].Wide, l[i].Narrow = api.MaxMass, api.MaxNarrow
		}
	}
	return pipe.Net{Table: chapterTable(), Elements: l}
}

func well(level int) pipe.Element { return pipe.Element{Kind: pipe.Well, Level: level} }

func join(level int, from ...pipe.Port) pipe.Element {
	return pipe.Element{Kind: pipe.Join, Level: level, From: from}
}

func line(level, amount, element, outlet int) pipe.Element {
	return pipe.Element{Kind: pipe.Line, Level: level, Amount: amount, From: ports(element, outlet)}
}

func separator(level, amount, element, outlet int) pipe.Element {
	return pipe.Element{Kind: pipe.Separator, Level: level, Amount: amount, From: ports(element, outlet)}
}

func split(level, element, outlet int, weights ...int) pipe.Element {
	return pipe.Element{Kind: pipe.Split, Level: level, From: ports(element, outlet), Weights: weights}
}

func valve(level, element, outlet int) pipe.Element {
	return pipe.Element{Kind: pipe.Valve, Level: level, From: ports(element, outlet)}
}

// sized gives the element with another Wide and Narrow.
func sized(x pipe.Element, wide, narrow int) pipe.Element {
	x.Wide, x.Narrow = wide, narrow
	return x
}

// ports gives the ports with these elements and outlets.
func ports(numbers ...int) []pipe.Port {
	var l []pipe.Port
	for pair := range slices.Chunk(numbers, 2) {
		l = append(l, pipe.Port{Element: pair[0], Outlet: pair[1]})
	}
	return l
}

func stream(mass, heat, silica, gas int) steam.Stream {
	return steam.Stream{Mass: mass, Heat: heat, Silica: silica, Gas: gas}
}

// kinds gives how many elements of a kind the net has.
func kinds(n pipe.Net, kind uint8) int {
	count := 0
	for _, x := range n.Elements {
		if x.Kind == kind {
			count++
		}
	}
	return count
}

// zeros gives the state in which nothing has settled.
func zeros(n pipe.Net) []int { return make([]int, len(n.Elements)) }

// clone gives a net that shares nothing with the other one.
func clone(n pipe.Net) pipe.Net {
	m := pipe.Net{Table: slices.Clone(n.Table), Elements: slices.Clone(n.Elements)}
	for i, x := range m.Elements {
		m.Elements[i].From, m.Elements[i].Weights = slices.Clone(x.From), slices.Clone(x.Weights)
	}
	return m
}

func sameElement(a, b pipe.Element) bool {
	return a.Kind == b.Kind && slices.Equal(a.From, b.From) && a.Level == b.Level && a.Amount == b.Amount &&
		a.Wide == b.Wide && a.Narrow == b.Narrow && slices.Equal(a.Weights, b.Weights)
}

func sameNet(a, b pipe.Net) bool {
	return slices.Equal(a.Table, b.Table) && slices.EqualFunc(a.Elements, b.Elements, sameElement)
}

func sameOut(a, b [][]steam.Stream) bool {
	return slices.EqualFunc(a, b, func(x, y []steam.Stream) bool { return slices.Equal(x, y) })
}

func sameTick(a, b pipe.Tick) bool {
	return sameOut(a.Out, b.Out) && slices.Equal(a.Lost, b.Lost) && slices.Equal(a.State, b.State)
}

// isNothing gives whether all lists of the tick are empty.
func isNothing(x pipe.Tick) bool { return len(x.Out) == 0 && len(x.Lost) == 0 && len(x.State) == 0 }

// into adds the numbers of the streams to the first one.
func into(sum *steam.Stream, l ...steam.Stream) {
	for _, s := range l {
		*sum = stream(sum.Mass+s.Mass, sum.Heat+s.Heat, sum.Silica+s.Silica, sum.Gas+s.Gas)
	}
}

// outlets gives how many outlets the element has.
func outlets(x pipe.Element) int {
	switch x.Kind {
	case pipe.Separator:
		return 2
	case pipe.Split:
		return len(x.Weights)
	}
	return 1
}

// trueEnds gives the ports that no element takes from.
func trueEnds(n pipe.Net) []pipe.Port {
	var l []pipe.Port
	for i, x := range n.Elements {
		for j := range outlets(x) {
			p := pipe.Port{Element: i, Outlet: j}
			if !slices.ContainsFunc(n.Elements, func(y pipe.Element) bool { return slices.Contains(y.From, p) }) {
				l = append(l, p)
			}
		}
	}
	return l
}

// trueWidth gives the width of an element as the chapter says it.
func trueWidth(x pipe.Element, deposit int) int {
	if deposit/x.Narrow > x.Wide {
		return 0
	}
	return x.Wide - deposit/x.Narrow
}

// trueElement gives what goes out of an element, what is lost, and the steam of its flash.
func trueElement(table steam.Table, x pipe.Element, in steam.Stream) ([]steam.Stream, pipe.Lost, int) {
	switch x.Kind {
	case pipe.Line:
		if in.Heat < x.Amount {
			return []steam.Stream{stream(in.Mass, 0, in.Silica, in.Gas)}, pipe.Lost{Heat: in.Heat}, 0
		}
		return []steam.Stream{stream(in.Mass, in.Heat-x.Amount, in.Silica, in.Gas)}, pipe.Lost{Heat: x.Amount}, 0
	case pipe.Separator:
		p, _ := steam.Flash(table, x.Level, in)
		if x.Amount == 0 {
			return []steam.Stream{p.Steam, p.Water}, pipe.Lost{Scale: p.Scale}, p.Steam.Mass
		}
		l, loss, _ := steam.Share(p.Water, []int{1000 - x.Amount, x.Amount})
		made := p.Steam.Mass
		into(&p.Steam, l[1])
		return []steam.Stream{p.Steam, l[0]}, pipe.Lost{Heat: loss.Heat, Silica: loss.Silica, Gas: loss.Gas, Scale: p.Scale}, made
	case pipe.Split:
		l, loss, _ := steam.Share(in, x.Weights)
		return l, pipe.Lost{Heat: loss.Heat, Silica: loss.Silica, Gas: loss.Gas}, 0
	}
	return []steam.Stream{in}, pipe.Lost{}, 0
}

// trueTick gives what a tick does as the chapter says it, the steam of all its flashes, and the element that is full, or -1.
func trueTick(n pipe.Net, state []int, wells []steam.Stream) (x pipe.Tick, made, full int) {
	for i, element := range n.Elements {
		var in steam.Stream
		if element.Kind == pipe.Well {
			in, wells = wells[0], wells[1:]
		}
		for _, p := range element.From {
			into(&in, x.Out[p.Element][p.Outlet])
		}
		if in.Mass > trueWidth(element, state[i]) {
			return pipe.Tick{}, 0, i
		}
		out, lost, steam := trueElement(n.Table, element, in)
		x.Out, x.Lost, x.State = append(x.Out, out), append(x.Lost, lost), append(x.State, state[i]+lost.Scale)
		made += steam
	}
	return x, made, -1
}

// trueFalls gives where something falls out in the tick.
func trueFalls(x pipe.Tick) []pipe.Fall {
	var l []pipe.Fall
	for i, lost := range x.Lost {
		if lost.Scale != 0 {
			l = append(l, pipe.Fall{Element: i, Scale: lost.Scale})
		}
	}
	return l
}

// do gives a tick whose lists are as long as the net says.
func do(t *testing.T, n pipe.Net, state []int, wells ...steam.Stream) pipe.Tick {
	t.Helper()
	x, full, e := pipe.Do(n, state, wells)
	if e != api.OK || full != 0 || len(x.Out) != len(n.Elements) || len(x.Lost) != len(n.Elements) || len(x.State) != len(n.Elements) {
		t.Fatalf("Do(%v, %v, %v): %v, %d, %v", n, state, wells, x, full, e)
	}
	for i := range x.Out {
		if len(x.Out[i]) != outlets(n.Elements[i]) {
			t.Fatalf("Do(%v, %v, %v): %v", n, state, wells, x)
		}
	}
	return x
}

func ends(t *testing.T, n pipe.Net) []pipe.Port {
	t.Helper()
	l, e := pipe.Ends(n)
	if e != api.OK {
		t.Fatalf("Ends(%v): %v, %v", n, l, e)
	}
	return l
}

func set(t *testing.T, n pipe.Net, levels ...int) pipe.Net {
	t.Helper()
	m, e := pipe.Set(n, levels)
	if e != api.OK || len(m.Elements) != len(n.Elements) {
		t.Fatalf("Set(%v, %v): %v, %v", n, levels, m, e)
	}
	return m
}
