package steam_test

import (
	"math"
	"slices"
	"testing"

	"fumarole/api"
	"fumarole/steam"
)

// The calls of the chapter, with their exact signatures.
var (
	_ func(steam.Table) api.Errno                                                           = steam.CheckTable
	_ func(steam.Stream) api.Errno                                                          = steam.CheckStream
	_ func([]steam.Stream) (steam.Stream, api.Errno)                                        = steam.Mix
	_ func(steam.Stream, []int) ([]steam.Stream, steam.Loss, api.Errno)                     = steam.Share
	_ func(steam.Stream, int) (steam.Stream, api.Errno)                                     = steam.Heated
	_ func(steam.Stream, steam.Stream, int) (steam.Stream, steam.Stream, api.Errno)         = steam.Exchange
	_ func(steam.Table, int) (int, api.Errno)                                               = steam.At
	_ func(steam.Table, int) (steam.Ratio, api.Errno)                                       = steam.Saturation
	_ func(steam.Table, int, steam.Stream) (steam.Parts, api.Errno)                         = steam.Flash
	_ func(steam.Table, []int, steam.Stream) ([]steam.Parts, api.Errno)                     = steam.Train
	_ func(steam.Table, []steam.Stream) (int, api.Errno)                                    = steam.Deepest
	_ func(steam.Table, int, int, steam.Range, steam.Range) (a, b steam.Range, e api.Errno) = steam.Bounds
)

// farNumbers are numbers whose products and sums overflow.
var farNumbers = []int{math.MinInt, math.MinInt + 1, -1 << 40, 1 << 40, math.MaxInt - 1, math.MaxInt}

// chapterTable is the table of the chapter's examples.
func chapterTable() steam.Table {
	return steam.Table{
		{T: 100, P: 101, Liquid: 419, Vapour: 2676, Silica: 150},
		{T: 150, P: 476, Liquid: 632, Vapour: 2746, Silica: 300},
		{T: 200, P: 1555, Liquid: 852, Vapour: 2793, Silica: 600},
	}
}

// chapterStream is the stream of the chapter's examples.
func chapterStream() steam.Stream {
	return steam.Stream{Mass: 1000, Heat: 852000, Silica: 250000, Gas: 50}
}

// longTable is a valid table with so many rows.
func longTable(rows int) steam.Table {
	var t steam.Table
	for i := range rows {
		t = append(t, steam.Row{T: 10 * i, P: 1 + 20*i, Liquid: 100 * i, Vapour: 3000 - i, Silica: 50 * i})
	}
	return t
}

// dice gives numbers that are the same in each run.
type dice struct{ state uint64 }

// roll gives a number from lo to hi.
func (d *dice) roll(lo, hi int) int {
	d.state = d.state*6364136223846793005 + 1442695040888963407
	return lo + int((d.state>>20)%uint64(hi-lo+1))
}

// rising gives so many numbers from lo to hi, each above the one before it.
func (d *dice) rising(n, lo, hi int) []int {
	var l []int
	for len(l) < n {
		if x := d.roll(lo, hi); !slices.Contains(l, x) {
			l = append(l, x)
		}
	}
	slices.Sort(l)
	return l
}

func (d *dice) table() steam.Table {
	n := d.roll(2, 8)
	if d.roll(0, 9) == 0 {
		n = api.MaxRows
	}
	temps, pressures, liquids := d.rising(n, 0, api.MaxTemp), d.rising(n, 1, api.MaxPressure), d.rising(n, 0, 1500)
	most := 2000
	if d.roll(0, 1) == 0 { // the ranges of liquid and steam of the rows may lie apart, or overlap
		most = api.MaxEnthalpy
	}
	var t steam.Table
	silica := 0
	for i := range n {
		silica += d.roll(0, api.MaxSilica/n)
		t = append(t, steam.Row{T: temps[i], P: pressures[i], Liquid: liquids[i], Vapour: d.roll(liquids[i]+1, most), Silica: silica})
	}
	return t
}

// stream gives a valid stream of at most so many kilograms; often one at an edge.
func (d *dice) stream(mass int) steam.Stream {
	m := d.roll(0, mass)
	s := steam.Stream{Mass: m, Heat: d.roll(0, api.MaxEnthalpy*m), Silica: d.roll(0, api.MaxSilica*m), Gas: d.roll(0, api.MaxGas/api.MaxStreams)}
	switch d.roll(0, 9) {
	case 0:
		s.Heat = 0
	case 1:
		s.Heat = api.MaxEnthalpy * m
	case 2:
		s.Silica = api.MaxGrain * m
	}
	return s
}

// train gives a train of levels of the table.
func (d *dice) train(t steam.Table) []int {
	l := d.rising(d.roll(1, len(t)), 0, len(t)-1)
	slices.Reverse(l)
	return l
}

func (d *dice) weights() []int {
	l := make([]int, d.roll(1, api.MaxShares))
	for i := range l {
		l[i] = d.roll(0, 6)
		if d.roll(0, 3) == 0 {
			l[i] = d.roll(0, api.MaxShare)
		}
	}
	l[d.roll(0, len(l)-1)] = d.roll(1, api.MaxShare)
	return l
}

// add gives the sums of the numbers of the streams.
func add(l ...steam.Stream) steam.Stream {
	var s steam.Stream
	for _, x := range l {
		s.Mass += x.Mass
		s.Heat += x.Heat
		s.Silica += x.Silica
		s.Gas += x.Gas
	}
	return s
}

func flash(t *testing.T, table steam.Table, level int, s steam.Stream) steam.Parts {
	t.Helper()
	p, e := steam.Flash(table, level, s)
	if e != api.OK {
		t.Fatalf("Flash(%v, %d, %v): %v", table, level, s, e)
	}
	return p
}

func train(t *testing.T, table steam.Table, levels []int, s steam.Stream) []steam.Parts {
	t.Helper()
	l, e := steam.Train(table, levels, s)
	if e != api.OK || len(l) != len(levels) {
		t.Fatalf("Train(%v, %v, %v): %v, %v", table, levels, s, l, e)
	}
	return l
}
