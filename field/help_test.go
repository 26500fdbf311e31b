package field_test

import (
	"math"
	"slices"
	"strconv"
	"testing"

	"fumarole/api"
	"fumarole/field"
)

// The calls of the chapter, with their exact signatures.
var (
	_ func(field.Field) api.Errno                                                                    = field.CheckField
	_ func(field.Field, []field.Model) api.Errno                                                     = field.CheckModels
	_ func(field.Field, []field.Measure) api.Errno                                                   = field.CheckMeasures
	_ func(field.Field, int, int, int) (int, api.Errno)                                              = field.Number
	_ func(field.Field, int) (x, y, z int, e api.Errno)                                              = field.Place
	_ func(field.Field, string, int, int, int, []int, int) ([]field.Measure, api.Errno)              = field.Column
	_ func(field.Field, string, int, int, int, field.Range) (field.Measure, api.Errno)               = field.Station
	_ func(field.Field, string, int, int, int, int, field.Range) (field.Measure, api.Errno)          = field.Sounding
	_ func(field.Field, field.Model, field.Measure) (int, api.Errno)                                 = field.Sum
	_ func(field.Field, field.Model, []field.Measure) ([]int, api.Errno)                             = field.Misses
	_ func(field.Field, []field.Model, []field.Measure) ([]int, []field.Strike, api.Errno)           = field.Strikes
	_ func(field.Field, []field.Model) ([]field.Range, api.Errno)                                    = field.Spread
	_ func(field.Field, []field.Model, field.Measure) (field.Range, api.Errno)                       = field.Enclose
	_ func(field.Field, []field.Model, field.Probe) (worst, reading int, e api.Errno)                = field.Worst
	_ func(field.Field, []field.Model, []field.Probe) (best, worst int, readings []int, e api.Errno) = field.Best
	_ func(field.Field, []field.Model, []field.Probe, int, int, []int) bool                          = field.ProveBest
	_ func(field.Field, []field.Model, []field.Measure) ([]int, api.Errno)                           = field.Quarrel
	_ func(field.Field, []field.Model, []field.Measure) (model int, measures []int, e api.Errno)     = field.Excuse
	_ func(field.Field, field.Party, field.Party) ([][2]int, api.Errno)                              = field.Common
	_ func(field.Field, []field.Model) (string, api.Errno)                                           = field.Write
	_ func(text string) (f field.Field, models []field.Model, line int, e api.Errno)                 = field.Read
)

// farNumbers are numbers whose products, sums and differences overflow.
var farNumbers = []int{math.MinInt, math.MinInt + 1, -1 << 62, -1 << 34, 1 << 34, 1 << 62, math.MaxInt - 1, math.MaxInt}

// chapterField is the field of the chapter's examples.
func chapterField() field.Field { return field.Field{X: 2, Y: 1, Z: 2, Kinds: 1} }

// chapterModels are the models of the chapter's examples.
func chapterModels() []field.Model {
	return []field.Model{model("a", 10, 20, 30, 40), model("b", 10, 20, 30, 50), model("c", 15, 20, 30, 40)}
}

func model(name string, values ...int) field.Model { return field.Model{Name: name, Values: values} }

// single is the measure of one block, of the kind 0.
func single(name string, block, lo, hi int) field.Measure {
	return field.Measure{Name: name, Blocks: []int{block}, Weights: []int{1}, In: field.Range{Lo: lo, Hi: hi}}
}

// names gives so many different names.
func names(n int) []string {
	var l []string
	for i := range n {
		l = append(l, "n"+strconv.Itoa(i))
	}
	return l
}

// manyModels gives so many valid models of a field with one block and one kind.
func manyModels(n int) []field.Model {
	var l []field.Model
	for i, name := range names(n) {
		l = append(l, model(name, i))
	}
	return l
}

// manyMeasures gives so many valid measures of the block 0.
func manyMeasures(n int) []field.Measure {
	var l []field.Measure
	for i, name := range names(n) {
		l = append(l, single(name, 0, -i, i))
	}
	return l
}

func copyModels(l []field.Model) []field.Model {
	l = slices.Clone(l)
	for i := range l {
		l[i].Values = slices.Clone(l[i].Values)
	}
	return l
}

func copyMeasures(l []field.Measure) []field.Measure {
	l = slices.Clone(l)
	for i := range l {
		l[i].Blocks, l[i].Weights = slices.Clone(l[i].Blocks), slices.Clone(l[i].Weights)
	}
	return l
}

func copyProbes(l []field.Probe) []field.Probe {
	l = slices.Clone(l)
	for i := range l {
		l[i].Blocks, l[i].Weights = slices.Clone(l[i].Blocks), slices.Clone(l[i].Weights)
	}
	return l
}

func sameModels(a, b []field.Model) bool {
	return slices.EqualFunc(a, b, func(x, y field.Model) bool {
		return x.Name == y.Name && slices.Equal(x.Values, y.Values)
	})
}

func sameMeasures(a, b []field.Measure) bool {
	return slices.EqualFunc(a, b, func(x, y field.Measure) bool {
		return x.Name == y.Name && x.Kind == y.Kind && slices.Equal(x.Blocks, y.Blocks) && slices.Equal(x.Weights, y.Weights) && x.In == y.In
	})
}

func sameProbes(a, b []field.Probe) bool {
	return slices.EqualFunc(a, b, func(x, y field.Probe) bool {
		return x.Kind == y.Kind && slices.Equal(x.Blocks, y.Blocks) && slices.Equal(x.Weights, y.Weights) && x.Error == y.Error
	})
}

func noMeasure(m field.Measure) bool {
	return sameMeasures([]field.Measure{m}, []field.Measure{{}})
}

// dice gives numbers that are the same in each run.
type dice struct{ state uint64 }

// roll gives a number from lo to hi.
func (d *dice) roll(lo, hi int) int {
	d.state = d.state*6364136223846793005 + 1442695040888963407
	return lo + int((d.state>>20)%uint64(hi-lo+1))
}

// field gives a valid field with at most so many blocks.
func (d *dice) field(blocks int) field.Field {
	for {
		f := field.Field{X: d.roll(1, 8), Y: d.roll(1, 8), Z: d.roll(1, 8), Kinds: d.roll(1, 4)}
		if f.X*f.Y*f.Z <= blocks {
			return f
		}
	}
}

// models gives so many models; their numbers are from -most to most, and often those of an earlier model.
func (d *dice) models(f field.Field, n, most int) []field.Model {
	var l []field.Model
	for i, name := range names(n) {
		m := model(name)
		for range f.X * f.Y * f.Z * f.Kinds {
			m.Values = append(m.Values, d.roll(-most, most))
		}
		if i > 0 && d.roll(0, 3) == 0 {
			m.Values = slices.Clone(l[d.roll(0, i-1)].Values)
			m.Values[d.roll(0, len(m.Values)-1)] += d.roll(-1, 0)
		}
		l = append(l, m)
	}
	return l
}

// blocks gives some blocks of the field, rising, and a weight for each.
func (d *dice) blocks(f field.Field, most int) (blocks, weights []int) {
	for len(blocks) == 0 {
		for block := range f.X * f.Y * f.Z {
			if d.roll(0, 2) == 0 {
				blocks, weights = append(blocks, block), append(weights, d.roll(-most, most))
			}
		}
	}
	return blocks, weights
}

// measures gives so many measures; each one has the sum of some model in its range, or just beside it.
func (d *dice) measures(f field.Field, models []field.Model, n, width int) []field.Measure {
	var l []field.Measure
	for _, name := range names(n) {
		x := field.Measure{Name: name, Kind: d.roll(0, f.Kinds-1)}
		x.Blocks, x.Weights = d.blocks(f, 3)
		x.In.Lo = sumOf(f, models[d.roll(0, len(models)-1)], x.Kind, x.Blocks, x.Weights) - d.roll(-1, width)
		x.In.Hi = x.In.Lo + d.roll(0, width)
		l = append(l, x)
	}
	return l
}

func (d *dice) probes(f field.Field, n, off int) []field.Probe {
	var l []field.Probe
	for range n {
		p := field.Probe{Kind: d.roll(0, f.Kinds-1), Error: d.roll(0, off)}
		p.Blocks, p.Weights = d.blocks(f, 3)
		l = append(l, p)
	}
	return l
}

// shuffled gives the elements in another order.
func shuffled[T any](d *dice, l []T) []T {
	l = slices.Clone(l)
	for i := range l {
		j := d.roll(0, i)
		l[i], l[j] = l[j], l[i]
	}
	return l
}

// sumOf computes a sum as the chapter says.
func sumOf(f field.Field, m field.Model, kind int, blocks, weights []int) int {
	values := m.Values[kind*f.X*f.Y*f.Z:]
	sum := 0
	for i, block := range blocks {
		sum += weights[i] * values[block]
	}
	return sum
}

// missOf computes a miss as the chapter says.
func missOf(f field.Field, m field.Model, x field.Measure) int {
	sum := sumOf(f, m, x.Kind, x.Blocks, x.Weights)
	if sum > x.In.Hi {
		return sum - x.In.Hi
	}
	return min(0, sum-x.In.Lo)
}

// struckBy gives the indices of the measures that contradict the model.
func struckBy(f field.Field, m field.Model, l []field.Measure) []int {
	var by []int
	for i, x := range l {
		if missOf(f, m, x) != 0 {
			by = append(by, i)
		}
	}
	return by
}

func strikes(t *testing.T, f field.Field, models []field.Model, l []field.Measure) ([]int, []field.Strike) {
	t.Helper()
	left, strikes, e := field.Strikes(f, models, l)
	if e != api.OK {
		t.Fatalf("Strikes(%v, %v, %v): %v", f, models, l, e)
	}
	return left, strikes
}
