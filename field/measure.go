package field

import "fumarole/api"

// gauge is a measure of a field.
type gauge struct {
	Measure
	first int // where a model has the numbers of the measure's kind
}

// Sum returns the sum of a measure in a model.
func Sum(f Field, m Model, x Measure) (int, api.Errno) {
	if e := CheckField(f); e != api.OK {
		return 0, e
	}
	if e := f.checkModel(m); e != api.OK {
		return 0, e
	}
	if e := f.checkMeasure(x); e != api.OK {
		return 0, e
	}
	return f.gauge(x).sum(m), api.OK
}

// Misses returns the miss of each measure in a model.
func Misses(f Field, m Model, l []Measure) ([]int, api.Errno) {
	if e := CheckField(f); e != api.OK {
		return nil, e
	}
	if e := f.checkModel(m); e != api.OK {
		return nil, e
	}
	if e := f.checkMeasures(l); e != api.OK {
		return nil, e
	}
	return f.misses(m, l), api.OK
}

func (f Field) gauge(x Measure) gauge { return gauge{x, x.Kind * f.size()} }

func (g gauge) sum(m Model) int {
	sum := 0
	for i, block := range g.Blocks {
		sum += g.Weights[i] * m.Values[g.first+block]
	}
	return sum
}

func (g gauge) miss(m Model) int {
	sum := g.sum(m)
	switch {
	case sum > g.In.Hi:
		return sum - g.In.Hi
	case sum < g.In.Lo:
		return sum - g.In.Lo
	}
	return 0
}

func (f Field) misses(m Model, l []Measure) []int {
	var misses []int
	for _, x := range l {
		misses = append(misses, f.gauge(x).miss(m))
	}
	return misses
}

func isMiss(n int) bool { return n != 0 }
