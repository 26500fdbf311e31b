package field

import (
	"slices"

	"fumarole/api"
)

// CheckModels returns the first error of a list of models for the field.
func CheckModels(f Field, l []Model) api.Errno {
	if e := CheckField(f); e != api.OK {
		return e
	}
	return f.checkModels(l)
}

// CheckMeasures returns the first error of a list of measures for the field.
func CheckMeasures(f Field, l []Measure) api.Errno {
	if e := CheckField(f); e != api.OK {
		return e
	}
	return f.checkMeasures(l)
}

// checkParties returns the errors of the field, and then those of each party.
func checkParties(f Field, parties ...Party) api.Errno {
	if e := CheckField(f); e != api.OK {
		return e
	}
	for _, p := range parties {
		if e := f.checkModels(p.Models); e != api.OK {
			return e
		}
		if e := f.checkMeasures(p.Measures); e != api.OK {
			return e
		}
	}
	return api.OK
}

func (f Field) checkModels(l []Model) api.Errno {
	if !within(len(l), 1, api.MaxModels) {
		return api.ErrLimit
	}
	return checkNamed(l, func(m Model) string { return m.Name }, f.checkModel)
}

func (f Field) checkMeasures(l []Measure) api.Errno {
	if len(l) > api.MaxMeasures {
		return api.ErrLimit
	}
	return checkNamed(l, func(x Measure) string { return x.Name }, f.checkMeasure)
}

// checkNamed returns the first error of an element, or of its name, if an earlier one has it.
func checkNamed[T any](l []T, name func(T) string, check func(T) api.Errno) api.Errno {
	taken := map[string]bool{}
	for _, x := range l {
		if e := check(x); e != api.OK {
			return e
		}
		if taken[name(x)] {
			return api.ErrTwice
		}
		taken[name(x)] = true
	}
	return api.OK
}

func (f Field) checkModel(m Model) api.Errno {
	if !isName(m.Name) {
		return api.ErrName
	}
	if len(m.Values) != f.Kinds*f.size() || !areValues(m.Values) {
		return api.ErrArg
	}
	return api.OK
}

func (f Field) checkMeasure(x Measure) api.Errno {
	if !isName(x.Name) {
		return api.ErrName
	}
	if !f.isMeasure(x) {
		return api.ErrArg
	}
	return api.OK
}

func (f Field) checkProbes(l []Probe) api.Errno {
	if !within(len(l), 1, api.MaxProbes) {
		return api.ErrLimit
	}
	for _, p := range l {
		if !f.isProbe(p) {
			return api.ErrArg
		}
	}
	return api.OK
}

// isMeasure returns whether the measure is valid but for its name.
func (f Field) isMeasure(x Measure) bool {
	return f.isKind(x.Kind) &&
		f.areBlocks(x.Blocks) &&
		len(x.Weights) == len(x.Blocks) &&
		!slices.ContainsFunc(x.Weights, isNoWeight) &&
		x.In.valid()
}

func (f Field) isProbe(p Probe) bool {
	return f.isMeasure(p.measure()) && within(p.Error, 0, api.MaxSum)
}

// areBlocks returns whether the numbers are rising ones of blocks, and there are some.
func (f Field) areBlocks(l []int) bool {
	if len(l) == 0 {
		return false
	}
	last := -1
	for _, block := range l {
		if !within(block, last+1, f.size()-1) {
			return false
		}
		last = block
	}
	return true
}

func (r Range) valid() bool {
	return -api.MaxSum <= r.Lo && r.Lo <= r.Hi && r.Hi <= api.MaxSum
}

func areValues(l []int) bool { return !slices.ContainsFunc(l, isNoValue) }

func isNoValue(n int) bool { return !within(n, -api.MaxValue, api.MaxValue) }

func isNoWeight(n int) bool { return !within(n, -api.MaxPull, api.MaxPull) }
