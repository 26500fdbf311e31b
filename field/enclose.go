package field

import "fumarole/api"

// Spread returns for each number the range from the least to the greatest one that a model has.
func Spread(f Field, models []Model) ([]Range, api.Errno) {
	if e := CheckModels(f, models); e != api.OK {
		return nil, e
	}
	var spread []Range
	for i := range f.Kinds * f.size() {
		spread = append(spread, enclose(models, func(m Model) int { return m.Values[i] }))
	}
	return spread, api.OK
}

// Enclose returns the range from the least to the greatest sum that the measure has in a model.
func Enclose(f Field, models []Model, x Measure) (Range, api.Errno) {
	if e := CheckModels(f, models); e != api.OK {
		return Range{}, e
	}
	if e := f.checkMeasure(x); e != api.OK {
		return Range{}, e
	}
	return enclose(models, f.gauge(x).sum), api.OK
}

// enclose returns the range from the least to the greatest number of an element; there is one at least.
func enclose[T any](l []T, number func(T) int) Range {
	first := number(l[0])
	r := Range{first, first}
	for _, x := range l[1:] {
		n := number(x)
		r.Lo, r.Hi = min(r.Lo, n), max(r.Hi, n)
	}
	return r
}
