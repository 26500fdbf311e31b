package field

import (
	"slices"

	"fumarole/api"
)

// Strikes returns which models are left, and for each other one the first measure that contradicts it.
func Strikes(f Field, models []Model, l []Measure) (left []int, strikes []Strike, e api.Errno) {
	if e := checkParties(f, Party{models, l}); e != api.OK {
		return nil, nil, e
	}
	for i, m := range models {
		misses := f.misses(m, l)
		first := slices.IndexFunc(misses, isMiss)
		if first < 0 {
			left = append(left, i)
		} else {
			strikes = append(strikes, Strike{Model: i, Measure: first, Miss: misses[first]})
		}
	}
	return left, strikes, api.OK
}

// Common returns the models of the first party that no measure contradicts and that the second party has too.
func Common(f Field, a, b Party) ([][2]int, api.Errno) {
	if e := checkParties(f, a, b); e != api.OK {
		return nil, e
	}
	measures := slices.Concat(a.Measures, b.Measures)
	var common [][2]int
	for i, m := range a.Models {
		same := slices.IndexFunc(b.Models, m.equals)
		if same >= 0 && len(f.against(m, measures)) == 0 {
			common = append(common, [2]int{i, same})
		}
	}
	return common, api.OK
}

// against returns which measures contradict the model.
func (f Field) against(m Model, l []Measure) []int {
	var against []int
	for i, n := range f.misses(m, l) {
		if isMiss(n) {
			against = append(against, i)
		}
	}
	return against
}

// equals returns whether the models have the same numbers, whatever their names are.
func (m Model) equals(other Model) bool { return slices.Equal(m.Values, other.Values) }
