package field

import "fumarole/api"

// Quarrel returns the fewest measures that leave no model.
func Quarrel(f Field, models []Model, l []Measure) ([]int, api.Errno) {
	against, e := allAgainst(f, models, l)
	if e != api.OK {
		return nil, e
	}
	struck := make([]uint64, len(l)) // for each measure a bit for each model that it contradicts
	for model, measures := range against {
		for _, measure := range measures {
			struck[measure] |= 1 << model
		}
	}
	return fewest(struck), api.OK
}

// Excuse returns the model that the fewest measures contradict, and these.
func Excuse(f Field, models []Model, l []Measure) (model int, measures []int, e api.Errno) {
	against, e := allAgainst(f, models, l)
	if e != api.OK {
		return 0, nil, e
	}
	for i, m := range against {
		if len(m) < len(against[model]) {
			model = i
		}
	}
	return model, against[model], api.OK
}

// allAgainst returns for each model which measures contradict it, or ErrNone if a model is left.
func allAgainst(f Field, models []Model, l []Measure) ([][]int, api.Errno) {
	if e := checkParties(f, Party{models, l}); e != api.OK {
		return nil, e
	}
	var all [][]int
	for _, m := range models {
		against := f.against(m, l)
		if len(against) == 0 {
			return nil, api.ErrNone
		}
		all = append(all, against)
	}
	return all, api.OK
}

// fewest returns the first one of the smallest choices of sets that have together what all have.
func fewest(sets []uint64) []int {
	var all uint64
	for _, set := range sets {
		all |= set
	}
	var chosen []int
	var choose func(from, more int, have uint64) bool
	choose = func(from, more int, have uint64) bool {
		if more == 0 {
			return have == all
		}
		for i := from; i+more <= len(sets); i++ {
			chosen = append(chosen, i)
			if choose(i+1, more-1, have|sets[i]) {
				return true
			}
			chosen = chosen[:len(chosen)-1]
		}
		return false
	}
	for size := range len(sets) + 1 {
		if choose(0, size, 0) {
			break
		}
	}
	return chosen
}
