package trial

import (
	"slices"

	"fumarole/api"
)

// relations has the relation of each well to each well.
type relations [][]uint8

// Relations returns the relation of each well to each well.
func Relations(s Survey) ([][]uint8, api.Errno) {
	q, e := ask(s)
	if e != api.OK {
		return nil, e
	}
	if slices.ContainsFunc(q.Seen, q.isClash) {
		return nil, api.ErrFail
	}
	all := make([][]uint8, q.Wells)
	for a := range all {
		for b := range all {
			all[a] = append(all[a], q.relation(a, b))
		}
	}
	return all, api.OK
}

// Plan returns the fewest wells whose pulses decide all relations.
func Plan(s Survey) ([]int, api.Errno) {
	all, e := Relations(s)
	if e != api.OK {
		return nil, e
	}
	var plan []int
	var choose func(from, more int) bool
	choose = func(from, more int) bool {
		if more == 0 {
			return relations(all).areDecidedBy(plan)
		}
		for well := from; well+more <= s.Wells; well++ {
			plan = append(plan, well)
			if choose(well+1, more-1) {
				return true
			}
			plan = plan[:len(plan)-1]
		}
		return false
	}
	for size := range s.Wells { // all wells but one decide all relations
		if choose(0, size) {
			break
		}
	}
	return plan, api.OK
}

// relation returns the relation of two wells in a survey without a clash.
func (q asked) relation(a, b int) uint8 {
	if q.together(a, b) {
		return Yes
	}
	parts := func(x Seen) bool {
		return q.isAgainst(x) &&
			(q.together(x.From, a) && q.together(x.To, b) || q.together(x.From, b) && q.together(x.To, a))
	}
	if slices.ContainsFunc(q.Seen, parts) {
		return No
	}
	return Maybe
}

// areDecidedBy returns whether of any two wells whose relation is Maybe one is in a group of which a well is pulsed.
func (r relations) areDecidedBy(plan []int) bool {
	pulsed := func(well int) bool {
		return slices.ContainsFunc(plan, func(n int) bool { return r[n][well] == Yes })
	}
	for a, row := range r {
		for b, relation := range row {
			if relation == Maybe && !pulsed(a) && !pulsed(b) {
				return false
			}
		}
	}
	return true
}
