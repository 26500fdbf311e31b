package trial_test

import (
	"slices"
	"testing"

	"fumarole/api"
	"fumarole/trial"
)

// related gives the relation of two wells, as the divisions that agree say it.
func related(l [][]int, a, b int) uint8 {
	together := slices.ContainsFunc(l, func(parts []int) bool { return parts[a] == parts[b] })
	apart := slices.ContainsFunc(l, func(parts []int) bool { return parts[a] != parts[b] })
	switch {
	case together && apart:
		return trial.Maybe
	case together:
		return trial.Yes
	}
	return trial.No
}

// decides gives whether any two of the divisions are told apart by pulses of the wells.
func decides(l [][]int, wells []int) bool {
	for i, p := range l {
		for _, q := range l[:i] {
			told := false
			for _, well := range wells {
				for other := range p {
					told = told || (p[well] == p[other]) != (q[well] == q[other])
				}
			}
			if !told {
				return false
			}
		}
	}
	return true
}

// sets gives all sets of wells, the smaller ones first, and those of one size in their order.
func sets(wells int) [][]int {
	var all [][]int
	for bits := range 1 << wells {
		var set []int
		for well := range wells {
			if bits>>well&1 == 1 {
				set = append(set, well)
			}
		}
		all = append(all, set)
	}
	slices.SortFunc(all, func(a, b []int) int {
		if len(a) != len(b) {
			return len(a) - len(b)
		}
		return slices.Compare(a, b)
	})
	return all
}

// leastPlan gives the first one of the sets that decides.
func leastPlan(s trial.Survey) []int {
	l, all := fitting(s), sets(s.Wells)
	return all[slices.IndexFunc(all, func(set []int) bool { return decides(l, set) })]
}

// TestRelations: P4.7 and P4.13, as all divisions say it.
func TestRelations(t *testing.T) {
	d := &dice{state: 47}
	met := map[uint8]int{}
	for range 1500 {
		s := d.survey([]int{4, 6}[d.roll(0, 1)])
		l := fitting(s)
		if len(l) == 0 {
			if rows, e := trial.Relations(s); len(rows) > 0 || e != api.ErrFail {
				t.Errorf("Relations(%v): %v, %v", s, rows, e)
			}
			continue
		}
		for a, row := range relations(t, s) {
			for b, relation := range row {
				met[relation]++
				if relation != related(l, a, b) {
					t.Errorf("Relations(%v): %d and %d are %d", s, a, b, relation)
				}
			}
		}
	}
	if met[trial.No] < 1000 || met[trial.Maybe] < 1000 || met[trial.Yes] < 1000 {
		t.Errorf("too few of a kind: %v", met)
	}
}

// TestRelationsOverGroups: P4.7, an observation that is against stands between any wells of the two groups, either way.
func TestRelationsOverGroups(t *testing.T) {
	for _, x := range []trial.Seen{seen(0, 2, -3, -1), seen(2, 0, -3, -1), seen(0, 3, -1, -1), seen(3, 1, -1, -1), seen(1, 2, -9, -1)} {
		s := trial.Survey{Wells: 5, Seen: []trial.Seen{seen(0, 1, 0, 0), seen(3, 2, 0, 0), x}}
		yes, no, maybe := trial.Yes, trial.No, trial.Maybe
		if l := relations(t, s); !sameRows(l, [][]uint8{
			{yes, yes, no, no, maybe}, {yes, yes, no, no, maybe}, {no, no, yes, yes, maybe}, {no, no, yes, yes, maybe}, {maybe, maybe, maybe, maybe, yes},
		}) {
			t.Errorf("with %v: %v", x, l)
		}
	}
	if l := relations(t, trial.Survey{Wells: 1}); !sameRows(l, [][]uint8{{trial.Yes}}) {
		t.Errorf("of one well: %v", l)
	}
	around := trial.Survey{Wells: 2, Level: 5, Seen: []trial.Seen{seen(0, 1, 4, 5)}} // says nothing
	if l := relations(t, around); !sameRows(l, [][]uint8{{trial.Yes, trial.Maybe}, {trial.Maybe, trial.Yes}}) {
		t.Errorf("around the level: %v", l)
	}
}

// TestPlan: P4.8, which wells are chosen.
func TestPlan(t *testing.T) {
	against := func(pairs ...[2]int) []trial.Seen {
		var l []trial.Seen
		for _, p := range pairs {
			l = append(l, seen(p[0], p[1], -1, -1))
		}
		return l
	}
	for what, c := range map[string]struct {
		s    trial.Survey
		want []int
	}{
		"one well":                {trial.Survey{Wells: 1}, nil},
		"two wells":               {trial.Survey{Wells: 2}, []int{0}},
		"many wells":              {trial.Survey{Wells: api.MaxWells}, []int{0, 1, 2, 3, 4, 5, 6, 7, 8}},
		"all together":            {chain(0, 1, 2, 3, 4, 5, 6, 7, 8, 9), nil},
		"apart":                   {trial.Survey{Wells: 3, Seen: against([2]int{0, 1}, [2]int{1, 2}, [2]int{2, 0})}, nil},
		"one pair is left":        {trial.Survey{Wells: 3, Seen: against([2]int{0, 1}, [2]int{0, 2})}, []int{1}},
		"a star around the last":  {trial.Survey{Wells: 4, Seen: against([2]int{0, 1}, [2]int{0, 2}, [2]int{1, 2})}, []int{3}},
		"a star around the first": {trial.Survey{Wells: 4, Seen: against([2]int{1, 2}, [2]int{1, 3}, [2]int{2, 3})}, []int{0}},
		"two pairs":               {trial.Survey{Wells: 4, Seen: against([2]int{0, 1}, [2]int{0, 2}, [2]int{3, 1}, [2]int{3, 2})}, []int{0, 1}},
		"a way":                   {trial.Survey{Wells: 4, Seen: against([2]int{0, 2}, [2]int{0, 3}, [2]int{1, 3})}, []int{0, 2}},
		"groups":                  {trial.Survey{Wells: 6, Seen: []trial.Seen{seen(5, 4, 0, 0), seen(3, 2, 0, 0), seen(1, 0, 0, 0), seen(1, 2, -1, -1)}}, []int{4}},
		"two groups":              {chain(9, 8, 7, 6, 5, 4, 3, 2, 1), []int{0}},
	} {
		if l := plan(t, c.s); !slices.Equal(l, c.want) {
			t.Errorf("%s: %v", what, l)
		}
	}
}

// TestPlanHolds: P4.8 and P4.14, the first one of the smallest sets that tell all divisions apart.
func TestPlanHolds(t *testing.T) {
	d := &dice{state: 48}
	met := map[int]int{}
	for range 1200 {
		s := d.survey([]int{4, 5, 6}[d.roll(0, 2)])
		if len(fitting(s)) == 0 {
			if l, e := trial.Plan(s); len(l) > 0 || e != api.ErrFail {
				t.Errorf("Plan(%v): %v, %v", s, l, e)
			}
			continue
		}
		l := plan(t, s)
		met[len(l)]++
		if !slices.Equal(l, leastPlan(s)) {
			t.Errorf("Plan(%v): %v", s, l)
		}
	}
	for size := range 4 {
		if met[size] < 50 {
			t.Errorf("too few plans of %d wells: %v", size, met)
		}
	}
}

// TestPlanDecides: P4.14, after all pulses of a plan no relation is Maybe, whatever division is the true one.
func TestPlanDecides(t *testing.T) {
	d := &dice{state: 414}
	maybes := 0
	for range 300 {
		s := d.survey(5)
		for _, parts := range fitting(s) {
			after := s
			for _, well := range plan(t, s) {
				after = pulse(t, after, well, parts)
				maybes++
			}
			for _, row := range relations(t, after) {
				if slices.Contains(row, trial.Maybe) {
					t.Errorf("Plan(%v) with %v: %v", s, parts, row)
				}
			}
			if l := plan(t, after); len(l) > 0 {
				t.Errorf("Plan(%v): %v after all pulses", s, l)
			}
		}
	}
	if maybes < 500 {
		t.Errorf("too few pulses: %d", maybes)
	}
}
