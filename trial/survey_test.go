package trial_test

import (
	"math"
	"slices"
	"testing"

	"fumarole/api"
	"fumarole/trial"
)

// chain gives a survey whose sure observations join the wells one after the other.
func chain(wells ...int) trial.Survey {
	s := trial.Survey{Wells: api.MaxWells}
	for i := 1; i < len(wells); i++ {
		s.Seen = append(s.Seen, seen(wells[i-1], wells[i], 0, 1))
	}
	return s
}

// TestGroups: P4.5, what is sure, and ways over other wells.
func TestGroups(t *testing.T) {
	for what, c := range map[string]struct {
		s    trial.Survey
		want []int
	}{
		"nothing seen":             {trial.Survey{Wells: 4}, []int{0, 1, 2, 3}},
		"one well":                 {trial.Survey{Wells: 1}, []int{0}},
		"the level is reached":     {trial.Survey{Wells: 2, Level: 7, Seen: []trial.Seen{seen(0, 1, 7, 7)}}, []int{0, 0}},
		"just below the level":     {trial.Survey{Wells: 2, Level: 7, Seen: []trial.Seen{seen(0, 1, 6, 6)}}, []int{0, 1}},
		"around the level":         {trial.Survey{Wells: 2, Level: 7, Seen: []trial.Seen{seen(0, 1, 6, 7)}}, []int{0, 1}},
		"from the greater one":     {trial.Survey{Wells: 3, Seen: []trial.Seen{seen(2, 1, 0, 0)}}, []int{0, 1, 1}},
		"rising":                   {chain(0, 1, 2, 3, 4, 5, 6, 7, 8, 9), make([]int, 10)},
		"falling":                  {chain(9, 8, 7, 6, 5, 4, 3, 2, 1, 0), make([]int, 10)},
		"to and fro":               {chain(5, 9, 1, 8, 2, 7, 3), []int{0, 1, 1, 1, 4, 1, 6, 1, 1, 1}},
		"in the middle":            {chain(6, 4, 5), []int{0, 1, 2, 3, 4, 4, 4, 7, 8, 9}},
		"two that meet at the end": {trial.Survey{Wells: 6, Seen: []trial.Seen{seen(5, 4, 0, 0), seen(3, 2, 0, 0), seen(1, 0, 0, 0), seen(5, 3, 0, 0), seen(4, 1, 0, 0)}}, make([]int, 6)},
		"with a clash":             {chapterSurvey(seen(2, 0, 5, 5)), []int{0, 0, 0, 3}},
		"against":                  {trial.Survey{Wells: 3, Seen: []trial.Seen{seen(0, 1, -5, -1), seen(1, 2, -5, -1)}}, []int{0, 1, 2}},
	} {
		if l := groups(t, c.s); !slices.Equal(l, c.want) {
			t.Errorf("%s: %v", what, l)
		}
	}
}

// TestClash: P4.6, which observation, and which way.
func TestClash(t *testing.T) {
	with := func(s trial.Survey, more ...trial.Seen) trial.Survey {
		s.Seen = slices.Concat(s.Seen, more)
		return s
	}
	for what, c := range map[string]struct {
		s     trial.Survey
		index int
		way   []int
	}{
		"of one pair":           {trial.Survey{Wells: 2, Seen: []trial.Seen{seen(0, 1, 0, 0), seen(0, 1, -1, -1)}}, 1, []int{0, 1}},
		"exchanged":             {trial.Survey{Wells: 2, Seen: []trial.Seen{seen(0, 1, 0, 0), seen(1, 0, -1, -1)}}, 1, []int{1, 0}},
		"before it is sure":     {trial.Survey{Wells: 2, Seen: []trial.Seen{seen(1, 0, -1, -1), seen(1, 0, 0, 0)}}, 0, []int{1, 0}},
		"the first one of two":  {with(chain(0, 1, 2), seen(0, 2, -1, -1), seen(0, 1, -1, -1)), 2, []int{0, 1, 2}},
		"behind one without":    {with(chain(0, 1, 2), seen(0, 3, -1, -1), seen(2, 0, -1, -1)), 3, []int{2, 1, 0}},
		"a long way":            {with(chain(0, 1, 2, 3, 4, 5, 6, 7, 8, 9), seen(9, 0, -1, -1)), 9, []int{9, 8, 7, 6, 5, 4, 3, 2, 1, 0}},
		"the shorter way":       {with(chain(0, 1, 2, 3, 4, 9, 0), seen(0, 4, -1, -1)), 6, []int{0, 9, 4}},
		"the lesser numbers":    {with(chain(0, 5, 9, 3, 0), seen(0, 9, -1, -1)), 4, []int{0, 3, 9}},
		"less at the start":     {with(chain(1, 2, 8, 9, 3, 4, 1), seen(1, 9, -1, -1)), 6, []int{1, 2, 8, 9}},
		"a round way":           {with(chain(0, 2, 9, 4, 0), seen(9, 0, -1, -1)), 4, []int{9, 2, 0}},
		"only sure ones lead":   {with(chain(0, 1, 2, 3), seen(0, 3, -1, 0), seen(0, 3, -2, -1)), 4, []int{0, 1, 2, 3}},
		"against ones lead not": {with(chain(0, 1, 2, 3), seen(0, 3, -2, -1)), 3, []int{0, 1, 2, 3}},
	} {
		if i, way, e := trial.Clash(c.s); i != c.index || !slices.Equal(way, c.way) || e != api.OK {
			t.Errorf("%s: %d, %v, %v", what, i, way, e)
		}
	}
	for what, s := range map[string]trial.Survey{
		"nothing seen": {Wells: 3}, "none": chapterSurvey(), "around the level": with(chain(0, 1), seen(0, 1, -1, 0)),
		"of two groups": with(chain(0, 1, 2), seen(0, 3, -1, -1)),
	} {
		if i, way, e := trial.Clash(s); i != 0 || len(way) > 0 || e != api.ErrNone {
			t.Errorf("%s: %d, %v, %v", what, i, way, e)
		}
	}
}

// linked gives whether a sure observation stands between the wells.
func linked(s trial.Survey, a, b int) bool {
	return slices.ContainsFunc(s.Seen, func(x trial.Seen) bool {
		return x.In.Lo >= s.Level && (x.From == a && x.To == b || x.From == b && x.To == a)
	})
}

// firstWay gives the first one of the shortest ways over sure observations: all ways of a length are tried in their order.
func firstWay(s trial.Survey, from, to int) []int {
	var found []int
	var walk func(way []int, more int) bool
	walk = func(way []int, more int) bool {
		last := way[len(way)-1]
		if more == 0 {
			found = slices.Clone(way)
			return last == to
		}
		for next := range s.Wells {
			if linked(s, last, next) && !slices.Contains(way, next) && walk(append(way, next), more-1) {
				return true
			}
		}
		return false
	}
	for more := range s.Wells {
		if walk([]int{from}, more) {
			return found
		}
	}
	return nil
}

// joined gives the number of the group of each well: what can be walked to from the least one.
func joined(s trial.Survey) []int {
	l := slices.Repeat([]int{-1}, s.Wells)
	var walk func(well, number int)
	walk = func(well, number int) {
		l[well] = number
		for next := range l {
			if l[next] == -1 && linked(s, well, next) {
				walk(next, number)
			}
		}
	}
	for well := range l {
		if l[well] == -1 {
			walk(well, well)
		}
	}
	return l
}

// TestGroupsAndClash: P4.5, P4.6 and P4.13, of any surveys.
func TestGroupsAndClash(t *testing.T) {
	d := &dice{state: 46}
	met := map[string]int{}
	for range 6000 {
		s := d.survey([]int{6, 10}[d.roll(0, 1)])
		numbers, clash := joined(s), -1
		for i, x := range s.Seen {
			if clash == -1 && x.In.Hi < s.Level && numbers[x.From] == numbers[x.To] {
				clash = i
			}
		}
		if l := groups(t, s); !slices.Equal(l, numbers) || trial.Fits(s, l) != (clash == -1) {
			t.Errorf("Groups(%v): %v", s, l)
		}
		i, way, e := trial.Clash(s)
		if clash == -1 {
			met["none"]++
			if i != 0 || len(way) > 0 || e != api.ErrNone {
				t.Errorf("Clash(%v): %d, %v, %v", s, i, way, e)
			}
			continue
		}
		if !slices.Equal(way, firstWay(s, s.Seen[clash].From, s.Seen[clash].To)) || i != clash || e != api.OK {
			t.Errorf("Clash(%v): %d, %v, %v", s, i, way, e)
		}
		if len(way) > 2 {
			met["over others"]++
		}
		if s.Wells <= 6 && len(fitting(s)) > 0 {
			t.Errorf("Clash(%v): %d, though a division fits", s, i)
		}
	}
	if met["none"] < 300 || met["over others"] < 300 {
		t.Errorf("too few of a kind: %v", met)
	}
}

// TestFits: P4.9, numbers of parts and their count.
func TestFits(t *testing.T) {
	for _, c := range []struct {
		parts []int
		want  bool
	}{
		{[]int{0, 0, 1, 1}, true}, {[]int{0, 0, 1, 0}, true}, {[]int{0, 0, 1, 2}, true},
		{[]int{7, 7, -3, 7}, true}, {[]int{math.MaxInt, math.MaxInt, math.MinInt, -1}, true},
		{[]int{0, 0, 0, 0}, false}, {[]int{0, 0, 0, 1}, false}, {[]int{0, 1, 2, 3}, false}, {[]int{0, 1, 0, 0}, false},
		{nil, false}, {[]int{0, 0, 1}, false}, {[]int{0, 0, 1, 1, 1}, false},
	} {
		if trial.Fits(chapterSurvey(), c.parts) != c.want {
			t.Errorf("Fits of %v: not %v", c.parts, c.want)
		}
	}
	d := &dice{state: 49}
	for range 1000 {
		s := d.survey(5)
		l := fitting(s)
		for _, parts := range divisions(s.Wells) {
			want := slices.ContainsFunc(l, func(other []int) bool { return slices.Equal(parts, other) })
			other := make([]int, len(parts))
			for i, n := range parts {
				other[i] = 40 - 9*n
			}
			if trial.Fits(s, parts) != want || trial.Fits(s, other) != want {
				t.Errorf("Fits(%v, %v): not %v", s, parts, want)
			}
		}
	}
}

// TestPulse: P4.9, each well, with numbers of any kind.
func TestPulse(t *testing.T) {
	s := trial.Survey{Wells: 3, Level: -2, Seen: []trial.Seen{seen(2, 0, -9, 9)}}
	same, other := -2, -3
	for well, want := range [][]trial.Seen{
		{seen(0, 1, other, other), seen(0, 2, same, same)},
		{seen(1, 0, other, other), seen(1, 2, other, other)},
		{seen(2, 0, same, same), seen(2, 1, other, other)},
	} {
		for _, parts := range [][]int{{0, 1, 0}, {-5, 5, -5}, {math.MinInt, 0, math.MinInt}} {
			p := pulse(t, s, well, parts)
			if !sameSurvey(p, trial.Survey{Wells: 3, Level: -2, Seen: append([]trial.Seen{seen(2, 0, -9, 9)}, want...)}) {
				t.Errorf("Pulse of %d with %v: %v", well, parts, p)
			}
		}
	}
	for _, level := range []int{-api.MaxDrop, api.MaxDrop} {
		p := pulse(t, trial.Survey{Wells: 2, Level: level}, 1, []int{4, 4})
		if !sameSurvey(p, trial.Survey{Wells: 2, Level: level, Seen: []trial.Seen{seen(1, 0, level, level)}}) {
			t.Errorf("Pulse at the level %d: %v", level, p)
		}
	}
	p := pulse(t, trial.Survey{Wells: 2, Level: 1 - api.MaxDrop}, 1, []int{4, 5})
	if !sameSurvey(p, trial.Survey{Wells: 2, Level: 1 - api.MaxDrop, Seen: []trial.Seen{seen(1, 0, -api.MaxDrop, -api.MaxDrop)}}) {
		t.Errorf("Pulse at the least level but one: %v", p)
	}
	if p := pulse(t, trial.Survey{Wells: 1, Level: 6}, 0, []int{3}); !sameSurvey(p, trial.Survey{Wells: 1, Level: 6}) {
		t.Errorf("Pulse of the only well: %v", p)
	}
}

// TestPulsed: P4.15, the division goes on fitting, and what was known stays so.
func TestPulsed(t *testing.T) {
	d := &dice{state: 415}
	pulses := 0
	for range 600 {
		s := d.survey(5)
		for _, parts := range fitting(s) {
			well := d.roll(0, s.Wells-1)
			p := pulse(t, s, well, parts)
			pulses++
			if !trial.Fits(p, parts) || !slices.Equal(p.Seen[:len(s.Seen)], s.Seen) {
				t.Errorf("Pulse(%v, %d, %v): %v", s, well, parts, p)
			}
			before, now := relations(t, s), relations(t, p)
			for a, row := range before {
				for b, relation := range row {
					if relation != trial.Maybe && now[a][b] != relation || a == well && now[a][b] == trial.Maybe {
						t.Errorf("Pulse(%v, %d, %v): %d and %d were %d, and are %d", s, well, parts, a, b, relation, now[a][b])
					}
				}
			}
		}
	}
	if pulses < 1000 {
		t.Errorf("too few pulses: %d", pulses)
	}
}
