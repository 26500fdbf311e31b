package trial_test

import (
	"slices"
	"strconv"
	"testing"

	"fumarole/api"
	"fumarole/trial"
)

// pulsed is what Pulse is given besides a survey.
type pulsed struct {
	well  int
	parts []int
}

// surveyCalls are those that take a survey.
func surveyCalls() map[string]func(trial.Survey, pulsed) api.Errno {
	return map[string]func(trial.Survey, pulsed) api.Errno{
		"CheckSurvey": func(s trial.Survey, p pulsed) api.Errno { return trial.CheckSurvey(s) },
		"Groups": func(s trial.Survey, p pulsed) api.Errno {
			l, e := trial.Groups(s)
			return alone(e, len(l) == 0)
		},
		"Clash": func(s trial.Survey, p pulsed) api.Errno {
			i, way, e := trial.Clash(s)
			return alone(e, i == 0 && len(way) == 0)
		},
		"Relations": func(s trial.Survey, p pulsed) api.Errno {
			l, e := trial.Relations(s)
			return alone(e, len(l) == 0)
		},
		"Plan": func(s trial.Survey, p pulsed) api.Errno {
			l, e := trial.Plan(s)
			return alone(e, len(l) == 0)
		},
		"Pulse": func(s trial.Survey, p pulsed) api.Errno {
			r, e := trial.Pulse(s, p.well, p.parts)
			return alone(e, sameSurvey(r, trial.Survey{}))
		},
	}
}

// edgeSurveys are surveys that are just valid; all wells may be in one part.
func edgeSurveys() map[string]trial.Survey {
	return map[string]trial.Survey{
		"one well":            {Wells: 1},
		"many wells":          {Wells: api.MaxWells, Seen: []trial.Seen{seen(0, api.MaxWells-1, 0, 0), seen(api.MaxWells-1, 0, 0, 0)}},
		"the least level":     {Wells: 2, Level: -api.MaxDrop, Seen: []trial.Seen{seen(0, 1, -api.MaxDrop, -api.MaxDrop)}},
		"the greatest level":  {Wells: 2, Level: api.MaxDrop, Seen: []trial.Seen{seen(1, 0, api.MaxDrop, api.MaxDrop)}},
		"the widest answer":   {Wells: 2, Seen: []trial.Seen{seen(0, 1, -api.MaxDrop, api.MaxDrop)}},
		"some observations":   {Wells: 2, Seen: slices.Repeat([]trial.Seen{seen(0, 1, 0, 0)}, api.MaxSeen-1)},
		"a pair twice":        {Wells: 3, Seen: []trial.Seen{seen(0, 1, 0, 0), seen(0, 1, 3, 4), seen(1, 0, -1, 0)}},
		"nothing was watched": {Wells: 3, Level: -7},
	}
}

// badSurveys are surveys that are not valid, but for their number of observations.
func badSurveys() map[string]trial.Survey {
	all := map[string]trial.Survey{
		"nothing":                   {},
		"a well with itself":        {Wells: 3, Seen: []trial.Seen{seen(1, 1, 0, 0)}},
		"the only well with itself": {Wells: 1, Seen: []trial.Seen{seen(0, 0, 0, 0)}},
		"an answer of nothing":      {Wells: 3, Seen: []trial.Seen{seen(0, 1, 1, 0)}},
		"no second well":            {Wells: 1, Seen: []trial.Seen{seen(0, 1, 0, 0)}},
	}
	add := func(what string, n int, s trial.Survey) { all[what+" "+strconv.Itoa(n)] = s }
	for _, n := range append([]int{-1, 0, api.MaxWells + 1}, farNumbers...) {
		add("wells", n, trial.Survey{Wells: n})
	}
	for _, n := range append([]int{-api.MaxDrop - 1, api.MaxDrop + 1}, farNumbers...) {
		add("the level", n, trial.Survey{Wells: 3, Level: n})
		add("an answer from", n, trial.Survey{Wells: 3, Seen: []trial.Seen{seen(0, 1, n, 5)}})
		add("an answer to", n, trial.Survey{Wells: 3, Seen: []trial.Seen{seen(0, 1, -5, n)}})
		add("only an answer", n, trial.Survey{Wells: 3, Seen: []trial.Seen{seen(0, 1, n, n)}})
	}
	for _, n := range append([]int{-1, 3}, farNumbers...) {
		add("from", n, trial.Survey{Wells: 3, Seen: []trial.Seen{seen(n, 1, 0, 0)}})
		add("to", n, trial.Survey{Wells: 3, Seen: []trial.Seen{seen(1, n, 0, 0)}})
		add("from and to", n, trial.Survey{Wells: 3, Seen: []trial.Seen{seen(n, n, 0, 0)}})
	}
	add("many wells, from", api.MaxWells, trial.Survey{Wells: api.MaxWells, Seen: []trial.Seen{seen(api.MaxWells, 1, 0, 0)}})
	for name, s := range all {
		if len(s.Seen) == 1 && s.Wells == 3 { // the same observation behind good ones, and ahead of one
			good := seen(1, 2, 0, 0)
			last, first := s, s
			last.Seen, first.Seen = []trial.Seen{good, good, s.Seen[0]}, []trial.Seen{s.Seen[0], good}
			all[name+", the last one"], all[name+", the first one"] = last, first
		}
	}
	return all
}

// TestSurveyErrors: P4.5, a survey that is not valid is the first error of each call with it.
func TestSurveyErrors(t *testing.T) {
	for name, call := range surveyCalls() {
		for what, s := range edgeSurveys() {
			want := api.OK
			if name == "Clash" {
				want = api.ErrNone
			}
			if e := call(s, pulsed{0, make([]int, s.Wells)}); e != want {
				t.Errorf("%s, %s: %v", name, what, e)
			}
		}
		for what, s := range badSurveys() {
			long := s
			long.Seen = slices.Concat(s.Seen, slices.Repeat([]trial.Seen{seen(0, 1, 0, 0)}, api.MaxSeen+1-len(s.Seen)))
			for _, p := range []pulsed{{0, []int{0, 0, 0}}, {-1, nil}} {
				if e := call(s, p); e != api.ErrArg {
					t.Errorf("%s, %s: %v", name, what, e)
				}
				if e := call(long, p); e != api.ErrLimit {
					t.Errorf("%s, %s, and an observation too many: %v", name, what, e)
				}
			}
		}
		full := trial.Survey{Wells: 2, Seen: slices.Repeat([]trial.Seen{seen(0, 1, 0, 0)}, api.MaxSeen)}
		if e := call(full, pulsed{0, []int{0, 0}}); e == api.ErrArg || e == api.ErrLimit && name != "Pulse" {
			t.Errorf("%s, many observations: %v", name, e)
		}
		full.Seen = append(full.Seen, seen(0, 1, 0, 0))
		if e := call(full, pulsed{0, []int{0, 0}}); e != api.ErrLimit {
			t.Errorf("%s, an observation too many: %v", name, e)
		}
	}
	for what, s := range badSurveys() {
		for n := range 4 {
			if trial.Fits(s, make([]int, n)) {
				t.Errorf("Fits, %s", what)
			}
		}
	}
	if trial.Fits(trial.Survey{Wells: 2, Seen: slices.Repeat([]trial.Seen{seen(0, 1, 0, 0)}, api.MaxSeen+1)}, []int{0, 0}) {
		t.Error("Fits, an observation too many")
	}
}

// TestClashErrors: Clash needs a clash; Relations and Plan need none; the other calls do not mind.
func TestClashErrors(t *testing.T) {
	clash := chapterSurvey(seen(2, 0, 5, 5))
	for name, want := range map[string][2]api.Errno{
		"Groups": {api.OK, api.OK}, "CheckSurvey": {api.OK, api.OK}, "Clash": {api.ErrNone, api.OK},
		"Relations": {api.OK, api.ErrFail}, "Plan": {api.OK, api.ErrFail}, "Pulse": {api.OK, api.ErrFail},
	} {
		call := surveyCalls()[name]
		if e := call(chapterSurvey(), pulsed{3, []int{0, 0, 1, 1}}); e != want[0] {
			t.Errorf("%s: %v", name, e)
		}
		if e := call(clash, pulsed{3, []int{0, 0, 1, 1}}); e != want[1] {
			t.Errorf("%s with a clash: %v", name, e)
		}
	}
}

// TestPulseErrors: the errors of Pulse, in their order.
func TestPulseErrors(t *testing.T) {
	expect := func(s trial.Survey, well int, parts []int, want api.Errno) {
		t.Helper()
		if e := surveyCalls()["Pulse"](s, pulsed{well, parts}); e != want {
			t.Errorf("Pulse(%v, %d, %v): %v, not %v", s, well, parts, e, want)
		}
	}
	fits, fails := []int{0, 0, 1, 1}, []int{0, 1, 1, 1}
	full := chapterSurvey(slices.Repeat([]trial.Seen{seen(0, 1, 6, 9)}, api.MaxSeen-5)...) // room for two more, and a pulse makes three
	almost := chapterSurvey(slices.Repeat([]trial.Seen{seen(0, 1, 6, 9)}, api.MaxSeen-6)...)
	for _, s := range []trial.Survey{chapterSurvey(), full} {
		for _, n := range append([]int{-1, 4}, farNumbers...) {
			expect(s, n, fits, api.ErrRange)
			expect(s, n, fails, api.ErrRange)
			expect(s, n, nil, api.ErrRange)
		}
		for _, parts := range [][]int{nil, {}, {0, 0, 1}, {0, 1, 1}, {0, 0, 1, 1, 1}, {0, 1, 1, 1, 1}} {
			expect(s, 0, parts, api.ErrRange)
		}
		expect(s, 0, fails, api.ErrFail)
		expect(s, 3, []int{0, 0, 0, 0}, api.ErrFail)
	}
	expect(chapterSurvey(), 3, fits, api.OK)
	expect(almost, 3, fits, api.OK)
	expect(full, 3, fits, api.ErrLimit)

	least := trial.Survey{Wells: 3, Level: -api.MaxDrop}
	joined := trial.Survey{Wells: 3, Level: -api.MaxDrop, Seen: []trial.Seen{seen(0, 1, 0, 0)}}
	for well := range 3 {
		for _, parts := range divisions(3) {
			want := api.ErrRange // also where it would not fit
			if slices.Equal(parts, []int{0, 0, 0}) {
				want = api.OK
			}
			expect(least, well, parts, want)
			expect(joined, well, parts, want)
		}
	}
	least.Level++
	expect(least, 0, []int{0, 1, 2}, api.OK)
	expect(trial.Survey{Wells: 1, Level: -api.MaxDrop}, 0, []int{9}, api.OK)
	expect(trial.Survey{Wells: 1}, 0, []int{9}, api.OK)
}
