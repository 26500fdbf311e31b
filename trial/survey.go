package trial

import (
	"slices"

	"fumarole/api"
)

// groups has for each well the number of its group.
type groups [api.MaxWells]int

// asked is a valid survey with its groups.
type asked struct {
	Survey
	groups
}

// CheckSurvey returns the error of a survey.
func CheckSurvey(s Survey) api.Errno {
	if len(s.Seen) > api.MaxSeen {
		return api.ErrLimit
	}
	if !within(s.Wells, 1, api.MaxWells) || !within(s.Level, -api.MaxDrop, api.MaxDrop) || !every(s.Seen, s.hasSeen) {
		return api.ErrArg
	}
	return api.OK
}

// Groups returns the number of the group of each well.
func Groups(s Survey) ([]int, api.Errno) {
	q, e := ask(s)
	if e != api.OK {
		return nil, e
	}
	return slices.Clone(q.groups[:q.Wells]), api.OK
}

// Clash returns the first observation that is a clash, and what shows it: a way between its wells.
func Clash(s Survey) (seen int, way []int, e api.Errno) {
	q, e := ask(s)
	if e != api.OK {
		return 0, nil, e
	}
	seen = slices.IndexFunc(q.Seen, q.isClash)
	if seen < 0 {
		return 0, nil, api.ErrNone
	}
	return seen, q.way(q.Seen[seen].From, q.Seen[seen].To), api.OK
}

// Pulse returns the survey with what a pulse of the well shows if the division is the true one.
func Pulse(s Survey, well int, parts []int) (Survey, api.Errno) {
	if e := CheckSurvey(s); e != api.OK {
		return Survey{}, e
	}
	if !s.hasWell(well) || len(parts) != s.Wells {
		return Survey{}, api.ErrRange
	}
	same := func(part int) bool { return part == parts[well] }
	if s.Level == -api.MaxDrop && !every(parts, same) {
		return Survey{}, api.ErrRange // no answer is below the level
	}
	if !s.fits(parts) {
		return Survey{}, api.ErrFail
	}
	if len(s.Seen)+s.Wells-1 > api.MaxSeen {
		return Survey{}, api.ErrLimit
	}
	s.Seen = slices.Clone(s.Seen)
	for other, part := range parts {
		answer := s.Level
		if !same(part) {
			answer--
		}
		if other != well {
			s.Seen = append(s.Seen, Seen{well, other, Range{answer, answer}})
		}
	}
	return s, api.OK
}

// Fits returns whether the survey is valid, and the division agrees with it.
func Fits(s Survey, parts []int) bool {
	return CheckSurvey(s) == api.OK && len(parts) == s.Wells && s.fits(parts)
}

// ask returns the survey with its groups, or its error.
func ask(s Survey) (asked, api.Errno) {
	if e := CheckSurvey(s); e != api.OK {
		return asked{}, e
	}
	return asked{s, s.join()}, api.OK
}

// join gives wells between which there are sure observations the lesser one's number, until nothing changes.
func (s Survey) join() groups {
	var g groups
	for well := range g {
		g[well] = well
	}
	for {
		before := g
		for _, x := range s.Seen {
			if s.isSure(x) {
				least := min(g[x.From], g[x.To])
				g[x.From], g[x.To] = least, least
			}
		}
		if g == before {
			return g
		}
	}
}

// way returns the first one of the shortest ways of sure observations between two wells of one group.
func (q asked) way(from, to int) []int {
	// The ways are in their order, the shorter ones first: the first one to reach a well is the first one of all to it.
	ways := [][]int{{from}}
	var met [api.MaxWells]bool
	met[from] = true
	for {
		way := ways[0]
		last := way[len(way)-1]
		if last == to {
			return way
		}
		ways = ways[1:]
		for next := range q.Wells {
			if !met[next] && q.isLinked(last, next) {
				met[next] = true
				ways = append(ways, append(slices.Clone(way), next))
			}
		}
	}
}

// isLinked returns whether a sure observation stands between the wells.
func (s Survey) isLinked(a, b int) bool {
	return slices.ContainsFunc(s.Seen, func(x Seen) bool {
		return s.isSure(x) && (x.From == a && x.To == b || x.From == b && x.To == a)
	})
}

// fits returns whether the division agrees with the survey, which is valid.
func (s Survey) fits(parts []int) bool {
	return every(s.Seen, func(x Seen) bool {
		if parts[x.From] == parts[x.To] {
			return !s.isAgainst(x)
		}
		return !s.isSure(x)
	})
}

// isClash returns whether the observation is against wells of one group.
func (q asked) isClash(x Seen) bool { return q.isAgainst(x) && q.together(x.From, x.To) }

// together returns whether the wells are in one group.
func (g groups) together(a, b int) bool { return g[a] == g[b] }

func (s Survey) isSure(x Seen) bool { return x.In.Lo >= s.Level }

func (s Survey) isAgainst(x Seen) bool { return x.In.Hi < s.Level }

// hasSeen returns whether the observation is one of the survey's wells.
func (s Survey) hasSeen(x Seen) bool {
	return s.hasWell(x.From) && s.hasWell(x.To) && x.From != x.To && x.In.isDrop()
}

func (s Survey) hasWell(n int) bool { return within(n, 0, s.Wells-1) }
