package trial_test

import (
	"math"
	"slices"
	"testing"

	"fumarole/api"
	"fumarole/trial"
)

// The calls of the chapter, with their exact signatures.
var (
	_ func(trial.Test) api.Errno                                            = trial.CheckTest
	_ func(trial.Test, trial.Curve) bool                                    = trial.Agrees
	_ func(trial.Test) (many int, a, b, c trial.Range, e api.Errno)         = trial.Curves
	_ func(trial.Test, int) (trial.Range, api.Errno)                        = trial.Drawdown
	_ func(trial.Test, int) (sure, may int, e api.Errno)                    = trial.Capacity
	_ func(trial.Test, []int) (int, api.Errno)                              = trial.Widest
	_ func(trial.Test) (int, api.Errno)                                     = trial.Blame
	_ func(trial.Test) ([][2]int, api.Errno)                                = trial.Conflicts
	_ func(trial.Test, [][2]int) bool                                       = trial.ProveNone
	_ func(trial.Survey) api.Errno                                          = trial.CheckSurvey
	_ func(trial.Survey) ([]int, api.Errno)                                 = trial.Groups
	_ func(trial.Survey) (seen int, way []int, e api.Errno)                 = trial.Clash
	_ func(trial.Survey) ([][]uint8, api.Errno)                             = trial.Relations
	_ func(trial.Survey) ([]int, api.Errno)                                 = trial.Plan
	_ func(s trial.Survey, well int, parts []int) (trial.Survey, api.Errno) = trial.Pulse
	_ func(trial.Survey, []int) bool                                        = trial.Fits
)

// farNumbers are numbers whose products, sums and differences overflow.
var farNumbers = []int{math.MinInt, math.MinInt + 1, -1 << 62, -1 << 34, 1 << 34, 1 << 62, math.MaxInt - 1, math.MaxInt}

func between(lo, hi int) trial.Range { return trial.Range{Lo: lo, Hi: hi} }

func only(n int) trial.Range { return between(n, n) }

func step(flow, lo, hi int) trial.Step { return trial.Step{Flow: flow, In: between(lo, hi)} }

func seen(from, to, lo, hi int) trial.Seen {
	return trial.Seen{From: from, To: to, In: between(lo, hi)}
}

// chapterTest is the test of the chapter's examples, with further steps.
func chapterTest(more ...trial.Step) trial.Test {
	return trial.Test{A: between(0, 10), B: between(1, 3), C: between(0, 1), Steps: append([]trial.Step{step(0, 2, 3), step(10, 22, 33)}, more...)}
}

// emptyTest is the test of the chapter's examples with which no curve agrees.
func emptyTest() trial.Test {
	x := chapterTest(step(20, 0, 9))
	x.B, x.C = between(2, 3), only(0)
	return x
}

// widestTest has the greatest numbers that a test may have, and no steps.
func widestTest(steps ...trial.Step) trial.Test {
	return trial.Test{A: between(0, api.MaxRest), B: between(api.MaxSlope-39, api.MaxSlope), C: between(api.MaxBend-39, api.MaxBend), Steps: steps}
}

// chapterSurvey is the survey of the chapter's examples, with further observations.
func chapterSurvey(more ...trial.Seen) trial.Survey {
	return trial.Survey{Wells: 4, Level: 5, Seen: append([]trial.Seen{seen(0, 1, 6, 9), seen(1, 2, 0, 3), seen(2, 3, 4, 7)}, more...)}
}

func sameTest(x, y trial.Test) bool {
	return x.A == y.A && x.B == y.B && x.C == y.C && slices.Equal(x.Steps, y.Steps)
}

func sameSurvey(x, y trial.Survey) bool {
	return x.Wells == y.Wells && x.Level == y.Level && slices.Equal(x.Seen, y.Seen)
}

func sameRows(x, y [][]uint8) bool {
	return slices.EqualFunc(x, y, func(a, b []uint8) bool { return slices.Equal(a, b) })
}

// dice gives numbers that are the same in each run.
type dice struct{ state uint64 }

// roll gives a number from lo to hi.
func (d *dice) roll(lo, hi int) int {
	d.state = d.state*6364136223846793005 + 1442695040888963407
	return lo + int((d.state>>20)%uint64(hi-lo+1))
}

// part gives a range of at most so many numbers from 0 to hi.
func (d *dice) part(hi, count int) trial.Range {
	lo := d.roll(0, hi)
	return between(lo, min(hi, lo+d.roll(0, count-1)))
}

// curve gives a curve of the box.
func (d *dice) curve(x trial.Test) trial.Curve {
	return trial.Curve{A: d.roll(x.A.Lo, x.A.Hi), B: d.roll(x.B.Lo, x.B.Hi), C: d.roll(x.C.Lo, x.C.Hi)}
}

// test gives a valid test with a small box, and the curve around which its steps are; with a slip they may miss it.
func (d *dice) test(slip int) (trial.Test, trial.Curve) {
	x := trial.Test{A: d.part(20, 12), B: d.part(12, 5), C: d.part(5, 4)}
	if d.roll(0, 5) == 0 {
		x = trial.Test{A: d.part(api.MaxRest, 12), B: d.part(api.MaxSlope, 5), C: d.part(api.MaxBend, 4)}
	}
	curve, far := d.curve(x), []int{3, 8, api.MaxFlow}[d.roll(0, 2)]
	for range d.roll(0, 4) {
		flow := d.roll(0, far)
		drop := drawdown(curve, flow) + d.roll(-slip, slip)
		lo, hi := d.roll(0, 10), d.roll(0, 10)
		x.Steps = append(x.Steps, step(flow, drop-lo, drop+hi))
	}
	return x, curve
}

func drawdown(c trial.Curve, flow int) int { return c.A + c.B*flow + c.C*flow*flow }

func in(r trial.Range, n int) bool { return r.Lo <= n && n <= r.Hi }

// curves gives all curves that agree with the test: each one of the box is tried.
func curves(x trial.Test) []trial.Curve {
	var l []trial.Curve
	for a := x.A.Lo; a <= x.A.Hi; a++ {
		for b := x.B.Lo; b <= x.B.Hi; b++ {
			for c := x.C.Lo; c <= x.C.Hi; c++ {
				curve := trial.Curve{A: a, B: b, C: c}
				if !slices.ContainsFunc(x.Steps, func(s trial.Step) bool { return !in(s.In, drawdown(curve, s.Flow)) }) {
					l = append(l, curve)
				}
			}
		}
	}
	return l
}

// ends gives the least and the greatest of what the curves have.
func ends(l []trial.Curve, of func(trial.Curve) int) trial.Range {
	all := only(of(l[0]))
	for _, c := range l {
		all = between(min(all.Lo, of(c)), max(all.Hi, of(c)))
	}
	return all
}

// divisions gives all divisions of so many wells, each with the least numbers for its parts.
func divisions(wells int) [][]int {
	l := [][]int{{}}
	for range wells {
		var longer [][]int
		for _, parts := range l {
			for next := range slices.Max(append(slices.Clone(parts), -1)) + 2 {
				longer = append(longer, append(slices.Clone(parts), next))
			}
		}
		l = longer
	}
	return l
}

// fitting gives the divisions that agree with the survey, as the chapter says it.
func fitting(s trial.Survey) [][]int {
	return slices.DeleteFunc(divisions(s.Wells), func(parts []int) bool {
		return slices.ContainsFunc(s.Seen, func(x trial.Seen) bool { return contradicts(s, x, parts) })
	})
}

// survey gives a valid survey of at most so many wells, with or without a clash.
func (d *dice) survey(wells int) trial.Survey {
	s := trial.Survey{Wells: d.roll(1, wells), Level: d.roll(-3, 3)}
	if s.Wells == 1 {
		return s
	}
	parts, last := make([]int, s.Wells), []int{0, 1, 2, s.Wells}[d.roll(0, 3)]
	for well := range parts {
		parts[well] = d.roll(0, last)
	}
	slip := d.roll(0, 1) == 0
	for range d.roll(0, 3*s.Wells) {
		from := d.roll(0, s.Wells-1)
		to := (from + d.roll(1, s.Wells-1)) % s.Wells
		lo := s.Level + d.roll(-3, 2)
		x := seen(from, to, lo, lo+d.roll(0, 2))
		if slip && d.roll(0, 1) == 0 || !contradicts(s, x, parts) {
			s.Seen = append(s.Seen, x)
		}
	}
	return s
}

// contradicts gives whether the observation does not go with the division.
func contradicts(s trial.Survey, x trial.Seen, parts []int) bool {
	together := parts[x.From] == parts[x.To]
	return x.In.Lo >= s.Level && !together || x.In.Hi < s.Level && together
}

func groups(t *testing.T, s trial.Survey) []int {
	t.Helper()
	l, e := trial.Groups(s)
	if e != api.OK || len(l) != s.Wells {
		t.Fatalf("Groups(%v): %v, %v", s, l, e)
	}
	return l
}

func relations(t *testing.T, s trial.Survey) [][]uint8 {
	t.Helper()
	l, e := trial.Relations(s)
	if e != api.OK || len(l) != s.Wells || slices.ContainsFunc(l, func(row []uint8) bool { return len(row) != s.Wells }) {
		t.Fatalf("Relations(%v): %v, %v", s, l, e)
	}
	return l
}

func plan(t *testing.T, s trial.Survey) []int {
	t.Helper()
	l, e := trial.Plan(s)
	if e != api.OK {
		t.Fatalf("Plan(%v): %v, %v", s, l, e)
	}
	return l
}

func pulse(t *testing.T, s trial.Survey, well int, parts []int) trial.Survey {
	t.Helper()
	p, e := trial.Pulse(s, well, parts)
	if e != api.OK {
		t.Fatalf("Pulse(%v, %d, %v): %v, %v", s, well, parts, p, e)
	}
	return p
}
