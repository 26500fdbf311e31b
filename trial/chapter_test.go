package trial_test

import (
	"slices"
	"testing"

	"fumarole/api"
	"fumarole/trial"
)

// TestChapterCurves: the examples of the chapter with a test.
func TestChapterCurves(t *testing.T) {
	if n, a, b, c, e := trial.Curves(chapterTest()); n != 4 || a != between(2, 3) || b != between(2, 3) || c != only(0) || e != api.OK {
		t.Errorf("Curves: %d, %v, %v, %v, %v", n, a, b, c, e)
	}
	if r, e := trial.Drawdown(chapterTest(), 20); r != between(42, 63) || e != api.OK {
		t.Errorf("Drawdown: %v, %v", r, e)
	}
	if sure, may, e := trial.Capacity(chapterTest(), 50); sure != 15 || may != 24 || e != api.OK {
		t.Errorf("Capacity: %d, %d, %v", sure, may, e)
	}
	if i, e := trial.Widest(chapterTest(), []int{0, 10, 20}); i != 2 || e != api.OK {
		t.Errorf("Widest: %d, %v", i, e)
	}
	l, e := trial.Conflicts(emptyTest())
	if !slices.Equal(l, [][2]int{{-1, 2}, {-1, 2}}) || e != api.OK || !trial.ProveNone(emptyTest(), l) {
		t.Errorf("Conflicts: %v, %v", l, e)
	}
	if i, e := trial.Blame(emptyTest()); i != 2 || e != api.OK {
		t.Errorf("Blame: %d, %v", i, e)
	}
}

// TestChapterParts: the examples of the chapter with a survey.
func TestChapterParts(t *testing.T) {
	s := chapterSurvey()
	if l := groups(t, s); !slices.Equal(l, []int{0, 0, 2, 3}) {
		t.Errorf("Groups: %v", l)
	}
	if l := relations(t, s); !sameRows(l, [][]uint8{
		{trial.Yes, trial.Yes, trial.No, trial.Maybe},
		{trial.Yes, trial.Yes, trial.No, trial.Maybe},
		{trial.No, trial.No, trial.Yes, trial.Maybe},
		{trial.Maybe, trial.Maybe, trial.Maybe, trial.Yes},
	}) {
		t.Errorf("Relations: %v", l)
	}
	if l := plan(t, s); !slices.Equal(l, []int{3}) {
		t.Errorf("Plan: %v", l)
	}
	if i, way, e := trial.Clash(chapterSurvey(seen(2, 0, 5, 5))); i != 1 || !slices.Equal(way, []int{1, 0, 2}) || e != api.OK {
		t.Errorf("Clash: %d, %v, %v", i, way, e)
	}
	if p := pulse(t, s, 3, []int{0, 0, 1, 1}); !sameSurvey(p, chapterSurvey(seen(3, 0, 4, 4), seen(3, 1, 4, 4), seen(3, 2, 5, 5))) {
		t.Errorf("Pulse: %v", p)
	}
	if l := [3]uint8{trial.No, trial.Maybe, trial.Yes}; l != [3]uint8{0, 1, 2} {
		t.Errorf("No, Maybe, Yes: %v", l)
	}
}

// TestDocumentExample: the fourth example of DOC.md.
func TestDocumentExample(t *testing.T) {
	x := trial.Test{A: between(0, api.MaxRest), B: between(1, 3), Steps: []trial.Step{step(0, 2, 3), step(10, 22, 33)}}
	if _, _, b, _, e := trial.Curves(x); b != between(2, 3) || e != api.OK {
		t.Errorf("Curves: %v, %v", b, e)
	}
}

// spoil clears the list, and what its memory has behind it.
func spoil[T any](l []T) { clear(l[:cap(l)]) }

// TestMemoryOfTests: R4, tests, flows and lists stay as they are, and what is returned is new.
func TestMemoryOfTests(t *testing.T) {
	x, empty, flows, proof := chapterTest(), emptyTest(), []int{20, 0, 10}, [][2]int{{-1, 2}, {-1, 2}}
	for range 2 {
		trial.CheckTest(x)
		trial.Agrees(x, trial.Curve{A: 2, B: 2})
		trial.Curves(x)
		trial.Drawdown(x, 20)
		trial.Capacity(x, 50)
		trial.Widest(x, flows)
		trial.Blame(empty)
		l, _ := trial.Conflicts(empty)
		if !trial.ProveNone(empty, proof) || !slices.Equal(l, proof) {
			t.Errorf("what Conflicts returns is kept: %v", l)
		}
		spoil(l)
		if !sameTest(x, chapterTest()) || !sameTest(empty, emptyTest()) || !slices.Equal(flows, []int{20, 0, 10}) || !slices.Equal(proof, [][2]int{{-1, 2}, {-1, 2}}) {
			t.Fatalf("arguments were changed: %v, %v, %v, %v", x, empty, flows, proof)
		}
	}
}

// TestMemoryOfSurveys: R4, surveys and divisions stay as they are, and what is returned is new.
func TestMemoryOfSurveys(t *testing.T) {
	s, clash, parts := chapterSurvey(), chapterSurvey(seen(2, 0, 5, 5)), []int{0, 0, 1, 1}
	s.Seen = slices.Grow(s.Seen, 20) // what is appended to it would be written into it
	behind := s.Seen[:cap(s.Seen)]
	for range 2 {
		trial.CheckSurvey(s)
		trial.Fits(s, parts)
		spoil(groups(t, s))
		_, way, _ := trial.Clash(clash)
		spoil(way)
		spoil(plan(t, s))
		l := relations(t, s)
		spoil(l[0])
		spoil(l[2])
		if !slices.Equal(l[1], []uint8{trial.Yes, trial.Yes, trial.No, trial.Maybe}) || !slices.Equal(l[3], []uint8{trial.Maybe, trial.Maybe, trial.Maybe, trial.Yes}) {
			t.Errorf("rows of Relations are shared: %v", l)
		}
		p := pulse(t, s, 3, parts)
		if behind[len(s.Seen)] != (trial.Seen{}) {
			t.Error("Pulse writes behind the observations that it is given")
		}
		spoil(p.Seen)
		if !sameSurvey(s, chapterSurvey()) || !sameSurvey(clash, chapterSurvey(seen(2, 0, 5, 5))) || !slices.Equal(parts, []int{0, 0, 1, 1}) {
			t.Fatalf("arguments were changed: %v, %v, %v", s, clash, parts)
		}
	}
	one := trial.Survey{Wells: 1} // a pulse adds nothing
	p := pulse(t, one, 0, []int{7})
	full := trial.Survey{Wells: 2, Seen: slices.Grow([]trial.Seen{seen(0, 1, 0, 0)}, 20)}
	q := pulse(t, full, 1, []int{3, 3})
	spoil(p.Seen)
	spoil(q.Seen)
	if !sameSurvey(full, trial.Survey{Wells: 2, Seen: []trial.Seen{seen(0, 1, 0, 0)}}) {
		t.Errorf("what Pulse returns is shared: %v", full)
	}
}
