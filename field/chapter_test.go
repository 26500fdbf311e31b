package field_test

import (
	"slices"
	"testing"

	"fumarole/api"
	"fumarole/field"
)

// TestChapterExamples: the examples of the chapter, in its order.
func TestChapterExamples(t *testing.T) {
	f, models := chapterField(), chapterModels()
	if n, e := field.Number(f, 1, 0, 1); n != 3 || e != api.OK {
		t.Errorf("Number: %d, %v", n, e)
	}
	if x, y, z, e := field.Place(f, 2); x != 0 || y != 0 || z != 1 || e != api.OK {
		t.Errorf("Place: %d %d %d, %v", x, y, z, e)
	}
	log, e := field.Column(f, "log", 0, 0, 0, []int{12, 30}, 3)
	if !sameMeasures(log, []field.Measure{single("log0", 0, 9, 15), single("log1", 2, 27, 33)}) || e != api.OK {
		t.Errorf("Column: %v, %v", log, e)
	}
	g, e := field.Station(f, "g", 0, 0, 0, field.Range{Lo: 35000, Hi: 36000})
	if !slices.Equal(g.Blocks, []int{0, 1, 2, 3}) || !slices.Equal(g.Weights, []int{1000, 500, 250, 200}) || e != api.OK {
		t.Errorf("Station: %v, %v", g, e)
	}
	s, e := field.Sounding(f, "s", 0, 1, 0, 2, field.Range{})
	if !slices.Equal(s.Blocks, []int{0, 1, 3}) || !slices.Equal(s.Weights, []int{1, 1, 1}) || e != api.OK {
		t.Errorf("Sounding: %v, %v", s, e)
	}
	for i, want := range []int{35500, 37500} {
		if n, e := field.Sum(f, models[i], g); n != want || e != api.OK {
			t.Errorf("Sum in %d: %d, %v", i, n, e)
		}
	}
	left, struck := strikes(t, f, models, []field.Measure{g, single("log0", 0, 9, 12)})
	if !slices.Equal(left, []int{0}) || !slices.Equal(struck, []field.Strike{{Model: 1, Measure: 0, Miss: 1500}, {Model: 2, Measure: 0, Miss: 4500}}) {
		t.Errorf("Strikes: %v, %v", left, struck)
	}
	spread, e := field.Spread(f, models)
	if !slices.Equal(spread, []field.Range{{Lo: 10, Hi: 15}, {Lo: 20, Hi: 20}, {Lo: 30, Hi: 30}, {Lo: 40, Hi: 50}}) || e != api.OK {
		t.Errorf("Spread: %v, %v", spread, e)
	}
}

// TestChapterChoices: the examples of the chapter, from Worst on.
func TestChapterChoices(t *testing.T) {
	f, models := chapterField(), chapterModels()
	probes := []field.Probe{
		{Blocks: []int{3}, Weights: []int{1}, Error: 4},
		{Blocks: []int{0, 3}, Weights: []int{1, 1}, Error: 1},
	}
	if n, r, e := field.Worst(f, models, probes[0]); n != 2 || r != 36 || e != api.OK {
		t.Errorf("Worst with the error 4: %d, %d, %v", n, r, e)
	}
	if n, r, e := field.Worst(f, models, field.Probe{Blocks: []int{3}, Weights: []int{1}, Error: 5}); n != 3 || r != 45 || e != api.OK {
		t.Errorf("Worst with the error 5: %d, %d, %v", n, r, e)
	}
	best, worst, readings, e := field.Best(f, models, probes)
	if best != 1 || worst != 1 || !slices.Equal(readings, []int{36, 49}) || e != api.OK {
		t.Errorf("Best: %d, %d, %v, %v", best, worst, readings, e)
	}
	l := []field.Measure{single("u", 0, 10, 12), single("v", 3, 41, 60), single("w", 3, 30, 45)}
	if q, e := field.Quarrel(f, models, l); !slices.Equal(q, []int{1, 2}) || e != api.OK {
		t.Errorf("Quarrel: %v, %v", q, e)
	}
	if m, by, e := field.Excuse(f, models, l); m != 0 || !slices.Equal(by, []int{1}) || e != api.OK {
		t.Errorf("Excuse: %d, %v, %v", m, by, e)
	}
	text := "field 2 1 2 1\nmodel a\n10 20\n30 40\nend 1\n"
	if s, e := field.Write(f, models[:1]); s != text || e != api.OK {
		t.Errorf("Write: %q, %v", s, e)
	}
}

// TestDocumentExample: the second example of DOC.md, a log that strikes a model.
func TestDocumentExample(t *testing.T) {
	left, struck := strikes(t, chapterField(), chapterModels()[:2], []field.Measure{single("log", 3, 30, 45)})
	if !slices.Equal(left, []int{0}) || !slices.Equal(struck, []field.Strike{{Model: 1, Measure: 0, Miss: 5}}) {
		t.Errorf("Strikes: %v, %v", left, struck)
	}
}

// TestMemory: R4, arguments stay as they are, and what is returned is new.
func TestMemory(t *testing.T) {
	f, models := chapterField(), chapterModels()
	readings := []int{12, 30}
	l := []field.Measure{single("u", 0, 10, 12), single("v", 3, 41, 60), single("w", 3, 30, 45)}
	probes := []field.Probe{{Blocks: []int{3}, Weights: []int{1}, Error: 4}, {Blocks: []int{0, 3}, Weights: []int{1, 1}, Error: 1}}
	text := "field 2 1 2 1\nmodel a\n10 20\n30 40\nmodel b\n1 2\n3 4\nend 2\n"
	in := field.Range{Lo: 1, Hi: 2}
	lists := func() [][]int {
		column, _ := field.Column(f, "log", 0, 0, 0, readings, 3)
		station, _ := field.Station(f, "g", 0, 0, 0, in)
		sounding, _ := field.Sounding(f, "s", 0, 1, 0, 2, in)
		misses, _ := field.Misses(f, models[0], l)
		left, _, _ := field.Strikes(f, models, l[:1])
		_, _, worst, _ := field.Best(f, models, probes)
		quarrel, _ := field.Quarrel(f, models, l)
		_, excuse, _ := field.Excuse(f, models, l)
		_, read, _, _ := field.Read(text)
		all := [][]int{misses, left, worst, quarrel, excuse}
		for _, m := range append(column, station, sounding) {
			all = append(all, m.Blocks, m.Weights)
		}
		for _, m := range read {
			all = append(all, m.Values)
		}
		field.ProveBest(f, models, probes, 1, 1, readings)
		field.Spread(f, models)
		field.Common(f, field.Party{Models: models, Measures: l}, field.Party{Models: models, Measures: l})
		return all
	}
	got := lists()
	var want [][]int
	for _, x := range got {
		want = append(want, slices.Clone(x))
	}
	if !sameModels(models, chapterModels()) || !slices.Equal(readings, []int{12, 30}) ||
		!sameMeasures(l, []field.Measure{single("u", 0, 10, 12), single("v", 3, 41, 60), single("w", 3, 30, 45)}) ||
		!sameProbes(probes, []field.Probe{{Blocks: []int{3}, Weights: []int{1}, Error: 4}, {Blocks: []int{0, 3}, Weights: []int{1, 1}, Error: 1}}) {
		t.Errorf("arguments were changed: %v, %v, %v, %v", models, readings, l, probes)
	}
	for i, x := range got {
		if len(x) == 0 {
			t.Errorf("the list %d is empty", i)
		}
		for j := range x[:cap(x)] {
			x[:cap(x)][j] = -77
		}
		for k := i + 1; k < len(got); k++ {
			if !slices.Equal(got[k], want[k]) {
				t.Errorf("the list %d shares memory with the list %d", k, i)
			}
		}
	}
	if again := lists(); !slices.EqualFunc(again, want, slices.Equal) {
		t.Errorf("a result was kept, or shares memory with an argument: %v, not %v", again, want)
	}
}
