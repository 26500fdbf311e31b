package rock_test

import (
	"slices"
	"testing"

	"fumarole/api"
	"fumarole/field"
	"fumarole/rock"
)

// TestChapterExamples: the examples of the chapter, in its order.
func TestChapterExamples(t *testing.T) {
	b, m := chapterBed(), chapterModel()
	first := start(t, b, m)
	if !slices.Equal(first, rock.State{{Mass: 8000, Heat: 3200000}, {Mass: 8000, Heat: 3200000}}) {
		t.Errorf("Start: %v", first)
	}
	s, y := tick(t, b, m, first, 80)
	if !slices.Equal(s, rock.State{{Mass: 7920, Heat: 3168000}, {Mass: 8010, Heat: 3208000}}) || !slices.Equal(y, []rock.Yield{{Mass: 80, Heat: 32000}}) {
		t.Errorf("Tick that takes 80: %v, %v", s, y)
	}
	if l := pressures(t, b, m, s); !slices.Equal(l, []int{0, 1}) {
		t.Errorf("Pressures after it: %v", l)
	}
	s, y = tick(t, b, m, first, -800)
	if !slices.Equal(s, rock.State{{Mass: 8800, Heat: 3280000, Mark: 4000}, {Mass: 8010, Heat: 3208000}}) || !slices.Equal(y, []rock.Yield{{}}) {
		t.Errorf("Tick that gives 800: %v, %v", s, y)
	}
	if l := pressures(t, b, m, s); !slices.Equal(l, []int{100, 1}) {
		t.Errorf("Pressures after it: %v", l)
	}
	s, y = tick(t, b, m, s, 0)
	if !slices.Equal(s, rock.State{{Mass: 8761, Heat: 3265464, Mark: 3983}, {Mass: 8059, Heat: 3230536, Mark: 17}}) || !slices.Equal(y, []rock.Yield{{}}) {
		t.Errorf("Tick that moves 39: %v, %v", s, y)
	}
	if l := [4]uint8{rock.Pressure, rock.Mass, rock.Warmth, rock.Stain}; l != [4]uint8{1, 2, 3, 4} {
		t.Errorf("Pressure, Mass, Warmth, Stain: %v", l)
	}
}

// TestDocumentExample: the fifth example of DOC.md.
func TestDocumentExample(t *testing.T) {
	b := bed(1, 1, 1)
	m := even(b, "a", 8000, 1000, 0, 0)
	if l := pressures(t, b, m, rock.State{{Mass: 8800}}); !slices.Equal(l, []int{100}) {
		t.Errorf("Pressures: %v", l)
	}
}

// spoil clears the list, and what its memory has behind it.
func spoil[T any](l []T) { clear(l[:cap(l)]) }

// spoilRun clears the even states and yields of a run, and what they have behind them.
func spoilRun(r rock.Run) {
	for i, s := range r.States {
		if i%2 == 0 {
			spoil(s)
		}
	}
	for i, y := range r.Yields {
		if i%2 == 0 {
			spoil(y)
		}
	}
}

// given is all that the calls are given, with memory behind each list.
type given struct {
	bed      rock.Bed
	models   []field.Model
	state    rock.State
	rates    []int
	plan     [][]int
	readings []rock.Reading
}

func roomy[T any](l ...T) []T { return slices.Grow(l, 40) }

// quiet gives arguments with which much stays as it is from tick to tick.
func quiet() given {
	b := bed(2, 1, 1, roomy(rock.Bore{Heat: 100, Mark: 5}, rock.Bore{Block: 1})...)
	b.Table = roomy(chapterTable()...)
	g := given{
		bed:      b,
		state:    roomy(rock.Block{Mass: 8000, Heat: 7, Mark: 8}, rock.Block{Mass: 8000, Heat: 9}),
		rates:    roomy(0, 0),
		plan:     roomy(roomy(0, 0), roomy(0, 0), roomy(5, 5), roomy(5, 5), roomy(0, 0), roomy(0, 0)),
		readings: roomy(reading(1, rock.Mass, 0, 0, 0), reading(0, rock.Pressure, 0, 0, 0)),
	}
	for _, m := range named(even(b, "a", 8000, 0, 400, 0), 3) {
		m.Values = roomy(m.Values...)
		g.models = append(g.models, m)
	}
	g.models[1].Values[0] = 9000
	return g
}

func sameList[T comparable](a, b []T) bool {
	return slices.Equal(a, b) && slices.Equal(a[:cap(a)], b[:cap(b)])
}

// same gives whether the arguments are alike, with what is behind the lists.
func (g given) same(x given) bool {
	return sameList(g.bed.Wells, x.bed.Wells) && sameList(g.bed.Table, x.bed.Table) && sameList(g.state, x.state) &&
		sameList(g.rates, x.rates) && sameList(g.readings, x.readings) && slices.EqualFunc(g.plan, x.plan, sameList) &&
		slices.EqualFunc(g.models, x.models, func(a, b field.Model) bool { return a.Name == b.Name && sameList(a.Values, b.Values) })
}

// TestMemory: R4, arguments stay as they are, and what is returned is new.
func TestMemory(t *testing.T) {
	g := quiet()
	b, m := g.bed, g.models[0]
	for range 2 {
		rock.CheckBed(b)
		spoil(start(t, b, m))
		spoil(pressures(t, b, m, g.state))
		s, y := tick(t, b, m, g.state, g.rates...)
		if !slices.Equal(s, g.state) || !slices.Equal(y, []rock.Yield{{}, {}}) {
			t.Errorf("Tick of nothing: %v, %v", s, y)
		}
		spoil(s)
		spoil(y)
		rock.Balance(b, m, g.plan)
		left, strikes, e := rock.Strikes(b, g.models, g.plan, g.readings)
		if !slices.Equal(left, []int{0, 1, 2}) || len(strikes) > 0 || e != api.OK {
			t.Errorf("Strikes: %v, %v, %v", left, strikes, e)
		}
		spoil(left)
		_, strikes, _ = rock.Strikes(b, g.models, g.plan, []rock.Reading{reading(1, rock.Mass, 0, 1, 1)})
		spoil(strikes)
		rock.Decline(b, g.models, g.plan, 0, 5)
		rock.Arrival(b, g.models, g.plan, 0)
		if !g.same(quiet()) {
			t.Fatalf("arguments were changed: %v", g)
		}
	}
}

// TestMemoryOfRuns: R4, states, yields and forecasts of a run share nothing with each other.
func TestMemoryOfRuns(t *testing.T) {
	g := quiet()
	b, m := g.bed, g.models[0]
	want, ok := trueRun(b, m, g.plan)
	if !ok {
		t.Fatal("the run fails")
	}
	forecasts := ahead(t, b, g.models, g.plan)
	for range 2 {
		r := play(t, b, m, g.plan)
		if !sameRun(r, want) {
			t.Fatalf("Play: %v", r)
		}
		spoilRun(r)
		for i := 1; i < len(r.States); i += 2 {
			if !slices.Equal(r.States[i], want.States[i]) {
				t.Errorf("the state %d is shared: %v", i, r.States[i])
			}
		}
		for i := 1; i < len(r.Yields); i += 2 {
			if !slices.Equal(r.Yields[i], want.Yields[i]) {
				t.Errorf("the yields %d are shared: %v", i, r.Yields[i])
			}
		}
		l := ahead(t, b, g.models, g.plan)
		if !sameForecasts(l, forecasts) {
			t.Fatalf("Ahead: %v", l)
		}
		for i := 0; i < len(l); i += 2 {
			spoil(l[i].Wells)
			spoil(l[i].Pressure)
		}
		for i := 1; i < len(l); i += 2 {
			if !sameForecasts(l[i:i+1], forecasts[i:i+1]) {
				t.Errorf("the forecast %d is shared: %v", i, l[i])
			}
		}
		if !g.same(quiet()) {
			t.Fatalf("arguments were changed: %v", g)
		}
	}
}
