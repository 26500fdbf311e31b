package rock_test

import (
	"slices"
	"testing"

	"fumarole/api"
	"fumarole/field"
	"fumarole/rock"
)

// eighths gives models of one block with a well that yields an eighth of so many kilograms, with 10 kJ each.
func eighths(masses ...int) (rock.Bed, []field.Model) {
	b := bed(1, 1, 1, rock.Bore{Heat: 20, Mark: 3})
	models := named(even(b, "m", 1000, 0, 10, 0), len(masses))
	for i, mass := range masses {
		models[i].Values[0] = mass
	}
	return b, models
}

// TestAhead: P5.5, the ranges of each tick, wherever in the list their ends are.
func TestAhead(t *testing.T) {
	for _, masses := range [][]int{{8000, 9600, 8800}, {9600, 8800, 8000}, {8800, 8000, 9600}, {8000, 9600}, {9600, 8000, 9600, 8000}} {
		b, models := eighths(masses...)
		l := ahead(t, b, models, [][]int{{-800}, {1000}, {api.MaxRate}})
		// 8800 or 10400 with 96000 or 112000 kJ, and 2400 marks; then 7800 or 9400, and an eighth of it.
		want := []rock.Forecast{
			{Wells: []rock.Bounds{{}}, Pressure: []rock.Range{between(83, 100)}},
			{Wells: []rock.Bounds{{Mass: between(1000, 1000), Heat: between(10769, 10909), Mark: between(230, 272)}}, Pressure: []rock.Range{between(0, 0)}},
			{Wells: []rock.Bounds{{Mass: between(975, 1175), Heat: between(10636, 12653), Mark: between(266, 271)}}, Pressure: []rock.Range{between(0, 0)}},
		}
		if !sameForecasts(l, want) {
			t.Errorf("Ahead of %v: %v", masses, l)
		}
	}
	b, models := eighths(8000, 9000)
	if l := ahead(t, b, models, nil); len(l) > 0 {
		t.Errorf("Ahead of nothing: %v", l)
	}
	if l := ahead(t, b, models[:1], [][]int{{8}}); !sameForecasts(l, []rock.Forecast{{
		Wells:    []rock.Bounds{{Mass: between(8, 8), Heat: between(80, 80)}},
		Pressure: []rock.Range{between(0, 0)},
	}}) {
		t.Errorf("Ahead of one model: %v", l)
	}
}

// TestDecline: P5.6, the first tick below an amount, in all models.
func TestDecline(t *testing.T) {
	b, models := eighths(8000, 9000, 10000)
	all := slices.Repeat([][]int{{api.MaxRate}}, 5)
	// The yields: 1000, 875, 765, 670, 586; 1125, 984, 861, 753, 659; 1250, 1093, 957, 837, 732.
	for _, c := range []struct {
		plan              [][]int
		least             int
		first, last, some int // the greatest tick of the first two models only
	}{
		{all, 0, 6, 6, 6}, {all, 1, 6, 6, 6}, {all, 586, 6, 6, 6}, {all, 587, 5, 6, 6}, {all, 660, 5, 6, 5},
		{all, 1000, 2, 3, 2}, {all, 1001, 1, 3, 2}, {all, 1250, 1, 2, 1}, {all, 1251, 1, 1, 1}, {all, api.MaxRate, 1, 1, 1},
		{all, 875, 3, 4, 3}, {all, 876, 2, 4, 3}, {all[:2], 875, 3, 3, 3}, {all[:1], 1000, 2, 2, 2}, {nil, 5, 1, 1, 1}, {nil, 0, 1, 1, 1},
		{[][]int{{9}, {0}, {9}}, 9, 2, 2, 2}, {[][]int{{9}, {0}, {9}}, 10, 1, 1, 1}, {[][]int{{9}, {0}, {9}}, 0, 4, 4, 4},
		{[][]int{{9}, {9}, {-9}}, 1, 3, 3, 3}, {[][]int{{9}, {9}, {-9}}, 0, 4, 4, 4},
	} {
		if first, last, e := rock.Decline(b, models, c.plan, 0, c.least); first != c.first || last != c.last || e != api.OK {
			t.Errorf("Decline of %v below %d: %d, %d, %v", c.plan, c.least, first, last, e)
		}
		slices.Reverse(models)
		if first, last, e := rock.Decline(b, models, c.plan, 0, c.least); first != c.first || last != c.last || e != api.OK {
			t.Errorf("Decline of %v below %d, the models reversed: %d, %d, %v", c.plan, c.least, first, last, e)
		}
		slices.Reverse(models)
		if first, last, e := rock.Decline(b, models[:2], c.plan, 0, c.least); first != c.first || last != c.some || e != api.OK {
			t.Errorf("Decline of %v below %d in two models: %d, %d, %v", c.plan, c.least, first, last, e)
		}
	}
}

// TestArrival: P5.6, the first tick in which there is a mark, in all models.
func TestArrival(t *testing.T) {
	b := bed(3, 1, 1, rock.Bore{Mark: 1000}, rock.Bore{Block: 2})
	models := named(even(b, "m", 8000, 1000, 10, 0), 2)
	models[1].Values[4] = 0 // the block between is shut
	give, both := []int{-8000, 5}, []int{8, 8}
	for what, c := range map[string]struct {
		models      []field.Model
		plan        [][]int
		well        int
		first, last int
	}{
		"no plan":                  {models, nil, 0, 1, 1},
		"nothing given":            {models, slices.Repeat([][]int{both}, 4), 0, 5, 5},
		"not in the tick of it":    {models, [][]int{give}, 0, 2, 2},
		"at the well that gives":   {models, [][]int{give, both, both}, 0, 2, 2},
		"when it takes again":      {models, [][]int{give, {0, 5}, {-1, 5}, {1, 5}}, 0, 4, 4},
		"two links away":           {models[:1], slices.Repeat([][]int{give}, 6), 1, 4, 4},
		"and nothing is taken":     {models[:1], append(slices.Repeat([][]int{{-8000, 0}}, 4), both, both), 1, 5, 5},
		"in one of both":           {models, slices.Repeat([][]int{give}, 6), 1, 4, 7},
		"in the other one of both": {[]field.Model{models[1], models[0]}, slices.Repeat([][]int{give}, 6), 1, 4, 7},
		"in no one":                {models[1:], slices.Repeat([][]int{give}, 6), 1, 7, 7},
	} {
		if first, last, e := rock.Arrival(b, c.models, c.plan, c.well); first != c.first || last != c.last || e != api.OK {
			t.Errorf("%s: %d, %d, %v", what, first, last, e)
		}
	}
	b.Wells[0].Mark = 0
	if first, last, e := rock.Arrival(b, models, slices.Repeat([][]int{give, both}, 3), 0); first != 7 || last != 7 || e != api.OK {
		t.Errorf("no marks: %d, %d, %v", first, last, e)
	}
}

// ends gives the least and the greatest number of the runs.
func ends(runs []rock.Run, of func(int, rock.Run) int) rock.Range {
	all := between(of(0, runs[0]), of(0, runs[0]))
	for i, r := range runs {
		all = between(min(all.Lo, of(i, r)), max(all.Hi, of(i, r)))
	}
	return all
}

// trueForecast gives the forecast of a tick, counted from 0, of the runs of the models.
func trueForecast(b rock.Bed, models []field.Model, runs []rock.Run, tick int) rock.Forecast {
	var f rock.Forecast
	for well := range b.Wells {
		f.Wells = append(f.Wells, rock.Bounds{
			Mass: ends(runs, func(i int, r rock.Run) int { return r.Yields[tick][well].Mass }),
			Heat: ends(runs, func(i int, r rock.Run) int { return r.Yields[tick][well].Heat }),
			Mark: ends(runs, func(i int, r rock.Run) int { return r.Yields[tick][well].Mark }),
		})
	}
	for block := range size(b) {
		f.Pressure = append(f.Pressure, ends(runs, func(i int, r rock.Run) int { return truePressure(b, models[i], r.States[tick+1], block) }))
	}
	return f
}

// firstTick gives the first tick, counted from 1, in which the well has such a yield.
func firstTick(r rock.Run, well int, is func(rock.Yield) bool) int {
	for i, y := range r.Yields {
		if is(y[well]) {
			return i + 1
		}
	}
	return len(r.Yields) + 1
}

func inside(x, y rock.Range) bool { return y.Lo <= x.Lo && x.Hi <= y.Hi }

// lies gives whether the one forecast lies in the other one.
func lies(x, y rock.Forecast) bool {
	for i := range x.Wells {
		if !inside(x.Wells[i].Mass, y.Wells[i].Mass) || !inside(x.Wells[i].Heat, y.Wells[i].Heat) || !inside(x.Wells[i].Mark, y.Wells[i].Mark) {
			return false
		}
	}
	for i := range x.Pressure {
		if !inside(x.Pressure[i], y.Pressure[i]) {
			return false
		}
	}
	return true
}

// TestForecastsCounted: P5.5, P5.6, P5.10, any models, as the chapter says them.
func TestForecastsCounted(t *testing.T) {
	d := &dice{seed: 55}
	works := 0
	for range 400 {
		b := d.bed(4)
		models, plan := d.models(b, d.roll(1, 5)), d.plan(b, d.roll(1, 10), d.pick(300, 3000))
		var runs []rock.Run
		for _, m := range models {
			if r, ok := trueRun(b, m, plan); ok {
				runs = append(runs, r)
			}
		}
		if len(runs) < len(models) {
			if l, e := rock.Ahead(b, models, plan); alone(e, len(l) == 0) != api.ErrFail {
				t.Errorf("Ahead(%v, %v, %v): %v, %v", b, models, plan, l, e)
			}
			continue
		}
		works++
		l := ahead(t, b, models, plan)
		fewer := ahead(t, b, models[:d.roll(1, len(models))], plan)
		for i := range plan {
			if want := trueForecast(b, models, runs, i); !sameForecasts(l[i:i+1], []rock.Forecast{want}) {
				t.Errorf("Ahead(%v, %v, %v): in the tick %d %v, not %v", b, models, plan, i+1, l[i], want)
			}
			if !lies(fewer[i], l[i]) {
				t.Errorf("Ahead(%v, %v, %v): in the tick %d %v, and %v of fewer models", b, models, plan, i+1, l[i], fewer[i])
			}
		}
		for well := range b.Wells {
			least := d.pick(1, d.roll(0, 500), d.roll(0, 3000))
			want := ends(runs, func(i int, r rock.Run) int {
				return firstTick(r, well, func(y rock.Yield) bool { return y.Mass < least })
			})
			if first, last, e := rock.Decline(b, models, plan, well, least); between(first, last) != want || e != api.OK {
				t.Errorf("Decline(%v, %v, %v, %d, %d): %d, %d, %v", b, models, plan, well, least, first, last, e)
			}
			want = ends(runs, func(i int, r rock.Run) int {
				return firstTick(r, well, func(y rock.Yield) bool { return y.Mark > 0 })
			})
			if first, last, e := rock.Arrival(b, models, plan, well); between(first, last) != want || e != api.OK {
				t.Errorf("Arrival(%v, %v, %v, %d): %d, %d, %v", b, models, plan, well, first, last, e)
			}
		}
	}
	if works < 200 {
		t.Errorf("too few of a kind: %d work", works)
	}
}

// TestManyModels: P5.5, as many models as there may be, in all blocks.
func TestManyModels(t *testing.T) {
	b := bed(4, 4, 4, wells(api.MaxBores)...)
	d := &dice{seed: 550}
	models, plan := d.models(b, api.MaxModels), d.plan(b, 20, 1000)
	l := ahead(t, b, models, plan)
	for i, m := range models {
		r, ok := trueRun(b, m, plan[:2])
		if !ok {
			t.Fatal("the run fails")
		}
		if f := trueForecast(b, models[i:i+1], []rock.Run{r}, 1); !lies(f, l[1]) {
			t.Errorf("Ahead: %v is not in %v", f, l[1])
		}
	}
}
