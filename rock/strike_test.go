package rock_test

import (
	"slices"
	"testing"

	"fumarole/api"
	"fumarole/field"
	"fumarole/rock"
)

// trueValue gives what a reading tells of a run.
func trueValue(b rock.Bed, m field.Model, r rock.Run, x rock.Reading) int {
	if x.What == rock.Pressure {
		return truePressure(b, m, r.States[x.Tick], x.Index)
	}
	y := r.Yields[x.Tick-1][x.Index]
	switch {
	case x.What == rock.Mass:
		return y.Mass
	case x.What == rock.Stain:
		return y.Mark
	case y.Mass == 0:
		return 0
	}
	return y.Heat / y.Mass
}

// TestValues: P5.4, what each reading tells, and the miss on both sides of its range.
func TestValues(t *testing.T) {
	b, plan := chapterBed(), [][]int{{-800}, {80}, {0}}
	b.Wells = append(b.Wells, rock.Bore{Block: 1})
	for i, rate := range []int{5, -1, 1} {
		plan[i] = append(plan[i], rate)
	}
	// After the ticks: 8800 and 8005, 8681 and 8055, and what flows in the last tick.
	for _, c := range []struct {
		x    rock.Reading
		want int
	}{
		{reading(0, rock.Pressure, 0, 0, 0), 0}, {reading(0, rock.Pressure, 1, 0, 0), 0},
		{reading(1, rock.Pressure, 0, 0, 0), 100}, {reading(1, rock.Pressure, 1, 0, 0), 0},
		{reading(2, rock.Pressure, 0, 0, 0), 85}, {reading(2, rock.Pressure, 1, 0, 0), 7},
		{reading(1, rock.Mass, 0, 0, 0), 0}, {reading(1, rock.Mass, 1, 0, 0), 5},
		{reading(2, rock.Mass, 0, 0, 0), 80}, {reading(2, rock.Mass, 1, 0, 0), 0},
		{reading(3, rock.Mass, 0, 0, 0), 0}, {reading(3, rock.Mass, 1, 0, 0), 1},
		{reading(1, rock.Warmth, 0, 0, 0), 0}, {reading(1, rock.Warmth, 1, 0, 0), 400},
		{reading(2, rock.Warmth, 0, 0, 0), 372}, {reading(2, rock.Warmth, 1, 0, 0), 0},
		{reading(3, rock.Warmth, 0, 0, 0), 0},
		{reading(1, rock.Stain, 0, 0, 0), 0}, {reading(2, rock.Stain, 0, 0, 0), 36}, {reading(3, rock.Stain, 0, 0, 0), 0},
		{reading(2, rock.Stain, 1, 0, 0), 0}, {reading(3, rock.Stain, 1, 0, 0), 0},
	} {
		for in, miss := range map[rock.Range]int{
			between(c.want, c.want):         0,
			between(c.want-1, c.want+1):     0,
			between(c.want, api.MaxSum):     0,
			between(-api.MaxSum, c.want):    0,
			between(c.want+1, c.want+1):     -1,
			between(c.want-1, c.want-1):     1,
			between(c.want+7, c.want+9):     -7,
			between(c.want-9, c.want-7):     7,
			between(-api.MaxSum, -1):        c.want + 1,
			between(100000, api.MaxSum):     c.want - 100000,
			between(api.MaxSum, api.MaxSum): c.want - api.MaxSum,
		} {
			x := c.x
			x.In = in
			left, strikes, e := rock.Strikes(b, []field.Model{chapterModel()}, plan, []rock.Reading{x})
			if miss == 0 && (!slices.Equal(left, []int{0}) || len(strikes) > 0) || e != api.OK {
				t.Errorf("Strikes by %v: %v, %v, %v", x, left, strikes, e)
			}
			if miss != 0 && (len(left) > 0 || !slices.Equal(strikes, []rock.Strike{{Model: 0, Reading: 0, Miss: miss}})) {
				t.Errorf("Strikes by %v: %v, %v, not %d", x, left, strikes, miss)
			}
		}
	}
}

// TestGreatStain: P5.4, a mark beyond all ranges, by how much it is.
func TestGreatStain(t *testing.T) {
	b := bed(1, 1, 1, rock.Bore{Mark: api.MaxMark})
	models := []field.Model{even(b, "a", 1000, 0, 0, 0)}
	plan := append(slices.Repeat([][]int{{-api.MaxRate}}, 9), []int{api.MaxRate})
	_, strikes, e := rock.Strikes(b, models, plan, []rock.Reading{reading(10, rock.Stain, 0, -api.MaxSum, api.MaxSum)})
	if !slices.Equal(strikes, []rock.Strike{{Miss: 89889012208}}) || e != api.OK {
		t.Errorf("Strikes: %v, %v", strikes, e)
	}
	_, strikes, e = rock.Strikes(b, models, plan, []rock.Reading{reading(10, rock.Mass, 0, -api.MaxSum, -api.MaxSum)})
	if !slices.Equal(strikes, []rock.Strike{{Miss: 10000100000}}) || e != api.OK {
		t.Errorf("Strikes by a mass: %v, %v", strikes, e)
	}
}

// TestStrikes: P5.4, which models are left, and by which reading the others are struck.
func TestStrikes(t *testing.T) {
	b := bed(1, 1, 1, rock.Bore{})
	var models []field.Model
	for i, m := range named(even(b, "m", 8000, 0, 0, 0), 5) {
		m.Values[0] += 800 * i // the well yields an eighth: 1000, 1100, 1200, 1300, 1400
		models = append(models, m)
	}
	plan := [][]int{{api.MaxRate}, {0}}
	mass := func(lo, hi int) rock.Reading { return reading(1, rock.Mass, 0, lo, hi) }
	for what, c := range map[string]struct {
		l       []rock.Reading
		left    []int
		strikes []rock.Strike
	}{
		"no reading":              {nil, []int{0, 1, 2, 3, 4}, nil},
		"all agree":               {[]rock.Reading{mass(1000, 1400), mass(0, 2000)}, []int{0, 1, 2, 3, 4}, nil},
		"the first one is struck": {[]rock.Reading{mass(1100, 1400)}, []int{1, 2, 3, 4}, []rock.Strike{{0, 0, -100}}},
		"the last one is struck":  {[]rock.Reading{mass(0, 1399)}, []int{0, 1, 2, 3}, []rock.Strike{{4, 0, 1}}},
		"all but one":             {[]rock.Reading{mass(1150, 1250)}, []int{2}, []rock.Strike{{0, 0, -150}, {1, 0, -50}, {3, 0, 50}, {4, 0, 150}}},
		"none is left":            {[]rock.Reading{mass(1201, 1299)}, nil, []rock.Strike{{0, 0, -201}, {1, 0, -101}, {2, 0, -1}, {3, 0, 1}, {4, 0, 101}}},
		"one after the other":     {[]rock.Reading{mass(1100, 1400), mass(0, 1300), mass(1200, 1300), mass(1300, 1300)}, []int{3}, []rock.Strike{{0, 0, -100}, {1, 2, -100}, {2, 3, -100}, {4, 1, 100}}},
		"the first miss counts":   {[]rock.Reading{mass(0, 1399), mass(0, 1000)}, []int{0}, []rock.Strike{{1, 1, 100}, {2, 1, 200}, {3, 1, 300}, {4, 0, 1}}},
		"the same one twice":      {[]rock.Reading{mass(1100, 1300), mass(1100, 1300)}, []int{1, 2, 3}, []rock.Strike{{0, 0, -100}, {4, 0, 100}}},
		"an earlier tick behind":  {[]rock.Reading{reading(2, rock.Mass, 0, 0, 0), reading(2, rock.Warmth, 0, -1, -1), mass(5, 5)}, nil, []rock.Strike{{0, 1, 1}, {1, 1, 1}, {2, 1, 1}, {3, 1, 1}, {4, 1, 1}}},
	} {
		left, strikes, e := rock.Strikes(b, models, plan, c.l)
		if !slices.Equal(left, c.left) || !slices.Equal(strikes, c.strikes) || e != api.OK {
			t.Errorf("%s: %v, %v, %v", what, left, strikes, e)
		}
	}
}

// readings gives valid readings whose ranges are about what they tell of the run.
func (d *dice) readings(b rock.Bed, m field.Model, r rock.Run, ticks, slip int) []rock.Reading {
	var l []rock.Reading
	for range d.roll(0, 6) {
		x := rock.Reading{What: uint8(d.roll(1, 4))}
		if len(b.Wells) == 0 || ticks == 0 {
			x.What = rock.Pressure
		}
		if x.What == rock.Pressure {
			x.Tick, x.Index = d.roll(0, ticks), d.roll(0, size(b)-1)
		} else {
			x.Tick, x.Index = d.roll(1, ticks), d.roll(0, len(b.Wells)-1)
		}
		lo := min(trueValue(b, m, r, x), api.MaxSum-100) + d.roll(-slip, slip)
		x.In = between(lo-d.roll(0, 5), lo+d.roll(0, 5))
		l = append(l, x)
	}
	return l
}

// TestStrikesCounted: P5.4, P5.9, any readings, as the chapter says them.
func TestStrikesCounted(t *testing.T) {
	d := &dice{seed: 54}
	met := map[string]int{}
	for range 500 {
		b := d.bed(4)
		models, plan := d.models(b, d.roll(1, 4)), d.plan(b, d.roll(0, 8), 1000)
		var runs []rock.Run
		ok := true
		for _, m := range models {
			r, works := trueRun(b, m, plan)
			runs, ok = append(runs, r), ok && works
		}
		if !ok {
			continue
		}
		chosen, slip := d.roll(0, len(models)-1), d.pick(0, 9)
		l := d.readings(b, models[chosen], runs[chosen], len(plan), slip)
		var wantLeft []int
		var wantStrikes []rock.Strike
	models:
		for i, m := range models {
			for j, x := range l {
				if n := trueValue(b, m, runs[i], x); n > x.In.Hi {
					wantStrikes = append(wantStrikes, rock.Strike{Model: i, Reading: j, Miss: n - x.In.Hi})
					continue models
				} else if n < x.In.Lo {
					wantStrikes = append(wantStrikes, rock.Strike{Model: i, Reading: j, Miss: n - x.In.Lo})
					continue models
				}
			}
			wantLeft = append(wantLeft, i)
		}
		left, strikes, e := rock.Strikes(b, models, plan, l)
		if !slices.Equal(left, wantLeft) || !slices.Equal(strikes, wantStrikes) || e != api.OK {
			t.Errorf("Strikes(%v, %v, %v, %v): %v, %v, %v", b, models, plan, l, left, strikes, e)
		}
		for _, x := range strikes {
			met["what "+string('0'+rune(l[x.Reading].What))]++
			if x.Reading > 0 {
				met["later"]++
			}
		}
		if len(left) > 0 && len(strikes) > 0 {
			met["some"]++
		}
		if slip == 0 && len(l) > 0 && slices.Contains(left, chosen) {
			met["kept"]++
		}
	}
	for _, what := range []string{"what 1", "what 2", "what 3", "what 4", "later", "some", "kept"} {
		if met[what] < 30 {
			t.Errorf("too few of a kind: %s, of %v", what, met)
		}
	}
}
