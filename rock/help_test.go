package rock_test

import (
	"math"
	"slices"
	"strconv"
	"testing"

	"fumarole/api"
	"fumarole/field"
	"fumarole/rock"
	"fumarole/steam"
)

// The calls of the chapter, with their exact signatures.
var (
	_ func(rock.Bed) api.Errno                                                                                = rock.CheckBed
	_ func(rock.Bed, field.Model) (rock.State, api.Errno)                                                     = rock.Start
	_ func(rock.Bed, field.Model, rock.State) ([]int, api.Errno)                                              = rock.Pressures
	_ func(rock.Bed, field.Model, rock.State, []int) (rock.State, []rock.Yield, api.Errno)                    = rock.Tick
	_ func(rock.Bed, field.Model, [][]int) (rock.Run, api.Errno)                                              = rock.Play
	_ func(rock.Bed, field.Model, [][]int) (rock.Account, api.Errno)                                          = rock.Balance
	_ func(rock.Bed, []field.Model, [][]int, []rock.Reading) (left []int, strikes []rock.Strike, e api.Errno) = rock.Strikes
	_ func(rock.Bed, []field.Model, [][]int) ([]rock.Forecast, api.Errno)                                     = rock.Ahead
	_ func(b rock.Bed, models []field.Model, plan [][]int, well, least int) (first, last int, e api.Errno)    = rock.Decline
	_ func(b rock.Bed, models []field.Model, plan [][]int, well int) (first, last int, e api.Errno)           = rock.Arrival
	_ []rock.Block                                                                                            = rock.State{}
	_ struct{ Mass, Heat, Mark int }                                                                          = rock.Yield{}
	_ struct{ Lo, Hi int }                                                                                    = rock.Range{}
	_ [4]uint8                                                                                                = [...]uint8{rock.Pressure, rock.Mass, rock.Warmth, rock.Stain}
)

// farNumbers are numbers whose products, sums and differences overflow.
var farNumbers = []int{math.MinInt, math.MinInt + 1, -1 << 62, -1 << 42, 1 << 42, 1 << 62, math.MaxInt - 1, math.MaxInt}

// chapterTable is the table of the examples of chapter 1.
func chapterTable() steam.Table {
	return steam.Table{
		{T: 100, P: 101, Liquid: 419, Vapour: 2676, Silica: 150},
		{T: 150, P: 476, Liquid: 632, Vapour: 2746, Silica: 300},
		{T: 200, P: 1555, Liquid: 852, Vapour: 2793, Silica: 600},
	}
}

// chapterBed is the bed of the chapter's examples.
func chapterBed() rock.Bed { return bed(2, 1, 1, rock.Bore{Heat: 100, Mark: 5}) }

// chapterModel is the model of the chapter's examples.
func chapterModel() field.Model {
	return model("a", []int{8000, 8000}, []int{500, 400}, []int{400, 400}, []int{0, 10})
}

// bed gives a bed with so many blocks along each side.
func bed(x, y, z int, wells ...rock.Bore) rock.Bed {
	return rock.Bed{Field: field.Field{X: x, Y: y, Z: z, Kinds: 4}, Table: chapterTable(), Stiff: 1000, Deep: 800, Wells: wells}
}

// model gives a model with the numbers of each kind.
func model(name string, kinds ...[]int) field.Model {
	return field.Model{Name: name, Values: slices.Concat(kinds...)}
}

// even gives a model with the same numbers in all blocks.
func even(b rock.Bed, name string, hold, open, warm, feed int) field.Model {
	var kinds [][]int
	for kind := range b.Field.Kinds {
		kinds = append(kinds, slices.Repeat([]int{append([]int{hold, open, warm, feed}, 0, 0)[kind]}, size(b)))
	}
	return model(name, kinds...)
}

// named gives copies of the model with other names.
func named(m field.Model, count int) []field.Model {
	var l []field.Model
	for i := range count {
		l = append(l, field.Model{Name: "n" + strconv.Itoa(i), Values: slices.Clone(m.Values)})
	}
	return l
}

func size(b rock.Bed) int { return b.Field.X * b.Field.Y * b.Field.Z }

func between(lo, hi int) rock.Range { return rock.Range{Lo: lo, Hi: hi} }

func reading(tick int, what uint8, index, lo, hi int) rock.Reading {
	return rock.Reading{Tick: tick, What: what, Index: index, In: between(lo, hi)}
}

// dice gives numbers that are the same in each run.
type dice struct{ seed uint64 }

// roll gives a number from lo to hi.
func (d *dice) roll(lo, hi int) int {
	d.seed = d.seed*6364136223846793005 + 1442695040888963407
	return lo + int((d.seed>>20)%uint64(hi-lo+1))
}

// pick gives one of the numbers.
func (d *dice) pick(l ...int) int { return l[d.roll(0, len(l)-1)] }

// table gives a valid table.
func (d *dice) table() steam.Table {
	var t steam.Table
	r := steam.Row{T: d.roll(0, 9), P: d.roll(1, 400), Liquid: d.roll(0, 700), Silica: d.roll(0, 100)}
	for range d.roll(2, 6) {
		r.Vapour = r.Liquid + d.roll(1, 1500)
		t = append(t, r)
		r.T, r.P, r.Liquid = r.T+d.roll(1, 50), r.P+d.roll(1, 900), r.Liquid+d.roll(1, 350)
	}
	return t
}

// bed gives a valid bed with at most so many wells.
func (d *dice) bed(wells int) rock.Bed {
	b := rock.Bed{
		Field: field.Field{X: d.roll(1, 3), Y: d.roll(1, 3), Z: d.roll(1, 3), Kinds: d.roll(4, 6)},
		Table: d.table(),
		Stiff: d.pick(1, d.roll(1, 5000), d.roll(1, 5000), api.MaxStiff),
		Lift:  d.pick(0, d.roll(0, 300), api.MaxLift),
		Deep:  d.roll(0, api.MaxWarm),
	}
	for range d.roll(0, wells) {
		w := rock.Bore{Block: d.roll(0, size(b)-1), Heat: d.roll(0, api.MaxWarm), Mark: d.pick(0, d.roll(0, 9), d.roll(0, api.MaxMark))}
		if !slices.ContainsFunc(b.Wells, func(other rock.Bore) bool { return other.Block == w.Block }) {
			b.Wells = append(b.Wells, w)
		}
	}
	return b
}

// model gives a model that fits the bed.
func (d *dice) model(b rock.Bed, name string) field.Model {
	m := field.Model{Name: name}
	hold, warm := d.pick(1000, 9000, 100000), d.pick(300, 1000, api.MaxWarm)
	for kind := range b.Field.Kinds {
		for range size(b) {
			m.Values = append(m.Values, []int{
				d.roll(1000, hold), d.pick(0, d.roll(0, 1000), d.roll(0, 1000), 1000), d.roll(0, warm), d.pick(0, 0, d.roll(0, 1000)),
				d.roll(-api.MaxValue, api.MaxValue), d.roll(-api.MaxValue, api.MaxValue),
			}[kind])
		}
	}
	return m
}

// models gives so many models that fit the bed.
func (d *dice) models(b rock.Bed, count int) []field.Model {
	var l []field.Model
	for i := range count {
		l = append(l, d.model(b, "m"+strconv.Itoa(i)))
	}
	return l
}

// state gives a state of the bed, with blocks about as full as the model has them, or not.
func (d *dice) state(b rock.Bed, m field.Model) rock.State {
	var s rock.State
	for block := range size(b) {
		mass := m.Values[block]
		switch d.roll(0, 3) {
		case 0:
			mass = d.roll(1, 20)
		case 1:
			mass = d.roll(1, d.pick(200000, 200000, api.MaxMass))
		case 2:
			mass = d.roll(mass/2, mass+mass/2)
		}
		s = append(s, rock.Block{Mass: mass, Heat: mass*d.roll(0, 3000) + d.roll(0, mass), Mark: d.pick(0, d.roll(0, 99), d.roll(0, api.MaxStain/2))})
	}
	return s
}

// rates gives a rate for each well, at most so far from 0.
func (d *dice) rates(b rock.Bed, most int) []int {
	var l []int
	for range b.Wells {
		l = append(l, d.pick(0, d.roll(-most, most), d.roll(-most, most)))
	}
	return l
}

// plan gives a plan of so many ticks.
func (d *dice) plan(b rock.Bed, ticks, most int) [][]int {
	var l [][]int
	for range ticks {
		l = append(l, d.rates(b, most))
	}
	return l
}

// place gives where a block is, counted from the first one on.
func place(b rock.Bed, block int) [3]int {
	n := 0
	for z := range b.Field.Z {
		for y := range b.Field.Y {
			for x := range b.Field.X {
				if n == block {
					return [3]int{x, y, z}
				}
				n++
			}
		}
	}
	return [3]int{-1, -1, -1}
}

// apart gives how many links lead from one block to the other one.
func apart(b rock.Bed, one, other int) int {
	p, q, sum := place(b, one), place(b, other), 0
	for i := range p {
		sum += max(p[i]-q[i], q[i]-p[i])
	}
	return sum
}

// floor gives n divided by d, rounded towards minus infinity.
func floor(n, d int) int { return (n - (n%d+d)%d) / d }

// truePressure gives the pressure of a block as the chapter says it.
func truePressure(b rock.Bed, m field.Model, s rock.State, block int) int {
	hold, mass := m.Values[block], s[block].Mass
	p := max(0, floor(place(b, block)[2]*b.Lift*hold+b.Stiff*(mass-hold), hold))
	for _, row := range b.Table {
		if row.Liquid*mass <= s[block].Heat {
			p = max(p, row.P)
		}
	}
	return p
}

// out takes the share of so many kilograms of a block from what stays of it.
func out(x rock.Block, mass int, stays *rock.Block) rock.Block {
	moved := rock.Block{Mass: mass, Heat: x.Heat * mass / x.Mass, Mark: x.Mark * mass / x.Mass}
	stays.Mass, stays.Heat, stays.Mark = stays.Mass-moved.Mass, stays.Heat-moved.Heat, stays.Mark-moved.Mark
	return moved
}

func into(x *rock.Block, mass, heat, mark int) {
	x.Mass, x.Heat, x.Mark = x.Mass+mass, x.Heat+heat, x.Mark+mark
}

// trueFlow gives how many kilograms go from the one block to the other one; upstream is the one.
func trueFlow(b rock.Bed, m field.Model, s rock.State, one, other int) int {
	n := size(b)
	drop := truePressure(b, m, s, one) - place(b, one)[2]*b.Lift - truePressure(b, m, s, other) + place(b, other)[2]*b.Lift
	if apart(b, one, other) != 1 || drop <= 0 {
		return 0
	}
	return min(min(m.Values[n+one], m.Values[n+other])*drop/1000, s[one].Mass/8)
}

// trueTick gives what a tick does as the chapter says it, pair of blocks by pair of blocks, and whether it does not fail.
func trueTick(b rock.Bed, m field.Model, s rock.State, rates []int) (rock.State, []rock.Yield, bool) {
	n, next := size(b), slices.Clone(s)
	for one := range n {
		for other := range n {
			x := out(s[one], trueFlow(b, m, s, one, other), &next[one])
			into(&next[other], x.Mass, x.Heat, x.Mark)
		}
		into(&next[one], m.Values[3*n+one], m.Values[3*n+one]*b.Deep, 0)
	}
	yields := make([]rock.Yield, len(rates))
	for i, w := range b.Wells {
		if rates[i] > 0 {
			yields[i] = rock.Yield(out(s[w.Block], min(rates[i], s[w.Block].Mass/8), &next[w.Block]))
		} else {
			into(&next[w.Block], -rates[i], -rates[i]*w.Heat, -rates[i]*w.Mark)
		}
	}
	for _, x := range next {
		if x.Mass > api.MaxMass || x.Heat > api.MaxStore || x.Mark > api.MaxStain {
			return nil, nil, false
		}
	}
	return next, yields, true
}

// trueRun gives the run of a plan, tick by tick, and whether no tick fails.
func trueRun(b rock.Bed, m field.Model, plan [][]int) (rock.Run, bool) {
	n := size(b)
	var s rock.State
	for block := range n {
		s = append(s, rock.Block{Mass: m.Values[block], Heat: m.Values[block] * m.Values[2*n+block]})
	}
	r := rock.Run{States: []rock.State{s}}
	for _, rates := range plan {
		next, yields, ok := trueTick(b, m, s, rates)
		if !ok {
			return rock.Run{}, false
		}
		s = next
		r.States, r.Yields = append(r.States, s), append(r.Yields, yields)
	}
	return r, true
}

// truePressures gives the pressure of each block.
func truePressures(b rock.Bed, m field.Model, s rock.State) []int {
	var l []int
	for block := range s {
		l = append(l, truePressure(b, m, s, block))
	}
	return l
}

// sum gives the sums over all blocks.
func sum(s rock.State) rock.Block {
	var all rock.Block
	for _, x := range s {
		into(&all, x.Mass, x.Heat, x.Mark)
	}
	return all
}

func sameRun(x, y rock.Run) bool {
	return slices.EqualFunc(x.States, y.States, func(a, b rock.State) bool { return slices.Equal(a, b) }) &&
		slices.EqualFunc(x.Yields, y.Yields, func(a, b []rock.Yield) bool { return slices.Equal(a, b) })
}

func sameForecasts(x, y []rock.Forecast) bool {
	return slices.EqualFunc(x, y, func(a, b rock.Forecast) bool {
		return slices.Equal(a.Wells, b.Wells) && slices.Equal(a.Pressure, b.Pressure)
	})
}

func start(t *testing.T, b rock.Bed, m field.Model) rock.State {
	t.Helper()
	s, e := rock.Start(b, m)
	if e != api.OK || len(s) != size(b) {
		t.Fatalf("Start(%v, %v): %v, %v", b, m, s, e)
	}
	return s
}

func tick(t *testing.T, b rock.Bed, m field.Model, s rock.State, rates ...int) (rock.State, []rock.Yield) {
	t.Helper()
	next, y, e := rock.Tick(b, m, s, rates)
	if e != api.OK || len(next) != size(b) || len(y) != len(b.Wells) {
		t.Fatalf("Tick(%v, %v, %v, %v): %v, %v, %v", b, m, s, rates, next, y, e)
	}
	return next, y
}

func pressures(t *testing.T, b rock.Bed, m field.Model, s rock.State) []int {
	t.Helper()
	l, e := rock.Pressures(b, m, s)
	if e != api.OK || len(l) != size(b) {
		t.Fatalf("Pressures(%v, %v, %v): %v, %v", b, m, s, l, e)
	}
	return l
}

// play gives a run whose lists are as long as the plan says.
func play(t *testing.T, b rock.Bed, m field.Model, plan [][]int) rock.Run {
	t.Helper()
	r, e := rock.Play(b, m, plan)
	if e != api.OK || len(r.States) != len(plan)+1 || len(r.Yields) != len(plan) {
		t.Fatalf("Play(%v, %v, %v): %v, %v", b, m, plan, r, e)
	}
	for i := range plan {
		if len(r.States[i+1]) != size(b) || len(r.Yields[i]) != len(b.Wells) {
			t.Fatalf("Play(%v, %v, %v): %v", b, m, plan, r)
		}
	}
	return r
}

func ahead(t *testing.T, b rock.Bed, models []field.Model, plan [][]int) []rock.Forecast {
	t.Helper()
	l, e := rock.Ahead(b, models, plan)
	if e != api.OK || len(l) != len(plan) {
		t.Fatalf("Ahead(%v, %v, %v): %v, %v", b, models, plan, l, e)
	}
	for _, f := range l {
		if len(f.Wells) != len(b.Wells) || len(f.Pressure) != size(b) {
			t.Fatalf("Ahead(%v, %v, %v): %v", b, models, plan, f)
		}
	}
	return l
}
