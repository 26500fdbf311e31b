package rock_test

import (
	"slices"
	"testing"

	"fumarole/api"
	"fumarole/rock"
)

// TestPlay: P5.3, the states and the yields of a plan, and of none.
func TestPlay(t *testing.T) {
	b, m := chapterBed(), chapterModel()
	first := rock.State{{Mass: 8000, Heat: 3200000}, {Mass: 8000, Heat: 3200000}}
	if r := play(t, b, m, nil); !sameRun(r, rock.Run{States: []rock.State{first}}) {
		t.Errorf("Play of nothing: %v", r)
	}
	want := rock.Run{
		States: []rock.State{
			first,
			{{Mass: 8800, Heat: 3280000, Mark: 4000}, {Mass: 8010, Heat: 3208000}},
			{{Mass: 8681, Heat: 3235646, Mark: 3947}, {Mass: 8059, Heat: 3230536, Mark: 17}},
		},
		Yields: [][]rock.Yield{{{}}, {{Mass: 80, Heat: 29818, Mark: 36}}},
	}
	if r := play(t, b, m, [][]int{{-800}, {80}}); !sameRun(r, want) {
		t.Errorf("Play: %v", r)
	}
}

// TestBalance: P5.3, the sums of a run, each of them.
func TestBalance(t *testing.T) {
	b, m := chapterBed(), chapterModel()
	all := rock.Block{Mass: 16000, Heat: 6400000}
	if a, e := rock.Balance(b, m, nil); a != (rock.Account{Before: all, After: all}) || e != api.OK {
		t.Errorf("Balance of nothing: %v, %v", a, e)
	}
	want := rock.Account{
		Before: all,
		After:  rock.Block{Mass: 16740, Heat: 6466182, Mark: 3964},
		Fed:    rock.Block{Mass: 20, Heat: 16000},
		Given:  rock.Block{Mass: 800, Heat: 80000, Mark: 4000},
		Taken:  rock.Block{Mass: 80, Heat: 29818, Mark: 36},
	}
	if a, e := rock.Balance(b, m, [][]int{{-800}, {80}}); a != want || e != api.OK {
		t.Errorf("Balance: %v, %v", a, e)
	}
	// Two wells add up, and taken is what they yield, not what they are asked for.
	b = bed(3, 1, 1, rock.Bore{Block: 2, Heat: 3, Mark: 4}, rock.Bore{Heat: 5, Mark: 6})
	m = even(b, "a", 1000, 0, 2, 0)
	want = rock.Account{
		Before: rock.Block{Mass: 3000, Heat: 6000},
		After:  rock.Block{Mass: 3004, Heat: 6067, Mark: 178},
		Given:  rock.Block{Mass: 40, Heat: 140, Mark: 180},
		Taken:  rock.Block{Mass: 36, Heat: 73, Mark: 2},
	}
	if a, e := rock.Balance(b, m, [][]int{{-30, -10}, {1, 35}}); a != want || e != api.OK {
		t.Errorf("Balance of two wells: %v, %v", a, e)
	}
	want = rock.Account{Before: want.Before, After: rock.Block{Mass: 2750, Heat: 5500}, Taken: rock.Block{Mass: 250, Heat: 500}}
	if a, e := rock.Balance(b, m, [][]int{{api.MaxRate, api.MaxRate}}); a != want || e != api.OK {
		t.Errorf("Balance of eighths: %v, %v", a, e)
	}
}

// flood gives a plan in which all wells give much.
func flood(d *dice, b rock.Bed) [][]int {
	plan := make([][]int, 15)
	for i := range plan {
		for range b.Wells {
			plan[i] = append(plan[i], -d.roll(50000, api.MaxRate))
		}
	}
	return plan
}

// TestRunsCounted: P5.3, P5.7, P5.12, any runs, as the chapter says them, tick by tick.
func TestRunsCounted(t *testing.T) {
	d := &dice{seed: 53}
	fails := 0
	for range 600 {
		b := d.bed(5)
		m, plan := d.model(b, "a"), d.plan(b, d.roll(0, 15), d.pick(100, 3000, api.MaxRate))
		if d.roll(0, 4) == 0 {
			plan = flood(d, b)
		}
		want, ok := trueRun(b, m, plan)
		if !ok {
			fails++
			r, e := rock.Play(b, m, plan)
			if alone(e, len(r.States) == 0 && len(r.Yields) == 0) != api.ErrFail {
				t.Errorf("Play(%v, %v, %v): %v, %v", b, m, plan, r, e)
			}
			a, e := rock.Balance(b, m, plan)
			if alone(e, a == rock.Account{}) != api.ErrFail {
				t.Errorf("Balance(%v, %v, %v): %v, %v", b, m, plan, a, e)
			}
			continue
		}
		r := play(t, b, m, plan)
		if !sameRun(r, want) {
			t.Errorf("Play(%v, %v, %v): %v", b, m, plan, r)
		}
		fed, given := fedAndGiven(b, m, plan)
		account := rock.Account{Before: sum(want.States[0]), After: sum(want.States[len(plan)]), Fed: fed, Given: given, Taken: taken(slices.Concat(want.Yields...))}
		a, e := rock.Balance(b, m, plan)
		if a != account || e != api.OK || plus(plus(a.Before, a.Fed), a.Given) != plus(a.After, a.Taken) {
			t.Errorf("Balance(%v, %v, %v): %v, %v", b, m, plan, a, e)
		}
		cut := d.roll(0, len(plan))
		if first := play(t, b, m, plan[:cut]); !sameRun(first, rock.Run{States: r.States[:cut+1], Yields: r.Yields[:cut]}) {
			t.Errorf("Play(%v, %v, %v): %v", b, m, plan[:cut], first)
		}
		for i, rates := range plan {
			if s, y := tick(t, b, m, r.States[i], rates...); !slices.Equal(s, r.States[i+1]) || !slices.Equal(y, r.Yields[i]) {
				t.Errorf("Tick(%v, %v, %v, %v): %v, %v", b, m, r.States[i], rates, s, y)
			}
		}
	}
	if fails < 10 || fails > 500 {
		t.Errorf("too few of a kind: %d runs fail", fails)
	}
}

// TestAtRest: P5.8, what neither boils nor is fed stays as it is.
func TestAtRest(t *testing.T) {
	d := &dice{seed: 58}
	for range 300 {
		b := d.bed(5)
		if b.Table[0].Liquid == 0 {
			continue // all boils
		}
		m := d.model(b, "a")
		n := size(b)
		for block := range n {
			m.Values[2*n+block] = d.roll(0, b.Table[0].Liquid-1)
			m.Values[3*n+block] = 0
		}
		ticks := d.roll(1, 20)
		r := play(t, b, m, slices.Repeat([][]int{make([]int, len(b.Wells))}, ticks))
		for i, s := range r.States {
			if !slices.Equal(s, start(t, b, m)) {
				t.Errorf("Play(%v, %v) of nothing: the state %d is %v", b, m, i, s)
			}
		}
	}
	// What boils in one block, and what is fed, does not stay.
	b := bed(2, 1, 1)
	for what, m := range map[string][][]int{
		"boiling": {{8000, 8000}, {1000, 1000}, {418, 419}, {0, 0}},
		"fed":     {{8000, 8000}, {1000, 1000}, {418, 418}, {0, 1}},
	} {
		if r := play(t, b, model("a", m...), [][]int{{}}); slices.Equal(r.States[0], r.States[1]) {
			t.Errorf("%s: %v", what, r)
		}
	}
}

// TestMarks: P5.11, a mark needs a tick for each link.
func TestMarks(t *testing.T) {
	d := &dice{seed: 511}
	arrived := 0
	for range 400 {
		b := d.bed(5)
		if len(b.Wells) == 0 {
			continue
		}
		given, ticks := d.roll(0, 5), 16
		m, plan := d.model(b, "a"), make([][]int, ticks)
		for i := range plan {
			for range b.Wells {
				plan[i] = append(plan[i], d.roll(0, 500))
			}
			if i >= given {
				plan[i][0] = -d.roll(0, 900)
			}
		}
		plan[given][0], b.Wells[0].Mark = -3000, 1000000
		r, ok := trueRun(b, m, plan)
		if !ok {
			continue
		}
		from := b.Wells[0].Block
		for i, s := range play(t, b, m, plan).States {
			for block, x := range s {
				if x.Mark > 0 && i < given+1+apart(b, from, block) {
					t.Errorf("Play(%v, %v, %v): a mark is at %d after %d ticks", b, m, plan, block, i)
				}
			}
		}
		for well, w := range b.Wells {
			first, last, e := rock.Arrival(b, named(m, 1), plan, well)
			if first != last || first < given+1+apart(b, from, w.Block)+1 || e != api.OK {
				t.Errorf("Arrival(%v, %v, %v, %d): %d, %d, %v", b, m, plan, well, first, last, e)
			}
			if first == given+2+apart(b, from, w.Block) && first <= len(r.Yields) {
				arrived++
			}
		}
	}
	if arrived < 50 {
		t.Errorf("too few of a kind: %d arrive at once", arrived)
	}
}

// TestLongRun: P5.3, a run of all ticks in all blocks, twice.
func TestLongRun(t *testing.T) {
	b := bed(4, 4, 4, wells(api.MaxBores)...)
	b.Lift = 100
	d := &dice{seed: 530}
	m := d.model(b, "a")
	plan := d.plan(b, api.MaxRun, 1000)
	want, ok := trueRun(b, m, plan[:40])
	if !ok {
		t.Fatal("the run fails")
	}
	r := play(t, b, m, plan)
	if !sameRun(rock.Run{States: r.States[:41], Yields: r.Yields[:40]}, want) || !sameRun(r, play(t, b, m, plan)) {
		t.Error("Play: it is not the run")
	}
	a, e := rock.Balance(b, m, plan)
	if e != api.OK || a.After != sum(r.States[api.MaxRun]) || plus(plus(a.Before, a.Fed), a.Given) != plus(a.After, a.Taken) {
		t.Errorf("Balance: %v, %v", a, e)
	}
}
