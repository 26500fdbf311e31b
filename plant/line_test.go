package plant_test

import (
	"strconv"
	"testing"

	"fumarole/api"
	"fumarole/plant"
	"fumarole/steam"
)

// brine is the stream of the examples of chapter 1: at the level 0 of their table it makes 191 kg of steam with 511116 kJ.
func brine() steam.Stream { return stream(1000, 852000, 250000, 50) }

func water() steam.Stream { return stream(5000, 420000, 7, 3) }

// goodLine gives a line for the brine and the water.
func goodLine() plant.Line {
	return plant.Line{
		Table: chapterTable(), Unit: unit(1, 100, 500, 91, 300), Most: 53, Target: 100,
		Cycle: plant.Cycle{Out: 300, Yield: 120, Most: 90000},
	}
}

// settled tells if the line has another account, or an error.
func settled(t *testing.T, what string, l plant.Line, brine, cold steam.Stream, want plant.Account) {
	t.Helper()
	if a, e := plant.Settle(l, brine, cold); a != want || e != api.OK {
		t.Errorf("Settle, %s: %v, %v", what, a, e)
	}
}

// TestSettle: P7.3, lines whose machines have work to do, and idle ones.
func TestSettle(t *testing.T) {
	l := goodLine()
	want := plant.Account{
		Turbine: 77300, Vent: 53, Air: 334716, Work: 10800, Sink: 79200, Scale: 128650,
		Hot: stream(5191, 519100, 7, 0), Brine: stream(809, 250884, 121350, 0),
	}
	settled(t, "all at work", l, brine(), water(), want)
	l.Most, l.Unit = api.MaxVent, unit(5, 100, 500, 200, 300)
	settled(t, "with room", l, brine(), water(), want)
	l.Target, l.Cycle.Out = 165, 422
	idle := plant.Account{
		Turbine: 77300, Vent: 53, Scale: 128650,
		Hot: stream(5191, 853816, 7, 0), Brine: stream(809, 340884, 121350, 0),
	}
	settled(t, "nothing to cool", l, brine(), water(), idle)
	l.Level = 1 // 104 kg of steam with 285584 kJ, and 896 kg of water with 566416
	settled(t, "at another level", l, brine(), water(), plant.Account{
		Turbine: 51200, Vent: 53, Work: 10800, Sink: 79200, Scale: 0,
		Hot: stream(5104, 654384, 7, 0), Brine: stream(896, 476416, 250000, 0),
	})
	l.Level = 2
	settled(t, "at a level where nothing boils", l, brine(), water(), plant.Account{
		Vent: 3, Work: 10800, Sink: 79200,
		Hot: stream(5000, 420000, 7, 0), Brine: stream(1000, 762000, 250000, 50),
	})
	settled(t, "only steam", goodLine(), stream(10, 30000, 70, 8), water(), plant.Account{
		Turbine: 5000, Vent: 11, Scale: 70,
		Hot: stream(5010, 445000, 7, 0),
	})
	settled(t, "only steam, without water", goodLine(), stream(10, 30000, 70, 8), steam.Stream{}, plant.Account{
		Turbine: 5000, Vent: 8, Air: 24000, Scale: 70,
		Hot: stream(10, 1000, 0, 0),
	})
	settled(t, "nothing", goodLine(), steam.Stream{}, steam.Stream{}, plant.Account{})
	settled(t, "only water", goodLine(), steam.Stream{}, stream(10, 1500, 4, 2), plant.Account{Vent: 2, Air: 500, Hot: stream(10, 1000, 4, 0)})
	settled(t, "gas with the brine", goodLine(), stream(0, 0, 0, 60), steam.Stream{}, plant.Account{Brine: stream(0, 0, 0, 60)})
}

// lowTable gives a table whose steam has little heat.
func lowTable() steam.Table {
	return steam.Table{{T: 1, P: 1, Liquid: 0, Vapour: 100}, {T: 2, P: 2, Liquid: 400, Vapour: 500}}
}

// TestSettleErrors: P7.3, the errors of the machines, in the order in which the machines are tried.
func TestSettleErrors(t *testing.T) {
	narrow, greedy := unit(1, 100, 500, 90, 300), unit(0, 191, 1000)
	much := stream(999900, 0, 0, 0)
	for name, c := range map[string]struct {
		change      func(*plant.Line)
		brine, cold steam.Stream
		want        api.Errno
	}{
		"too little room":             {func(l *plant.Line) { l.Unit = narrow }, brine(), water(), api.ErrRange},
		"too little heat":             {func(l *plant.Line) { l.Table, l.Unit = lowTable(), greedy }, stream(1000, 5000, 0, 0), water(), api.ErrFail},
		"too much mass":               {func(l *plant.Line) {}, brine(), much, api.ErrLimit},
		"too much gas":                {func(l *plant.Line) { l.Most = 52 }, brine(), water(), api.ErrFull},
		"no vent":                     {func(l *plant.Line) { l.Most = 0 }, stream(5, 0, 0, 0), water(), api.ErrFull},
		"far too much gas":            {func(l *plant.Line) { l.Most = api.MaxVent }, brine(), stream(5, 0, 0, api.MaxGas), api.ErrLimit},
		"room before mass":            {func(l *plant.Line) { l.Unit = narrow }, brine(), much, api.ErrRange},
		"room before gas":             {func(l *plant.Line) { l.Unit, l.Most = narrow, 0 }, brine(), water(), api.ErrRange},
		"room before heat":            {func(l *plant.Line) { l.Table, l.Unit = lowTable(), unit(0, 49, 1000) }, stream(1000, 5000, 0, 0), water(), api.ErrRange},
		"heat before mass":            {func(l *plant.Line) { l.Table, l.Unit = lowTable(), greedy }, stream(1000, 5000, 0, 0), much, api.ErrFail},
		"heat before gas":             {func(l *plant.Line) { l.Table, l.Unit, l.Most = lowTable(), greedy, 0 }, stream(1000, 5000, 0, 9), water(), api.ErrFail},
		"mass before gas":             {func(l *plant.Line) { l.Most = 0 }, brine(), much, api.ErrLimit},
		"more mass than may be mixed": {func(l *plant.Line) {}, brine(), stream(999810, 0, 0, 0), api.ErrLimit},
		"as much as may be mixed":     {func(l *plant.Line) {}, brine(), stream(999809, 0, 0, 3), api.OK},
		"all gas that may be vented":  {func(l *plant.Line) { l.Most = api.MaxVent }, brine(), stream(5, 0, 0, api.MaxGas-50), api.OK},
	} {
		l := goodLine()
		c.change(&l)
		a, e := plant.Settle(l, c.brine, c.cold)
		if e != c.want || e != api.OK && a != (plant.Account{}) {
			t.Errorf("Settle, %s: %v, %v", name, a, e)
		}
	}
}

// badLines are lines that are not valid.
func badLines() map[string]plant.Line {
	all := map[string]plant.Line{}
	add := func(what string, n int, change func(*plant.Line)) {
		l := goodLine()
		change(&l)
		all[what+" "+strconv.Itoa(n)] = l
	}
	add("no table", 0, func(l *plant.Line) { l.Table = nil })
	add("a short table", 0, func(l *plant.Line) { l.Table = l.Table[:1] })
	add("a wrong row", 0, func(l *plant.Line) { l.Table[2].P = 0 })
	for _, n := range outside(0, 2) {
		add("level", n, func(l *plant.Line) { l.Level = n })
	}
	for _, n := range outside(0, api.MaxVent) {
		add("vent", n, func(l *plant.Line) { l.Most = n })
	}
	for _, n := range outside(0, api.MaxEnthalpy) {
		add("target", n, func(l *plant.Line) { l.Target = n })
	}
	for i, c := range badCycles() {
		add("cycle", i, func(l *plant.Line) { l.Cycle = c })
	}
	for what, u := range badUnits() {
		add("unit "+what, 0, func(l *plant.Line) { l.Unit = u })
	}
	return all
}

// TestSettleArguments: lines, brine and water that are not valid; the machines are not tried then.
func TestSettleArguments(t *testing.T) {
	refused := func(what string, l plant.Line, brine, cold steam.Stream) {
		t.Helper()
		if a, e := plant.Settle(l, brine, cold); a != (plant.Account{}) || e != api.ErrArg {
			t.Errorf("Settle, %s: %v, %v", what, a, e)
		}
	}
	for what, l := range badLines() {
		refused(what, l, brine(), water())
		refused(what+", and nothing", l, steam.Stream{}, steam.Stream{})
		refused(what+", and too much", l, stream(api.MaxMass, api.MaxHeat, 0, api.MaxGas), stream(api.MaxMass, 0, 0, api.MaxGas))
	}
	failing := goodLine()
	failing.Unit = unit(0, 1, 1)
	for _, s := range badStreams() {
		for _, l := range []plant.Line{goodLine(), failing} {
			refused("brine", l, s, water())
			refused("cold water", l, brine(), s)
		}
	}
	for _, n := range []int{0, 1, 2} {
		l := goodLine()
		l.Level, l.Target, l.Most, l.Cycle = n, api.MaxEnthalpy, api.MaxVent, plant.Cycle{Out: api.MaxEnthalpy, Yield: 1000, Most: api.MaxHeat}
		if _, e := plant.Settle(l, brine(), water()); e != api.OK {
			t.Errorf("Settle with the greatest numbers at %d: %v", n, e)
		}
		l.Target, l.Most, l.Cycle = 0, 0, plant.Cycle{}
		if a, e := plant.Settle(l, stream(1000, 852000, 0, 0), stream(9, 8, 7, 0)); e != api.OK || a.Hot.Heat != 0 || a.Work != 0 || a.Sink != 0 {
			t.Errorf("Settle with the least numbers at %d: %v, %v", n, a, e)
		}
	}
}

// trueAccount gives the account of a line as the chapter says it.
func trueAccount(l plant.Line, brine, cold steam.Stream) (plant.Account, api.Errno) {
	p, _ := steam.Flash(l.Table, l.Level, brine)
	if p.Steam.Mass > capacity(l.Unit) {
		return plant.Account{}, api.ErrRange
	}
	a := plant.Account{Turbine: trueWork(l.Unit, p.Steam.Mass), Scale: p.Scale, Brine: p.Water}
	if p.Steam.Heat < a.Turbine {
		return plant.Account{}, api.ErrFail
	}
	a.Hot = add(p.Steam, cold)
	a.Hot.Heat -= a.Turbine
	if a.Hot.Mass > api.MaxMass || a.Hot.Gas > api.MaxGas {
		return plant.Account{}, api.ErrLimit
	}
	if a.Hot.Gas > l.Most {
		return plant.Account{}, api.ErrFull
	}
	a.Vent, a.Hot.Gas = a.Hot.Gas, 0
	if n := a.Hot.Heat - l.Target*a.Hot.Mass; n > 0 {
		a.Air = n
	}
	a.Hot.Heat -= a.Air
	taken := min(p.Water.Heat-l.Cycle.Out*p.Water.Mass, l.Cycle.Most)
	if taken < 0 {
		taken = 0
	}
	a.Work = taken * l.Cycle.Yield / 1000
	a.Sink = taken - a.Work
	a.Brine.Heat -= taken
	return a, api.OK
}

// TestSettleAny: P7.3, P7.8, any lines: all that comes into them is in their accounts.
func TestSettleAny(t *testing.T) {
	d := &dice{seed: 73}
	met := map[api.Errno]int{}
	for range 20000 {
		l, in, cold := d.line(), d.stream(d.pick(20, 3000, api.MaxMass)), d.stream(d.pick(20, 3000, api.MaxMass))
		a, e := plant.Settle(l, in, cold)
		met[e]++
		if want, f := trueAccount(l, in, cold); a != want || e != f {
			t.Fatalf("Settle(%v, %v, %v): %v, %v, not %v, %v", l, in, cold, a, e, want, f)
		}
		if e != api.OK {
			continue
		}
		out, both := add(a.Hot, a.Brine), add(in, cold)
		out = add(out, stream(0, a.Turbine+a.Air+a.Work+a.Sink, a.Scale, a.Vent))
		if out != both {
			t.Errorf("Settle(%v, %v, %v): %v of %v", l, in, cold, out, both)
		}
	}
	for _, e := range []api.Errno{api.OK, api.ErrRange, api.ErrFail, api.ErrLimit, api.ErrFull} {
		if met[e] < 20 {
			t.Errorf("too few of a kind: %v", met)
		}
	}
}
