package plant_test

import (
	"testing"

	"fumarole/api"
	"fumarole/plant"
	"fumarole/steam"
)

// badStreams are streams that are not valid.
func badStreams() []steam.Stream {
	l := []steam.Stream{
		stream(2, 8001, 0, 0), stream(2, -1, 0, 0),
		stream(2, 0, 20001, 0), stream(2, 0, -1, 0),
		stream(0, 1, 0, 0), stream(0, 0, 1, 0),
		stream(2, 0, 0, -1), stream(2, 0, 0, api.MaxGas+1),
		stream(-1, 0, 0, 0), stream(-1, -4000, -10000, 0), stream(api.MaxMass+1, 0, 0, 0),
	}
	for _, n := range farNumbers {
		l = append(l, stream(n, 0, 0, 0), stream(1, n, 0, 0), stream(1, 0, n, 0), stream(1, 0, 0, n))
	}
	return l
}

// TestStreams: the error of each call with a stream that is not valid.
func TestStreams(t *testing.T) {
	good, zero := stream(2, 1000, 5, 5), steam.Stream{}
	for _, s := range badStreams() {
		for _, u := range []plant.Unit{chapterUnit(), unit(0)} {
			if out, n, e := plant.Expand(u, s); out != zero || n != 0 || e != api.ErrArg {
				t.Errorf("Expand(%v): %v, %d, %v", s, out, n, e)
			}
		}
		for _, most := range []int{10, -1} {
			if out, n, e := plant.Condense(s, good, most); out != zero || n != 0 || e != api.ErrArg {
				t.Errorf("Condense of the steam %v: %v, %d, %v", s, out, n, e)
			}
			if out, n, e := plant.Condense(good, s, most); out != zero || n != 0 || e != api.ErrArg {
				t.Errorf("Condense with the water %v: %v, %d, %v", s, out, n, e)
			}
			if out, n, e := plant.Tower(s, most); out != zero || n != 0 || e != api.ErrArg {
				t.Errorf("Tower(%v): %v, %d, %v", s, out, n, e)
			}
			if out, n, m, e := plant.Run(plant.Cycle{Most: most}, s); out != zero || n != 0 || m != 0 || e != api.ErrArg {
				t.Errorf("Run(%v): %v, %d, %d, %v", s, out, n, m, e)
			}
		}
	}
}

// TestCondense: P7.2, at the edges of what can be mixed and vented.
func TestCondense(t *testing.T) {
	for name, c := range map[string]struct {
		hot, cold steam.Stream
		most      int
		out       steam.Stream
		vent      int
		e         api.Errno
	}{
		"nothing":              {stream(0, 0, 0, 0), stream(0, 0, 0, 0), 0, stream(0, 0, 0, 0), 0, api.OK},
		"no gas":               {stream(2, 5000, 1, 0), stream(3, 60, 20, 0), 0, stream(5, 5060, 21, 0), 0, api.OK},
		"gas of the steam":     {stream(2, 5000, 0, 4), stream(3, 60, 0, 0), 9, stream(5, 5060, 0, 0), 4, api.OK},
		"gas of the water":     {stream(2, 5000, 0, 0), stream(3, 60, 0, 4), 9, stream(5, 5060, 0, 0), 4, api.OK},
		"just not too much":    {stream(2, 0, 0, 4), stream(3, 0, 0, 5), 9, stream(5, 0, 0, 0), 9, api.OK},
		"too much gas":         {stream(2, 0, 0, 4), stream(3, 0, 0, 5), 8, steam.Stream{}, 0, api.ErrFull},
		"no gas allowed":       {stream(2, 0, 0, 1), stream(3, 0, 0, 0), 0, steam.Stream{}, 0, api.ErrFull},
		"gas alone":            {stream(0, 0, 0, 7), stream(0, 0, 0, 8), 15, stream(0, 0, 0, 0), 15, api.OK},
		"all the gas":          {stream(0, 0, 0, api.MaxGas/2), stream(0, 0, 0, api.MaxGas/2), api.MaxVent, stream(0, 0, 0, 0), api.MaxGas, api.OK},
		"a gram above":         {stream(0, 0, 0, api.MaxGas/2+1), stream(0, 0, 0, api.MaxGas/2), api.MaxVent, steam.Stream{}, 0, api.ErrLimit},
		"above, and no vent":   {stream(0, 0, 0, api.MaxGas), stream(0, 0, 0, 1), 0, steam.Stream{}, 0, api.ErrLimit},
		"all the mass":         {stream(400000, 7, 0, 0), stream(600000, 8, 9, 0), 0, stream(api.MaxMass, 15, 9, 0), 0, api.OK},
		"a kilogram above":     {stream(400001, 0, 0, 0), stream(600000, 0, 0, 0), 0, steam.Stream{}, 0, api.ErrLimit},
		"above, and much gas":  {stream(api.MaxMass, 0, 0, 5), stream(1, 0, 0, 5), 9, steam.Stream{}, 0, api.ErrLimit},
		"vents below 0":        {stream(1, 0, 0, 0), stream(1, 0, 0, 0), -1, steam.Stream{}, 0, api.ErrRange},
		"the greatest vent":    {stream(1, 0, 0, 1), stream(1, 0, 0, 1), api.MaxVent, stream(2, 0, 0, 0), 2, api.OK},
		"a greater vent":       {stream(1, 0, 0, 1), stream(1, 0, 0, 1), api.MaxVent + 1, steam.Stream{}, 0, api.ErrRange},
		"a vent before a mass": {stream(api.MaxMass, 0, 0, 0), stream(1, 0, 0, 0), -1, steam.Stream{}, 0, api.ErrRange},
		"as hot as can be":     {stream(2, 8000, 20000, 0), stream(3, 12000, 30000, 0), 0, stream(5, 20000, 50000, 0), 0, api.OK},
	} {
		if out, vent, e := plant.Condense(c.hot, c.cold, c.most); out != c.out || vent != c.vent || e != c.e {
			t.Errorf("Condense, %s: %v, %d, %v", name, out, vent, e)
		}
	}
	for _, most := range farNumbers {
		if out, vent, e := plant.Condense(stream(1, 0, 0, 1), stream(1, 0, 0, 1), most); out != (steam.Stream{}) || vent != 0 || e != api.ErrRange {
			t.Errorf("Condense with the vent %d: %v, %d, %v", most, out, vent, e)
		}
	}
}

// TestTower: P7.2, around the target.
func TestTower(t *testing.T) {
	for _, c := range []struct {
		in          steam.Stream
		target, air int
		e           api.Errno
	}{
		{stream(10, 900, 3, 4), 89, 10, api.OK},
		{stream(10, 900, 3, 4), 90, 0, api.OK},
		{stream(10, 901, 3, 4), 90, 1, api.OK},
		{stream(10, 900, 3, 4), 91, 0, api.OK},
		{stream(10, 900, 3, 4), 0, 900, api.OK},
		{stream(10, 0, 3, 4), 0, 0, api.OK},
		{stream(10, 40000, 0, 0), api.MaxEnthalpy, 0, api.OK},
		{stream(10, 40000, 0, 0), api.MaxEnthalpy - 1, 10, api.OK},
		{stream(10, 40000, 0, 0), api.MaxEnthalpy + 1, 0, api.ErrRange},
		{stream(10, 40000, 0, 0), -1, 0, api.ErrRange},
		{stream(0, 0, 0, 7), 50, 0, api.OK},
		{stream(api.MaxMass, api.MaxEnthalpy*api.MaxMass, 0, 0), 0, api.MaxEnthalpy * api.MaxMass, api.OK},
		{stream(api.MaxMass, 0, 0, 0), api.MaxEnthalpy, 0, api.OK},
	} {
		want := c.in
		want.Heat -= c.air
		if c.e != api.OK {
			want = steam.Stream{}
		}
		if s, air, e := plant.Tower(c.in, c.target); s != want || air != c.air || e != c.e {
			t.Errorf("Tower(%v, %d): %v, %d, %v", c.in, c.target, s, air, e)
		}
	}
	for _, target := range farNumbers {
		if s, air, e := plant.Tower(stream(10, 900, 0, 0), target); s != (steam.Stream{}) || air != 0 || e != api.ErrRange {
			t.Errorf("Tower with the target %d: %v, %d, %v", target, s, air, e)
		}
	}
}

// TestRun: P7.2, what a cycle takes, and how it is rounded.
func TestRun(t *testing.T) {
	in := stream(10, 2333, 6, 7)
	for _, c := range []struct {
		c           plant.Cycle
		taken, work int
	}{
		{plant.Cycle{Out: 200, Yield: 150, Most: 9999}, 333, 49},
		{plant.Cycle{Out: 200, Yield: 150, Most: 333}, 333, 49},
		{plant.Cycle{Out: 200, Yield: 150, Most: 332}, 332, 49},
		{plant.Cycle{Out: 200, Yield: 150, Most: 100}, 100, 15},
		{plant.Cycle{Out: 200, Yield: 150, Most: 0}, 0, 0},
		{plant.Cycle{Out: 233, Yield: 334, Most: 9999}, 3, 1},
		{plant.Cycle{Out: 233, Yield: 333, Most: 9999}, 3, 0},
		{plant.Cycle{Out: 234, Yield: 333, Most: 9999}, 0, 0},
		{plant.Cycle{Out: api.MaxEnthalpy, Yield: 333, Most: 9999}, 0, 0},
		{plant.Cycle{Out: 0, Yield: 1000, Most: api.MaxHeat}, 2333, 2333},
		{plant.Cycle{Out: 0, Yield: 999, Most: api.MaxHeat}, 2333, 2330},
		{plant.Cycle{Out: 0, Yield: 0, Most: api.MaxHeat}, 2333, 0},
		{plant.Cycle{Out: 100, Yield: 1, Most: 1000}, 1000, 1},
		{plant.Cycle{Out: 100, Yield: 1, Most: 999}, 999, 0},
	} {
		s, work, sink, e := plant.Run(c.c, in)
		if s != stream(10, 2333-c.taken, 6, 7) || work != c.work || sink != c.taken-c.work || e != api.OK {
			t.Errorf("Run(%v): %v, %d, %d, %v", c.c, s, work, sink, e)
		}
	}
	all := stream(api.MaxMass, api.MaxHeat, 0, 0)
	if s, work, sink, e := plant.Run(plant.Cycle{Yield: 999, Most: api.MaxHeat}, all); s != stream(api.MaxMass, 0, 0, 0) || work != 3996000000 || sink != 4000000 || e != api.OK {
		t.Errorf("Run of all that can be: %v, %d, %d, %v", s, work, sink, e)
	}
	if s, work, sink, e := plant.Run(plant.Cycle{Yield: 999, Most: 5}, stream(0, 0, 0, 3)); s != stream(0, 0, 0, 3) || work != 0 || sink != 0 || e != api.OK {
		t.Errorf("Run of gas: %v, %d, %d, %v", s, work, sink, e)
	}
}

// badCycles are cycles that are not valid.
func badCycles() []plant.Cycle {
	var l []plant.Cycle
	for _, n := range outside(0, api.MaxEnthalpy) {
		l = append(l, plant.Cycle{Out: n, Yield: 1, Most: 1})
	}
	for _, n := range outside(0, 1000) {
		l = append(l, plant.Cycle{Out: 1, Yield: n, Most: 1})
	}
	for _, n := range outside(0, api.MaxHeat) {
		l = append(l, plant.Cycle{Out: 1, Yield: 1, Most: n})
	}
	return l
}

// TestCycles: cycles that are not valid.
func TestCycles(t *testing.T) {
	for _, c := range badCycles() {
		if s, work, sink, e := plant.Run(c, stream(10, 2333, 0, 0)); s != (steam.Stream{}) || work != 0 || sink != 0 || e != api.ErrArg {
			t.Errorf("Run(%v): %v, %d, %d, %v", c, s, work, sink, e)
		}
	}
}

// TestMachinesOfAny: P7.2, P7.8, what leaves a machine, with what is taken, is what came into it.
func TestMachinesOfAny(t *testing.T) {
	d := &dice{seed: 728}
	met := map[api.Errno]int{}
	for range 5000 {
		hot, cold, most := d.stream(d.pick(9, 1000, 600000)), d.stream(d.pick(9, 1000, 600000)), d.pick(0, d.roll(0, 2000), api.MaxVent)
		both := add(hot, cold)
		s, vent, e := plant.Condense(hot, cold, most)
		met[e]++
		want := api.OK
		switch {
		case both.Mass > api.MaxMass || both.Gas > api.MaxGas:
			want = api.ErrLimit
		case both.Gas > most:
			want = api.ErrFull
		}
		if e != want || e == api.OK && (vent != both.Gas || s != stream(both.Mass, both.Heat, both.Silica, 0)) || e != api.OK && (vent != 0 || s != steam.Stream{}) {
			t.Errorf("Condense(%v, %v, %d): %v, %d, %v", hot, cold, most, s, vent, e)
		}
		target := d.pick(0, d.roll(0, 2000), d.roll(0, api.MaxEnthalpy))
		s, air, e := plant.Tower(hot, target)
		if s != stream(hot.Mass, min(hot.Heat, target*hot.Mass), hot.Silica, hot.Gas) || air != hot.Heat-s.Heat || e != api.OK {
			t.Errorf("Tower(%v, %d): %v, %d, %v", hot, target, s, air, e)
		}
		c := d.cycle()
		s, work, sink, e := plant.Run(c, cold)
		taken := cold.Heat - s.Heat
		if s != stream(cold.Mass, s.Heat, cold.Silica, cold.Gas) || work+sink != taken || e != api.OK {
			t.Errorf("Run(%v, %v): %v, %d, %d, %v", c, cold, s, work, sink, e)
		}
		if taken != 0 && taken != c.Most && s.Heat != c.Out*cold.Mass || taken < 0 || taken > c.Most || taken == 0 && c.Most > 0 && cold.Heat > c.Out*cold.Mass {
			t.Errorf("Run(%v, %v) takes %d", c, cold, taken)
		}
		if taken > 0 && s.Heat < c.Out*cold.Mass || work*1000 > taken*c.Yield || (work+1)*1000 <= taken*c.Yield {
			t.Errorf("Run(%v, %v) takes %d, and makes %d of it", c, cold, taken, work)
		}
	}
	if met[api.OK] < 500 || met[api.ErrLimit] < 50 || met[api.ErrFull] < 500 {
		t.Errorf("too few of a kind: %v", met)
	}
}
