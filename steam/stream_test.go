package steam_test

import (
	"slices"
	"testing"

	"fumarole/api"
	"fumarole/steam"
)

// TestCheckStreamValid: P1.1, streams at the edges of what is valid.
func TestCheckStreamValid(t *testing.T) {
	for _, s := range []steam.Stream{
		{},
		{Gas: api.MaxGas}, // gas without a mass
		{Mass: 1},
		{Mass: 1, Heat: api.MaxEnthalpy, Silica: api.MaxGrain, Gas: 1},
		{Mass: api.MaxMass, Heat: api.MaxEnthalpy * api.MaxMass, Silica: api.MaxGrain * api.MaxMass, Gas: api.MaxGas},
		chapterStream(),
	} {
		if e := steam.CheckStream(s); e != api.OK {
			t.Errorf("%v: %v", s, e)
		}
	}
}

// invalidStreams gives streams that are beyond what is valid, each by one number.
func invalidStreams() []steam.Stream {
	l := []steam.Stream{
		{Mass: -1},
		{Mass: api.MaxMass + 1},
		{Heat: 1},
		{Heat: -1},
		{Mass: 2, Heat: -1},
		{Mass: 2, Heat: 2*api.MaxEnthalpy + 1},
		{Silica: 1},
		{Silica: -1},
		{Mass: 2, Silica: -1},
		{Mass: 2, Silica: 2*api.MaxGrain + 1},
		{Gas: -1},
		{Mass: 2, Gas: api.MaxGas + 1},
		{Mass: -1, Heat: -api.MaxEnthalpy, Silica: -api.MaxGrain},
		{Mass: 1 << 60, Heat: 1, Silica: 1}, // MaxEnthalpy times Mass is beyond 64 bits
	}
	for _, n := range farNumbers {
		l = append(l, steam.Stream{Mass: n}, steam.Stream{Mass: 5, Heat: n}, steam.Stream{Mass: 5, Silica: n}, steam.Stream{Mass: 5, Gas: n}, steam.Stream{Mass: n, Heat: n, Silica: n, Gas: n})
	}
	return l
}

// TestCheckStreamInvalid: P1.1, and the same error from each call with streams.
func TestCheckStreamInvalid(t *testing.T) {
	good, zero := steam.Stream{Mass: 5, Heat: 100}, steam.Stream{}
	for _, s := range invalidStreams() {
		if e := steam.CheckStream(s); e != api.ErrArg {
			t.Errorf("CheckStream(%v): %v", s, e)
		}
		for _, l := range [][]steam.Stream{{s}, {good, s}, {s, good}, {good, s, good}} {
			if x, e := steam.Mix(l); x != zero || e != api.ErrArg {
				t.Errorf("Mix(%v): %v, %v", l, x, e)
			}
			if n, e := steam.Deepest(chapterTable(), l); n != 0 || e != api.ErrArg {
				t.Errorf("Deepest(%v): %v, %v", l, n, e)
			}
		}
		if l, lost, e := steam.Share(s, []int{1}); len(l) != 0 || lost != (steam.Loss{}) || e != api.ErrArg {
			t.Errorf("Share(%v): %v, %v, %v", s, l, lost, e)
		}
		if x, e := steam.Heated(s, 0); x != zero || e != api.ErrArg {
			t.Errorf("Heated(%v): %v, %v", s, x, e)
		}
		if a, b, e := steam.Exchange(s, good, 0); a != zero || b != zero || e != api.ErrArg {
			t.Errorf("Exchange from %v: %v, %v, %v", s, a, b, e)
		}
		if a, b, e := steam.Exchange(good, s, 0); a != zero || b != zero || e != api.ErrArg {
			t.Errorf("Exchange to %v: %v, %v, %v", s, a, b, e)
		}
		if p, e := steam.Flash(chapterTable(), 0, s); p != (steam.Parts{}) || e != api.ErrArg {
			t.Errorf("Flash(%v): %v, %v", s, p, e)
		}
		if l, e := steam.Train(chapterTable(), []int{2, 0}, s); len(l) != 0 || e != api.ErrArg {
			t.Errorf("Train(%v): %v, %v", s, l, e)
		}
	}
}

// TestMix: P1.2, of none, of one, of several.
func TestMix(t *testing.T) {
	a, b := chapterStream(), steam.Stream{Mass: 2, Heat: 30, Silica: 400, Gas: 5000}
	for _, c := range []struct {
		l    []steam.Stream
		want steam.Stream
	}{
		{nil, steam.Stream{}},
		{[]steam.Stream{}, steam.Stream{}},
		{[]steam.Stream{a}, a},
		{[]steam.Stream{b, b}, steam.Stream{Mass: 4, Heat: 60, Silica: 800, Gas: 10000}},
		{[]steam.Stream{a, {}, b}, steam.Stream{Mass: 1002, Heat: 852030, Silica: 250400, Gas: 5050}},
		{[]steam.Stream{{Gas: 7}, {Mass: 1}}, steam.Stream{Mass: 1, Gas: 7}},
	} {
		if s, e := steam.Mix(c.l); s != c.want || e != api.OK {
			t.Errorf("Mix(%v): %v, %v", c.l, s, e)
		}
	}
}

// TestMixLimits: how many streams, and how much mass and gas.
func TestMixLimits(t *testing.T) {
	one := steam.Stream{Mass: 1, Heat: 2, Silica: 3, Gas: 4}
	if s, e := steam.Mix(slices.Repeat([]steam.Stream{one}, api.MaxStreams)); s != (steam.Stream{Mass: 40, Heat: 80, Silica: 120, Gas: 160}) || e != api.OK {
		t.Errorf("MaxStreams streams: %v, %v", s, e)
	}
	if s, e := steam.Mix(slices.Repeat([]steam.Stream{one}, api.MaxStreams+1)); s != (steam.Stream{}) || e != api.ErrLimit {
		t.Errorf("a stream more: %v, %v", s, e)
	}
	full := steam.Stream{Mass: api.MaxMass - 1, Heat: api.MaxEnthalpy * (api.MaxMass - 1), Silica: api.MaxGrain * (api.MaxMass - 1), Gas: api.MaxGas - 1}
	for _, c := range []struct {
		more steam.Stream
		want api.Errno
	}{
		{steam.Stream{Mass: 1, Heat: api.MaxEnthalpy, Silica: api.MaxGrain, Gas: 1}, api.OK},
		{steam.Stream{Mass: 2}, api.ErrLimit},
		{steam.Stream{Gas: 2}, api.ErrLimit},
		{steam.Stream{Mass: 2, Gas: 2}, api.ErrLimit},
		{full, api.ErrLimit},
	} {
		want := add(full, c.more)
		if c.want != api.OK {
			want = steam.Stream{}
		}
		if s, e := steam.Mix([]steam.Stream{full, c.more}); s != want || e != c.want {
			t.Errorf("Mix with %v: %v, %v", c.more, s, e)
		}
	}
}

// TestHeated: P1.3, more and less, to both ends.
func TestHeated(t *testing.T) {
	s := steam.Stream{Mass: 2, Heat: 1000, Silica: 3, Gas: 4}
	for _, c := range []struct {
		kilojoules, want int
		e                api.Errno
	}{
		{0, 1000, api.OK},
		{1, 1001, api.OK},
		{-1, 999, api.OK},
		{-1000, 0, api.OK},
		{-1001, 0, api.ErrRange},
		{7000, 8000, api.OK},
		{7001, 0, api.ErrRange},
	} {
		want := steam.Stream{}
		if c.e == api.OK {
			want = steam.Stream{Mass: 2, Heat: c.want, Silica: 3, Gas: 4}
		}
		if x, e := steam.Heated(s, c.kilojoules); x != want || e != c.e {
			t.Errorf("Heated by %d: %v, %v", c.kilojoules, x, e)
		}
	}
	for _, n := range farNumbers {
		if x, e := steam.Heated(s, n); x != (steam.Stream{}) || e != api.ErrRange {
			t.Errorf("Heated by %d: %v, %v", n, x, e)
		}
	}
	nothing := steam.Stream{Gas: 9}
	if x, e := steam.Heated(nothing, 0); x != nothing || e != api.OK {
		t.Errorf("Heated, without mass: %v, %v", x, e)
	}
	for _, n := range []int{-1, 1} {
		if x, e := steam.Heated(nothing, n); x != (steam.Stream{}) || e != api.ErrRange {
			t.Errorf("Heated by %d, without mass: %v, %v", n, x, e)
		}
	}
}

// TestExchange: P1.3, as much as the one has, and as much as the other one takes.
func TestExchange(t *testing.T) {
	from, to := steam.Stream{Mass: 3, Heat: 500, Silica: 1, Gas: 2}, steam.Stream{Mass: 1, Heat: 3400, Silica: 7, Gas: 8}
	for _, c := range []struct {
		from, to   steam.Stream
		kilojoules int
		e          api.Errno
	}{
		{from, to, 0, api.OK},
		{from, to, 1, api.OK},
		{from, to, 500, api.OK},
		{from, to, 501, api.ErrRange},
		{from, to, -1, api.ErrRange},
		{to, from, 3400, api.OK},
		{to, from, 3401, api.ErrRange},
		{steam.Stream{Mass: 3, Heat: 700}, to, 600, api.OK},
		{steam.Stream{Mass: 3, Heat: 700}, to, 601, api.ErrRange},
		{steam.Stream{}, steam.Stream{Gas: 3}, 0, api.OK},
		{from, steam.Stream{}, 1, api.ErrRange},
		{steam.Stream{}, to, 1, api.ErrRange},
		{from, from, 20, api.OK},
	} {
		a, b := c.from, c.to
		a.Heat -= c.kilojoules
		b.Heat += c.kilojoules
		if c.e != api.OK {
			a, b = steam.Stream{}, steam.Stream{}
		}
		x, y, e := steam.Exchange(c.from, c.to, c.kilojoules)
		if x != a || y != b || e != c.e {
			t.Errorf("Exchange(%v, %v, %d): %v, %v, %v", c.from, c.to, c.kilojoules, x, y, e)
		}
		if e == api.OK && add(x, y) != add(c.from, c.to) { // P1.7
			t.Errorf("Exchange(%v, %v, %d): %v and %v are not what they were", c.from, c.to, c.kilojoules, x, y)
		}
	}
	for _, n := range farNumbers {
		if x, y, e := steam.Exchange(from, to, n); x != (steam.Stream{}) || y != (steam.Stream{}) || e != api.ErrRange {
			t.Errorf("Exchange of %d: %v, %v, %v", n, x, y, e)
		}
	}
}

// TestMixAndExchangeLoseNothing: P1.7, of any streams.
func TestMixAndExchangeLoseNothing(t *testing.T) {
	d := &dice{state: 7}
	for range 500 {
		l := make([]steam.Stream, d.roll(0, api.MaxStreams))
		for i := range l {
			l[i] = d.stream(api.MaxMass / api.MaxStreams)
		}
		if s, e := steam.Mix(l); s != add(l...) || e != api.OK {
			t.Errorf("Mix(%v): %v, %v", l, s, e)
		}
		from, to := d.stream(api.MaxMass), d.stream(api.MaxMass)
		k := d.roll(0, min(from.Heat, api.MaxEnthalpy*to.Mass-to.Heat))
		a, b, e := steam.Exchange(from, to, k)
		if add(a, b) != add(from, to) || from.Heat-a.Heat != k || e != api.OK {
			t.Errorf("Exchange(%v, %v, %d): %v, %v, %v", from, to, k, a, b, e)
		}
		if x, e := steam.Heated(from, -k); x != a || e != api.OK {
			t.Errorf("Heated(%v, %d): %v, %v", from, -k, x, e)
		}
	}
}
