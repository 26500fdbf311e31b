package rock_test

import (
	"slices"
	"testing"

	"fumarole/api"
	"fumarole/field"
	"fumarole/rock"
	"fumarole/steam"
)

// TestPressures: P5.1, each of the three that the greatest one is taken of, and how they are rounded.
func TestPressures(t *testing.T) {
	// The block 0 is at the surface, and 1 below it; a kilogram boils from 419, 632 and 852 on.
	for what, c := range map[string]struct {
		stiff, lift, hold int
		state             rock.Block
		want              [2]int
	}{
		"at rest":                     {1000, 200, 8000, rock.Block{Mass: 8000}, [2]int{0, 200}},
		"one more":                    {1000, 200, 8000, rock.Block{Mass: 8001}, [2]int{0, 200}},
		"almost a kilopascal":         {1000, 200, 8000, rock.Block{Mass: 8007}, [2]int{0, 200}},
		"a kilopascal":                {1000, 200, 8000, rock.Block{Mass: 8008}, [2]int{1, 201}},
		"one less":                    {1000, 200, 8000, rock.Block{Mass: 7999}, [2]int{0, 199}},
		"a kilopascal less":           {1000, 200, 8000, rock.Block{Mass: 7992}, [2]int{0, 199}},
		"more than a kilopascal less": {1000, 200, 8000, rock.Block{Mass: 7991}, [2]int{0, 198}},
		"half of it":                  {1000, 200, 8000, rock.Block{Mass: 4000}, [2]int{0, 0}},
		"200 less":                    {1000, 200, 8000, rock.Block{Mass: 6400}, [2]int{0, 0}},
		"199 less":                    {1000, 200, 8000, rock.Block{Mass: 6408}, [2]int{0, 1}},
		"no lift":                     {1000, 0, 8000, rock.Block{Mass: 8800}, [2]int{100, 100}},
		"not divided first":           {1500, 0, 9000, rock.Block{Mass: 9100}, [2]int{16, 16}},
		"not stiff":                   {1, 3, 1000, rock.Block{Mass: 1999}, [2]int{0, 3}},
		"hardly less":                 {1, 200, 8000, rock.Block{Mass: 7999}, [2]int{0, 199}},
		"the greatest":                {api.MaxStiff, 1000, 1000, rock.Block{Mass: api.MaxMass}, [2]int{99900000, 99901000}},
		"the least":                   {api.MaxStiff, 1000, 1000, rock.Block{Mass: 1}, [2]int{0, 0}},
		"almost boiling":              {1000, 50, 8000, rock.Block{Mass: 10, Heat: 4189}, [2]int{0, 0}},
		"boiling":                     {1000, 50, 8000, rock.Block{Mass: 10, Heat: 4190}, [2]int{101, 101}},
		"almost at the next level":    {1000, 50, 8000, rock.Block{Mass: 10, Heat: 6319}, [2]int{101, 101}},
		"at the next level":           {1000, 50, 8000, rock.Block{Mass: 10, Heat: 6320}, [2]int{476, 476}},
		"almost at the last level":    {1000, 50, 8000, rock.Block{Mass: 10, Heat: 8519}, [2]int{476, 476}},
		"at the last level":           {1000, 50, 8000, rock.Block{Mass: 10, Heat: 8520}, [2]int{1555, 1555}},
		"only steam":                  {1000, 50, 8000, rock.Block{Mass: 10, Heat: api.MaxStore}, [2]int{1555, 1555}},
		"boiling, but not enough":     {1000, 50, 8000, rock.Block{Mass: 9000, Heat: 419 * 9000}, [2]int{125, 175}},
		"boiling, and enough above":   {1000, 50, 8000, rock.Block{Mass: 8400, Heat: 419 * 8400}, [2]int{101, 101}},
		"boiling, not enough below":   {1000, 52, 8000, rock.Block{Mass: 8400, Heat: 419 * 8400}, [2]int{101, 102}},
	} {
		b := bed(1, 1, 2)
		b.Stiff, b.Lift = c.stiff, c.lift
		m := even(b, "a", c.hold, 500, 300, 0)
		if l := pressures(t, b, m, rock.State{c.state, c.state}); !slices.Equal(l, c.want[:]) {
			t.Errorf("%s: %v", what, l)
		}
	}
}

// TestLayers: the pressure of each layer, and of blocks beside each other.
func TestLayers(t *testing.T) {
	b := bed(2, 2, 3)
	b.Lift, b.Stiff = 70, 100
	m := even(b, "a", 1000, 0, 0, 0)
	var s rock.State
	for block := range size(b) {
		s = append(s, rock.Block{Mass: 1000 + 10*block})
	}
	if l := pressures(t, b, m, s); !slices.Equal(l, []int{0, 1, 2, 3, 74, 75, 76, 77, 148, 149, 150, 151}) {
		t.Errorf("Pressures: %v", l)
	}
}

// TestColdTable: a level whose water has no heat boils always.
func TestColdTable(t *testing.T) {
	b := bed(1, 1, 1)
	b.Table = steam.Table{{T: 0, P: 7, Liquid: 0, Vapour: 2500}, {T: 1, P: 9, Liquid: 1, Vapour: 2500}}
	m := even(b, "a", 1000, 0, 0, 0)
	for heat, want := range map[int]int{0: 7, 999: 7, 1000: 9} {
		if l := pressures(t, b, m, rock.State{{Mass: 1000, Heat: heat}}); !slices.Equal(l, []int{want}) {
			t.Errorf("Pressures with the heat %d: %v", heat, l)
		}
	}
}

// cold gives a block without heat.
func cold(mass int) rock.Block { return rock.Block{Mass: mass} }

// TestFlow: P5.2, what goes over a link, whatever its direction is.
func TestFlow(t *testing.T) {
	// With the stiffness 1000 a block has a kilopascal for each 8 kg above 8000, with 100000 it has 25 for 2 kg.
	for what, c := range map[string]struct {
		stiff, one, other int // the stiffness, and how open both are
		from, to, moved   rock.Block
	}{
		"at rest":                  {1000, 1000, 1000, cold(8000), cold(8000), rock.Block{}},
		"open":                     {1000, 1000, 1000, cold(8800), cold(8000), cold(100)},
		"half open":                {1000, 500, 500, cold(8800), cold(8000), cold(50)},
		"upstream less open":       {1000, 300, 700, cold(8800), cold(8000), cold(30)},
		"upstream more open":       {1000, 700, 300, cold(8800), cold(8000), cold(30)},
		"upstream shut":            {1000, 0, 1000, cold(8800), cold(8000), rock.Block{}},
		"downstream shut":          {1000, 1000, 0, cold(8800), cold(8000), rock.Block{}},
		"rounded down":             {1000, 999, 1000, cold(8800), cold(8000), cold(99)},
		"not a kilogram":           {1000, 9, 9, cold(8800), cold(8000), rock.Block{}},
		"just a kilogram":          {1000, 10, 10, cold(8800), cold(8000), cold(1)},
		"both above":               {1000, 1000, 1000, cold(9600), cold(8800), cold(100)},
		"both below":               {1000, 1000, 1000, cold(7920), cold(400), rock.Block{}},
		"one below":                {1000, 1000, 1000, cold(8800), cold(7200), cold(100)},
		"the pressures rounded":    {1000, 1000, 1000, cold(8015), cold(8009), rock.Block{}},
		"a pressure rounded":       {1000, 1000, 1000, cold(8016), cold(8007), cold(2)},
		"less than an eighth":      {100000, 1000, 1000, cold(8080), cold(8000), cold(1000)},
		"just an eighth":           {100000, 1000, 1000, cold(8081), cold(8000), cold(1010)},
		"more than an eighth":      {100000, 1000, 1000, cold(8800), cold(8000), cold(1100)},
		"an eighth, rounded down":  {100000, 1000, 1000, cold(8807), cold(1), cold(1100)},
		"an eighth of seven":       {1000, 1000, 1000, rock.Block{Mass: 7, Heat: 9999, Mark: 9}, cold(8000), rock.Block{}},
		"an eighth of eight":       {1000, 1000, 1000, rock.Block{Mass: 8, Heat: 9999, Mark: 9}, cold(8000), rock.Block{Mass: 1, Heat: 1249, Mark: 1}},
		"an eighth of one":         {1000, 1000, 1000, rock.Block{Mass: 1, Heat: 9999, Mark: 9}, cold(1), rock.Block{}},
		"heat and mark rounded":    {1000, 1000, 1000, rock.Block{Mass: 8800, Heat: 1000, Mark: 175}, rock.Block{Mass: 8000, Heat: 7, Mark: 8}, rock.Block{Mass: 100, Heat: 11, Mark: 1}},
		"just another mark":        {1000, 1000, 1000, rock.Block{Mass: 8800, Heat: 1056, Mark: 176}, rock.Block{Mass: 8000}, rock.Block{Mass: 100, Heat: 12, Mark: 2}},
		"boiling":                  {1000, 1000, 1000, rock.Block{Mass: 8000, Heat: 419 * 8000}, cold(8000), rock.Block{Mass: 101, Heat: 419 * 101}},
		"boiling downstream":       {1000, 1000, 1000, rock.Block{Mass: 8000, Heat: 632 * 8000}, rock.Block{Mass: 10, Heat: 4190}, rock.Block{Mass: 375, Heat: 632 * 375}},
		"boiling where less is":    {1000, 1000, 1000, rock.Block{Mass: 80, Heat: 80 * 852}, cold(9600), rock.Block{Mass: 10, Heat: 8520}},
		"the greatest numbers":     {100000, 1000, 1000, rock.Block{Mass: api.MaxMass, Heat: api.MaxStore, Mark: api.MaxStain}, cold(1), rock.Block{Mass: 125000, Heat: 1250000000, Mark: 125000000000}},
		"the least upstream of it": {100000, 1, 1000, rock.Block{Mass: api.MaxMass, Heat: api.MaxStore, Mark: api.MaxStain}, cold(1), rock.Block{Mass: 12400, Heat: 124000000, Mark: 12400000000}},
	} {
		for _, sides := range [][3]int{{2, 1, 1}, {1, 2, 1}, {1, 1, 2}} {
			b := bed(sides[0], sides[1], sides[2])
			b.Stiff = c.stiff
			s := rock.State{c.from, c.to}
			want := rock.State{c.from, c.to}
			into(&want[0], -c.moved.Mass, -c.moved.Heat, -c.moved.Mark)
			into(&want[1], c.moved.Mass, c.moved.Heat, c.moved.Mark)
			opens := []int{c.one, c.other}
			for range 2 { // and with both blocks exchanged
				m := model("a", []int{8000, 8000}, opens, []int{5, 6}, []int{0, 0})
				if next, _ := tick(t, b, m, s); !slices.Equal(next, want) {
					t.Errorf("%s, %v, %v: %v, not %v", what, sides, s, next, want)
				}
				slices.Reverse(s)
				slices.Reverse(want)
				slices.Reverse(opens)
			}
		}
	}
}

// TestLift: P5.2, what goes up and down is moved by the drive, not by the pressure.
func TestLift(t *testing.T) {
	for what, c := range map[string]struct {
		up, down rock.Block
		want     int // what goes down
	}{
		"at rest":                           {cold(8000), cold(8000), 0},
		"more above":                        {cold(8800), cold(8000), 100},
		"more below":                        {cold(8000), cold(8800), -100},
		"less below":                        {cold(8000), cold(7200), 100},
		"less above":                        {cold(7200), cold(8000), 0},
		"just the lift":                     {cold(8000), cold(6400), 200},
		"more than the lift":                {cold(8000), cold(800), 200},
		"less on both sides":                {cold(800), cold(800), 100},
		"a kilogram less":                   {cold(8000), cold(7999), 1},
		"boiling above":                     {rock.Block{Mass: 8000, Heat: 419 * 8000}, cold(8000), 101},
		"boiling below, held by the lift":   {cold(8000), rock.Block{Mass: 8000, Heat: 419 * 8000}, 0},
		"boiling below, above the lift":     {cold(8000), rock.Block{Mass: 8000, Heat: 632 * 8000}, -276},
		"boiling below, where little is":    {cold(8000), rock.Block{Mass: 100, Heat: 419 * 100}, 99},
		"boiling below, where much is":      {cold(8000), rock.Block{Mass: 10400, Heat: 632 * 10400}, -300},
		"boiling above, and steam is below": {rock.Block{Mass: 8000, Heat: 632 * 8000}, rock.Block{Mass: 80, Heat: 632 * 80}, 200},
	} {
		b := bed(1, 1, 2)
		b.Lift = 200
		m := even(b, "a", 8000, 1000, 0, 0)
		s, _ := tick(t, b, m, rock.State{c.up, c.down})
		if down := s[1].Mass - c.down.Mass; down != min(c.want, c.up.Mass/8) || s[0].Mass+down != c.up.Mass {
			t.Errorf("%s: %v, not %d down", what, s, c.want)
		}
	}
}

// TestLinks: P5.2, from each block it flows to those next to it, and to no other.
func TestLinks(t *testing.T) {
	for _, sides := range [][3]int{{1, 1, 1}, {3, 3, 3}, {4, 2, 1}, {1, 4, 2}, {2, 1, 4}, {8, 8, 1}, {1, 8, 8}, {8, 1, 8}} {
		b := bed(sides[0], sides[1], sides[2])
		b.Lift = 300
		m := even(b, "a", 8000, 1000, 0, 0)
		for block := range size(b) {
			s := start(t, b, m)
			s[block].Mass = 8008
			next, _ := tick(t, b, m, s)
			for other := range next {
				got := next[other].Mass - s[other].Mass
				if other != block && (apart(b, block, other) == 1) != (got == 1) || got > 1 {
					t.Errorf("%v: from %d to %d: %d", sides, block, other, got)
				}
			}
		}
	}
}

// TestAtOnce: P5.2, what comes to a block in a tick goes on in the next one.
func TestAtOnce(t *testing.T) {
	for _, order := range [][3]int{{0, 1, 2}, {2, 1, 0}} {
		b := bed(3, 1, 1, rock.Bore{Block: order[2], Heat: 9, Mark: 9})
		m := even(b, "a", 8000, 1000, 0, 0)
		s := slices.Repeat(rock.State{{Mass: 8000}}, 3)
		s[order[0]] = rock.Block{Mass: 8880, Heat: 8880, Mark: 8880}
		next, y := tick(t, b, m, s, 100000)
		want := make(rock.State, 3)
		want[order[0]] = rock.Block{Mass: 8770, Heat: 8770, Mark: 8770}
		want[order[1]] = rock.Block{Mass: 8110, Heat: 110, Mark: 110}
		want[order[2]] = rock.Block{Mass: 7000}
		if !slices.Equal(next, want) || !slices.Equal(y, []rock.Yield{{Mass: 1000}}) {
			t.Errorf("%v: %v, %v", order, next, y)
		}
	}
}

// TestWells: P5.2, what wells take and give, beside each other.
func TestWells(t *testing.T) {
	b := bed(3, 1, 1, rock.Bore{Block: 2, Heat: 30, Mark: 7}, rock.Bore{Block: 0, Heat: 50, Mark: 11})
	b.Stiff = 1
	m := even(b, "a", 8000, 0, 0, 0)
	first := rock.State{{Mass: 807, Heat: 1000, Mark: 99}, {Mass: 900, Heat: 5}, {Mass: 16, Heat: 200, Mark: 16}}
	for what, c := range map[string]struct {
		rates []int
		want  rock.State
		y     []rock.Yield
	}{
		"nothing":            {[]int{0, 0}, first, []rock.Yield{{}, {}}},
		"one":                {[]int{1, 0}, rock.State{first[0], first[1], {Mass: 15, Heat: 188, Mark: 15}}, []rock.Yield{{Mass: 1, Heat: 12, Mark: 1}, {}}},
		"an eighth":          {[]int{2, 100}, rock.State{{Mass: 707, Heat: 877, Mark: 87}, first[1], {Mass: 14, Heat: 175, Mark: 14}}, []rock.Yield{{Mass: 2, Heat: 25, Mark: 2}, {Mass: 100, Heat: 123, Mark: 12}}},
		"more than there is": {[]int{3, 101}, rock.State{{Mass: 707, Heat: 877, Mark: 87}, first[1], {Mass: 14, Heat: 175, Mark: 14}}, []rock.Yield{{Mass: 2, Heat: 25, Mark: 2}, {Mass: 100, Heat: 123, Mark: 12}}},
		"the greatest rates": {[]int{100000, 100000}, rock.State{{Mass: 707, Heat: 877, Mark: 87}, first[1], {Mass: 14, Heat: 175, Mark: 14}}, []rock.Yield{{Mass: 2, Heat: 25, Mark: 2}, {Mass: 100, Heat: 123, Mark: 12}}},
		"given":              {[]int{-1, -1000}, rock.State{{Mass: 1807, Heat: 51000, Mark: 11099}, first[1], {Mass: 17, Heat: 230, Mark: 23}}, []rock.Yield{{}, {}}},
		"much given":         {[]int{0, -100000}, rock.State{{Mass: 100807, Heat: 5001000, Mark: 1100099}, first[1], first[2]}, []rock.Yield{{}, {}}},
		"taken and given":    {[]int{-2, 7}, rock.State{{Mass: 800, Heat: 992, Mark: 99}, first[1], {Mass: 18, Heat: 260, Mark: 30}}, []rock.Yield{{}, {Mass: 7, Heat: 8}}},
	} {
		if s, y := tick(t, b, m, first, c.rates...); !slices.Equal(s, c.want) || !slices.Equal(y, c.y) {
			t.Errorf("%s: %v, %v", what, s, y)
		}
	}
}

// TestFeeds: P5.2, each block gets its own feed, with the heat from below.
func TestFeeds(t *testing.T) {
	b := bed(2, 2, 1, rock.Bore{Block: 3, Heat: 77, Mark: 3})
	m := model("a", []int{8000, 8000, 8000, 8000}, make([]int, 4), []int{1, 2, 3, 4}, []int{0, 1, 1000, 5})
	s, y := tick(t, b, m, start(t, b, m), -10)
	if !slices.Equal(s, rock.State{{Mass: 8000, Heat: 8000}, {Mass: 8001, Heat: 16800}, {Mass: 9000, Heat: 824000}, {Mass: 8015, Heat: 36770, Mark: 30}}) || !slices.Equal(y, []rock.Yield{{}}) {
		t.Errorf("Tick: %v, %v", s, y)
	}
	s, y = tick(t, b, m, s, 8)
	if !slices.Equal(s, rock.State{{Mass: 8000, Heat: 8000}, {Mass: 8002, Heat: 17600}, {Mass: 10000, Heat: 1624000}, {Mass: 8012, Heat: 40734, Mark: 30}}) || !slices.Equal(y, []rock.Yield{{Mass: 8, Heat: 36}}) {
		t.Errorf("Tick after it: %v, %v", s, y)
	}
}

// TestTickFails: P5.2, a tick fails if a block has too much of anything when all has moved.
func TestTickFails(t *testing.T) {
	full := rock.Block{Mass: api.MaxMass, Heat: api.MaxStore, Mark: api.MaxStain}
	for what, c := range map[string]struct {
		before    rock.Block
		well      rock.Bore
		feed, way int
		want      api.Errno
	}{
		"full":                           {full, rock.Bore{Heat: 9, Mark: 9}, 0, 0, api.OK},
		"mass, just enough":              {rock.Block{Mass: api.MaxMass - 5}, rock.Bore{}, 0, -5, api.OK},
		"mass, one too much":             {rock.Block{Mass: api.MaxMass - 5}, rock.Bore{}, 0, -6, api.ErrFail},
		"mass, fed":                      {rock.Block{Mass: api.MaxMass - 1000}, rock.Bore{}, 1000, 0, api.OK},
		"mass, fed too much":             {rock.Block{Mass: api.MaxMass - 999}, rock.Bore{}, 1000, 0, api.ErrFail},
		"mass, fed and given":            {rock.Block{Mass: api.MaxMass - 1005}, rock.Bore{}, 1000, -5, api.OK},
		"mass, fed and given too much":   {rock.Block{Mass: api.MaxMass - 1005}, rock.Bore{}, 1000, -6, api.ErrFail},
		"mass, fed and taken":            {rock.Block{Mass: api.MaxMass}, rock.Bore{}, 1000, 1000, api.OK},
		"mass, fed, and not all taken":   {rock.Block{Mass: api.MaxMass}, rock.Bore{}, 1000, 999, api.ErrFail},
		"heat, just enough":              {rock.Block{Mass: 1, Heat: api.MaxStore - 21}, rock.Bore{Heat: 7}, 0, -3, api.OK},
		"heat, one too much":             {rock.Block{Mass: 1, Heat: api.MaxStore - 20}, rock.Bore{Heat: 7}, 0, -3, api.ErrFail},
		"heat, fed":                      {rock.Block{Mass: 1, Heat: api.MaxStore - 1600}, rock.Bore{}, 2, 0, api.OK},
		"heat, fed too much":             {rock.Block{Mass: 1, Heat: api.MaxStore - 1599}, rock.Bore{}, 2, 0, api.ErrFail},
		"heat, fed and taken":            {rock.Block{Mass: 8, Heat: api.MaxStore}, rock.Bore{}, 1000, 1, api.OK},
		"heat, given, though none there": {rock.Block{Mass: 1}, rock.Bore{Heat: api.MaxWarm}, 0, -api.MaxRate, api.OK},
		"mark, just enough":              {rock.Block{Mass: 1, Mark: api.MaxStain - 21}, rock.Bore{Mark: 7}, 0, -3, api.OK},
		"mark, one too much":             {rock.Block{Mass: 1, Mark: api.MaxStain - 20}, rock.Bore{Mark: 7}, 0, -3, api.ErrFail},
		"mark, full and taken":           {full, rock.Bore{Mark: 7}, 0, 9, api.OK},
		"mark, the greatest one given":   {rock.Block{Mass: 1, Mark: api.MaxStain - 100000000000}, rock.Bore{Mark: api.MaxMark}, 0, -api.MaxRate, api.OK},
		"mark, and one more":             {rock.Block{Mass: 1, Mark: api.MaxStain - 99999999999}, rock.Bore{Mark: api.MaxMark}, 0, -api.MaxRate, api.ErrFail},
	} {
		for _, block := range []int{0, 2} {
			b := bed(3, 1, 1, c.well)
			b.Wells[0].Block = block
			m := even(b, "a", 1000, 0, 0, 0)
			m.Values[9+block] = c.feed
			s := slices.Repeat(rock.State{cold(1000)}, 3)
			s[block] = c.before
			next, y, e := rock.Tick(b, m, s, []int{c.way})
			if alone(e, len(next) == 0 && len(y) == 0) != c.want {
				t.Errorf("%s in %d: %v, %v, %v", what, block, next, y, e)
			}
		}
	}
}

// TestFullLinks: P5.2, a block that is full may get as much as goes out of it in the same tick.
func TestFullLinks(t *testing.T) {
	b := bed(3, 1, 1)
	b.Stiff = 1 // a kilopascal for each 1000 kg
	m := even(b, "a", 1000, 1000, 0, 0)
	steam := rock.Block{Mass: 100, Heat: 85200} // an eighth of it goes to the full block, 12 kg
	for last, want := range map[int]api.Errno{api.MaxMass - 12000: api.OK, api.MaxMass - 11000: api.ErrFail} {
		s := rock.State{steam, cold(api.MaxMass), cold(last)}
		if next, _, e := rock.Tick(b, m, s, nil); e != want {
			t.Errorf("Tick of %v: %v, %v", s, next, e)
		}
	}
}

// TestTicksCounted: P5.2, P5.7, any ticks, as the chapter says them, and nothing is lost.
func TestTicksCounted(t *testing.T) {
	d := &dice{seed: 52}
	met := map[string]int{}
	for range 4000 {
		b := d.bed(5)
		m := d.model(b, "a")
		s, rates := d.state(b, m), d.rates(b, d.pick(10, 1000, api.MaxRate))
		if d.roll(0, 4) == 0 {
			s[d.roll(0, len(s)-1)].Mass = api.MaxMass - d.roll(0, 500)
		}
		if l := pressures(t, b, m, s); !slices.Equal(l, truePressures(b, m, s)) {
			t.Errorf("Pressures(%v, %v, %v): %v", b, m, s, l)
		}
		want, yields, ok := trueTick(b, m, s, rates)
		next, y, e := rock.Tick(b, m, s, rates)
		if !ok {
			met["fails"]++
			if alone(e, len(next) == 0 && len(y) == 0) != api.ErrFail {
				t.Errorf("Tick(%v, %v, %v, %v): %v, %v, %v", b, m, s, rates, next, y, e)
			}
			continue
		}
		if !slices.Equal(next, want) || !slices.Equal(y, yields) || e != api.OK {
			t.Errorf("Tick(%v, %v, %v, %v): %v, %v, %v", b, m, s, rates, next, y, e)
		}
		if came, went := comes(b, m, rates), sum(next); plus(sum(s), came) != plus(went, taken(y)) {
			t.Errorf("Tick(%v, %v, %v, %v): %v, and %v came", b, m, s, rates, next, came)
		}
		count(b, m, s, rates, met)
	}
	for _, what := range []string{"fails", "up", "down", "an eighth", "less", "nothing", "much taken", "taken", "given", "boils", "empty"} {
		if met[what] < 100 {
			t.Errorf("too few of a kind: %s, of %v", what, met)
		}
	}
}

func plus(x, y rock.Block) rock.Block {
	into(&x, y.Mass, y.Heat, y.Mark)
	return x
}

// comes gives what is fed and given in a tick.
func comes(b rock.Bed, m field.Model, rates []int) rock.Block {
	fed, given := fedAndGiven(b, m, [][]int{rates})
	return plus(fed, given)
}

// fedAndGiven gives what is fed, and what wells give, in all ticks.
func fedAndGiven(b rock.Bed, m field.Model, plan [][]int) (fed, given rock.Block) {
	n := size(b)
	for _, rates := range plan {
		for _, mass := range m.Values[3*n : 4*n] {
			into(&fed, mass, mass*b.Deep, 0)
		}
		for i, w := range b.Wells {
			if rates[i] < 0 {
				into(&given, -rates[i], -rates[i]*w.Heat, -rates[i]*w.Mark)
			}
		}
	}
	return fed, given
}

// taken gives what the wells take.
func taken(l []rock.Yield) rock.Block {
	var all rock.Block
	for _, y := range l {
		all = plus(all, rock.Block(y))
	}
	return all
}

// count counts of which kinds a tick is.
func count(b rock.Bed, m field.Model, s rock.State, rates []int, met map[string]int) {
	for one := range s {
		for other := range s {
			switch flow := trueFlow(b, m, s, one, other); {
			case flow > 0 && flow == s[one].Mass/8:
				met["an eighth"]++
			case flow > 0:
				met["less"]++
			case apart(b, one, other) == 1:
				met["nothing"]++
			}
			if trueFlow(b, m, s, one, other) > 0 && one < other {
				met["down"]++
			} else if trueFlow(b, m, s, one, other) > 0 {
				met["up"]++
			}
		}
		switch p := truePressure(b, m, s, one); {
		case slices.ContainsFunc(b.Table, func(r steam.Row) bool { return r.P == p }):
			met["boils"]++
		case p == 0:
			met["empty"]++
		}
	}
	for i, w := range b.Wells {
		switch {
		case rates[i] < 0:
			met["given"]++
		case rates[i] > s[w.Block].Mass/8:
			met["much taken"]++
		case rates[i] > 0:
			met["taken"]++
		}
	}
}

// TestGreatest: P5.2, P5.7, the greatest numbers in many blocks, and no number overflows.
func TestGreatest(t *testing.T) {
	b := bed(4, 4, 4)
	b.Stiff, b.Lift, b.Deep = api.MaxStiff, api.MaxLift, api.MaxWarm
	for i := range api.MaxBores {
		b.Wells = append(b.Wells, rock.Bore{Block: 9 * i, Heat: api.MaxWarm, Mark: api.MaxMark})
	}
	m := even(b, "a", 1000, 1000, api.MaxWarm, 1000)
	full := rock.Block{Mass: api.MaxMass, Heat: api.MaxStore, Mark: api.MaxStain}
	for odd := range 2 {
		var s rock.State
		for block := range size(b) {
			p := place(b, block)
			s = append(s, []rock.Block{full, cold(1)}[(p[0]+p[1]+p[2]+odd)%2])
		}
		rates := slices.Repeat([]int{api.MaxRate}, len(b.Wells))
		want, yields, ok := trueTick(b, m, s, rates)
		next, y := tick(t, b, m, s, rates...)
		if !ok || !slices.Equal(next, want) || !slices.Equal(y, yields) {
			t.Errorf("Tick: %v, %v", next, y)
		}
		if plus(sum(s), comes(b, m, rates)) != plus(sum(next), taken(y)) {
			t.Errorf("Tick: something is lost: %v", next)
		}
		for _, x := range next {
			if x.Mass < 1 || x.Heat < 0 || x.Mark < 0 {
				t.Errorf("Tick: %v", next)
			}
		}
	}
}
