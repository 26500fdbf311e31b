package pipe_test

import (
	"slices"
	"strconv"
	"testing"

	"fumarole/api"
	"fumarole/pipe"
)

// places are the elements of wide, by their kinds.
var places = [...]int{pipe.Well: 1, pipe.Join: 2, pipe.Line: 3, pipe.Separator: 4, pipe.Split: 5, pipe.Valve: 6}

// wide gives a net with all kinds of elements, after a change.
func wide(change func(*pipe.Net)) pipe.Net {
	n := net(
		well(2), well(2), join(2, ports(1, 0, 0, 0)...), line(2, 5, 2, 0), separator(1, 100, 3, 0),
		split(1, 4, 1, 1, 2, 0), valve(1, 5, 1), valve(0, 4, 0),
	)
	change(&n)
	return n
}

// changed gives wide with a change of an element of the kind.
func changed(kind int, change func(*pipe.Element)) pipe.Net {
	return wide(func(n *pipe.Net) { change(&n.Elements[places[kind]]) })
}

// row gives a net of a well and so many elements behind each other.
func row(elements int) pipe.Net {
	l := []pipe.Element{well(1)}
	for i := 1; i < elements; i++ {
		l = append(l, valve(1, i-1, 0))
	}
	return net(l...)
}

// shortTable gives a net with a table of two rows.
func shortTable() pipe.Net {
	n := row(3)
	n.Table = n.Table[:2]
	return n
}

// many gives a net of a split with so many parts, and a join of so many of them.
func many(parts, joined int) pipe.Net {
	var from []pipe.Port
	for i := range joined {
		from = append(from, pipe.Port{Element: 1, Outlet: i})
	}
	return net(well(0), split(0, 0, 0, slices.Repeat([]int{1}, parts)...), join(0, from...))
}

// edgeNets are nets that are just valid.
func edgeNets() map[string]pipe.Net {
	all := map[string]pipe.Net{
		"one well":             net(well(0)),
		"only wells":           net(slices.Repeat([]pipe.Element{well(2)}, api.MaxElements)...),
		"many elements":        row(api.MaxElements),
		"all kinds":            wide(func(*pipe.Net) {}),
		"many joined":          many(api.MaxJoins, api.MaxJoins),
		"one joined":           many(1, 1),
		"many parts":           many(api.MaxShares, 1),
		"a part of nothing":    changed(5, func(x *pipe.Element) { x.Weights = []int{0, 1} }),
		"the greatest weights": changed(5, func(x *pipe.Element) { x.Weights = []int{api.MaxShare, api.MaxShare} }),
		"backwards":            net(well(2), well(2), well(2), join(2, ports(2, 0, 0, 0, 1, 0)...)),
		"water, then steam":    net(well(2), separator(2, 0, 0, 0), valve(2, 1, 1), valve(2, 1, 0)),
		"far apart":            net(well(2), well(1), valve(1, 1, 0), valve(2, 0, 0)),
		"down to the last":     net(well(2), valve(2, 0, 0), valve(0, 1, 0)),
		"two levels at a join": net(well(2), well(1), join(1, ports(0, 0, 1, 0)...)),
		"empty Weights":        changed(6, func(x *pipe.Element) { x.Weights = []int{} }),
		"an empty From":        changed(1, func(x *pipe.Element) { x.From = []pipe.Port{} }),
		"a short table":        shortTable(),
	}
	for kind := 1; kind <= 6; kind++ {
		add := func(what string, change func(*pipe.Element)) {
			all[what+" of "+strconv.Itoa(kind)] = changed(kind, change)
		}
		most := []int{3: api.MaxCooling, 4: 1000, 6: 0}[kind]
		add("the least Amount", func(x *pipe.Element) { x.Amount = 0 })
		add("the greatest Amount", func(x *pipe.Element) { x.Amount = most })
		add("the greatest Wide", func(x *pipe.Element) { x.Wide = api.MaxMass })
		add("the least Narrow", func(x *pipe.Element) { x.Narrow = 1 })
		add("the greatest Narrow", func(x *pipe.Element) { x.Narrow = api.MaxNarrow })
	}
	return all
}

// badNets are nets that are not valid.
func badNets() map[string]pipe.Net {
	table := func(change func(*pipe.Net)) pipe.Net { return wide(change) }
	all := map[string]pipe.Net{
		"nothing":                {},
		"no elements":            net(),
		"too many elements":      row(api.MaxElements + 1),
		"far too many elements":  {Table: chapterTable(), Elements: make([]pipe.Element, 100000)},
		"too many wells":         net(slices.Repeat([]pipe.Element{well(2)}, api.MaxElements+1)...),
		"an element of nothing":  {Table: chapterTable(), Elements: make([]pipe.Element, 1)},
		"no table":               table(func(n *pipe.Net) { n.Table = nil }),
		"a table of one row":     {Table: chapterTable()[:1], Elements: net(well(0)).Elements},
		"a table that falls":     table(func(n *pipe.Net) { slices.Reverse(n.Table) }),
		"a table without vapour": table(func(n *pipe.Net) { n.Table[2].Vapour = 0 }),
		"a table too short":      table(func(n *pipe.Net) { n.Table = n.Table[:2] }),
		"too many joined":        many(api.MaxJoins+1, api.MaxJoins+1),
		"none joined":            many(1, 0),
		"too many parts":         many(api.MaxShares+1, 1),
		"no parts":               net(well(0), split(0, 0, 0)),
		"parts of nothing":       net(well(0), split(0, 0, 0, 0, 0)),
		"a weight below 0":       net(well(0), split(0, 0, 0, 1, -1, 1)),
		"a weight too great":     net(well(0), split(0, 0, 0, 1, api.MaxShare+1)),
		"a port joined twice":    net(well(2), join(2, ports(0, 0, 0, 0)...)),
		"twice, far apart":       net(well(2), well(2), join(2, ports(0, 0, 1, 0)...), valve(2, 2, 0), valve(2, 0, 0)),
		"water taken twice":      net(well(2), separator(2, 0, 0, 0), valve(2, 1, 1), valve(2, 1, 1)),
		"a part taken twice":     net(well(2), split(2, 0, 0, 1, 1), join(2, ports(1, 0, 1, 1)...), valve(2, 1, 0)),
		"up at the first port":   net(well(1), well(2), join(2, ports(0, 0, 1, 0)...)),
		"up at the last port":    net(well(1), well(2), join(2, ports(1, 0, 0, 0)...)),
		"from itself":            net(well(2), valve(2, 1, 0)),
		"from itself, first":     net(valve(2, 0, 0)),
		"from a later one":       net(well(2), valve(2, 2, 0), well(2)),
		"from none":              net(well(2), valve(2, 2, 0)),
		"in a ring":              net(well(2), valve(2, 2, 0), valve(2, 1, 0)),
	}
	for kind := 1; kind <= 6; kind++ {
		addBad(all, kind)
	}
	for kind := range 256 {
		if kind < 1 || kind > 6 {
			all["the kind "+strconv.Itoa(kind)] = net(well(2), pipe.Element{Kind: uint8(kind), Level: 2, From: ports(0, 0)})
			all["only the kind "+strconv.Itoa(kind)] = net(pipe.Element{Kind: uint8(kind), Level: 2})
		}
	}
	return all
}

// addBad adds nets with an element of the kind that is not valid.
func addBad(all map[string]pipe.Net, kind int) {
	add := func(what string, n int, change func(*pipe.Element)) {
		all[what+" of "+strconv.Itoa(kind)+" "+strconv.Itoa(n)] = changed(kind, change)
	}
	greatest := []int{3: api.MaxCooling, 4: 1000, 6: 0}[kind]
	for _, n := range append([]int{-1, greatest + 1}, farNumbers...) {
		add("Amount", n, func(x *pipe.Element) { x.Amount = n })
	}
	for _, n := range append([]int{-1, api.MaxMass + 1}, farNumbers...) {
		add("Wide", n, func(x *pipe.Element) { x.Wide = n })
	}
	for _, n := range append([]int{-1, 0, api.MaxNarrow + 1}, farNumbers...) {
		add("Narrow", n, func(x *pipe.Element) { x.Narrow = n })
	}
	for _, n := range append([]int{-1, 3}, farNumbers...) {
		add("Level", n, func(x *pipe.Element) { x.Level = n })
	}
	if kind != 5 {
		add("Weights", 1, func(x *pipe.Element) { x.Weights = []int{1} })
		add("Weights", 0, func(x *pipe.Element) { x.Weights = []int{0} })
	}
	if kind == 1 {
		add("a From", 1, func(x *pipe.Element) { x.From = ports(0, 0) })
		return
	}
	add("no From", 0, func(x *pipe.Element) { x.From = nil })
	for _, n := range append([]int{-1, places[kind], places[kind] + 1, 8}, farNumbers...) {
		add("the element of a port", n, func(x *pipe.Element) { x.From[0].Element = n })
	}
	for _, n := range append([]int{-1, 3}, farNumbers...) {
		add("the outlet of a port", n, func(x *pipe.Element) { x.From[0].Outlet = n })
	}
	if kind != 2 {
		all["a second From of "+strconv.Itoa(kind)] = wide(func(n *pipe.Net) {
			n.Elements = slices.Insert(n.Elements, 0, sized(well(2), 1, 1))
			for i := range n.Elements {
				for j := range n.Elements[i].From {
					n.Elements[i].From[j].Element++
				}
			}
			x := &n.Elements[places[kind]+1]
			x.From = append(x.From, pipe.Port{})
		})
	}
}

// TestNets: P6.1, a net that is not valid is the first error of each call.
func TestNets(t *testing.T) {
	for what, n := range edgeNets() {
		for name, c := range calls() {
			if e := c.call(goodArgs(n)); e != api.OK {
				t.Errorf("%s, %s: %v", name, what, e)
			}
		}
	}
	for what, n := range badNets() {
		for name, c := range calls() {
			if e := c.call(goodArgs(n)); e != api.ErrArg {
				t.Errorf("%s, %s: %v", name, what, e)
			}
			if e := c.call(args{net: n}); e != api.ErrArg {
				t.Errorf("%s, %s, and nothing else: %v", name, what, e)
			}
		}
	}
}

// TestOutlets: P6.1, each kind has its outlets, and no more.
func TestOutlets(t *testing.T) {
	for kind, count := range []int{1: 1, 2: 1, 3: 1, 4: 2, 5: 3, 6: 1} {
		if kind == 0 {
			continue
		}
		for outlet := range 5 {
			n := wide(func(n *pipe.Net) {
				n.Elements = append(n.Elements[:places[kind]+1], sized(valve(0, places[kind], outlet), 1000, 1))
			})
			want := api.OK
			if outlet >= count {
				want = api.ErrArg
			}
			if e := pipe.CheckNet(n); e != want {
				t.Errorf("the outlet %d of the kind %d: %v", outlet, kind, e)
			}
		}
	}
}

// TestAnyNets: P6.1, any nets are valid, and not if a level is above the one before it, or a port is taken twice.
func TestAnyNets(t *testing.T) {
	d := &dice{seed: 61}
	for range 2000 {
		n := d.net(shape{elements: api.MaxElements, separators: api.MaxElements, tight: true})
		if e := pipe.CheckNet(n); e != api.OK {
			t.Fatalf("CheckNet(%v): %v", n, e)
		}
		i := d.roll(0, len(n.Elements)-1)
		if len(n.Elements[i].From) == 0 {
			continue
		}
		p := n.Elements[i].From[d.roll(0, len(n.Elements[i].From)-1)]
		m := clone(n)
		m.Elements[i].Level = n.Elements[p.Element].Level + 1
		if e := pipe.CheckNet(m); e != api.ErrArg {
			t.Errorf("CheckNet(%v), %d above %d: %v", m, i, p.Element, e)
		}
		m = clone(n)
		m.Elements = append(m.Elements, sized(pipe.Element{Kind: pipe.Valve, From: []pipe.Port{p}}, 1, 1))
		if e := pipe.CheckNet(m); e != api.ErrArg {
			t.Errorf("CheckNet(%v), %v twice: %v", m, p, e)
		}
	}
}

// TestEnds: P6.1, the open ends, by element and outlet.
func TestEnds(t *testing.T) {
	for what, c := range map[string]struct {
		net  pipe.Net
		want []pipe.Port
	}{
		"one well":       {net(well(0)), ports(0, 0)},
		"two wells":      {net(well(0), well(1)), ports(0, 0, 1, 0)},
		"all kinds":      {wide(func(*pipe.Net) {}), ports(5, 0, 5, 2, 6, 0, 7, 0)},
		"steam is taken": {net(well(2), separator(2, 0, 0, 0), valve(2, 1, 0)), ports(1, 1, 2, 0)},
		"water is taken": {net(well(2), separator(2, 0, 0, 0), valve(2, 1, 1)), ports(1, 0, 2, 0)},
		"a join":         {net(well(2), well(1), well(2), join(2, ports(2, 0, 0, 0)...)), ports(1, 0, 3, 0)},
		"a row":          {row(api.MaxElements), ports(15, 0)},
	} {
		if l := ends(t, c.net); !slices.Equal(l, c.want) {
			t.Errorf("Ends, %s: %v", what, l)
		}
	}
	d := &dice{seed: 611}
	for range 500 {
		n := d.net(shape{elements: api.MaxElements, separators: api.MaxElements, tight: true})
		if l := ends(t, n); !slices.Equal(l, trueEnds(n)) {
			t.Errorf("Ends(%v): %v", n, l)
		}
	}
}

// TestWidths: P6.1, what has settled narrows, by whole numbers, down to 0.
func TestWidths(t *testing.T) {
	for _, c := range []struct{ wide, narrow, deposit, want int }{
		{1000, 10, 0, 1000}, {1000, 10, 9, 1000}, {1000, 10, 10, 999}, {1000, 10, 19, 999}, {1000, 10, 20, 998},
		{1000, 10, 9989, 2}, {1000, 10, 9990, 1}, {1000, 10, 9999, 1}, {1000, 10, 10000, 0}, {1000, 10, 10010, 0}, {1000, 10, 1000000, 0},
		{0, 1, 0, 0}, {0, 1, api.MaxDeposit, 0}, {0, api.MaxNarrow, 1, 0}, {5, 1, 5, 0}, {5, 1, 4, 1},
		{api.MaxMass, 1, api.MaxDeposit, 0}, {api.MaxMass, api.MaxNarrow, api.MaxDeposit, api.MaxMass - 1000}, {api.MaxMass, 1000000, api.MaxDeposit, 0},
	} {
		for kind := 1; kind <= 6; kind++ {
			n := wide(func(n *pipe.Net) { n.Elements[places[kind]] = sized(n.Elements[places[kind]], c.wide, c.narrow) })
			state, want := zeros(n), slices.Repeat([]int{api.MaxMass}, len(n.Elements))
			state[places[kind]], want[places[kind]] = c.deposit, c.want
			if l, e := pipe.Widths(n, state); !slices.Equal(l, want) || e != api.OK {
				t.Errorf("Widths(%v, %v): %v, %v", n, state, l, e)
			}
		}
	}
}
