package rock_test

import (
	"slices"
	"strconv"
	"testing"

	"fumarole/api"
	"fumarole/field"
	"fumarole/rock"
)

// wells gives so many wells, at the blocks from 0 on.
func wells(count int) []rock.Bore {
	var l []rock.Bore
	for i := range count {
		l = append(l, rock.Bore{Block: i, Heat: 10 * i, Mark: i})
	}
	return l
}

// with gives a bed of 3 by 2 by 2 blocks after a change.
func with(change func(*rock.Bed)) rock.Bed {
	b := bed(3, 2, 2, rock.Bore{Block: 4}, rock.Bore{Block: 7, Heat: 5, Mark: 6})
	change(&b)
	return b
}

// edgeBeds are beds that are just valid.
func edgeBeds() map[string]rock.Bed {
	all := map[string]rock.Bed{
		"one block":            bed(1, 1, 1),
		"its only well":        bed(1, 1, 1, rock.Bore{}),
		"many blocks":          bed(8, 8, 1, rock.Bore{Block: 63}),
		"many in a cube":       bed(4, 4, 4, rock.Bore{Block: 63}, rock.Bore{}),
		"many kinds":           with(func(b *rock.Bed) { b.Field.Kinds = api.MaxKinds }),
		"five kinds":           with(func(b *rock.Bed) { b.Field.Kinds = 5 }),
		"the least stiffness":  with(func(b *rock.Bed) { b.Stiff = 1 }),
		"the most stiffness":   with(func(b *rock.Bed) { b.Stiff = api.MaxStiff }),
		"no lift":              with(func(b *rock.Bed) { b.Lift = 0 }),
		"the most lift":        with(func(b *rock.Bed) { b.Lift = api.MaxLift }),
		"cold below":           with(func(b *rock.Bed) { b.Deep = 0 }),
		"hot below":            with(func(b *rock.Bed) { b.Deep = api.MaxWarm }),
		"no wells":             with(func(b *rock.Bed) { b.Wells = nil }),
		"many wells":           with(func(b *rock.Bed) { b.Wells = wells(api.MaxBores) }),
		"wells in a row, back": with(func(b *rock.Bed) { b.Wells = wells(5); slices.Reverse(b.Wells) }),
		"the last block":       with(func(b *rock.Bed) { b.Wells[0].Block = 11 }),
		"a hot well":           with(func(b *rock.Bed) { b.Wells[1].Heat = api.MaxWarm }),
		"a well of marks":      with(func(b *rock.Bed) { b.Wells[1].Mark = api.MaxMark }),
		"wells alike":          with(func(b *rock.Bed) { b.Wells = []rock.Bore{{Heat: 3, Mark: 4}, {Block: 1, Heat: 3, Mark: 4}} }),
		"a short table":        with(func(b *rock.Bed) { b.Table = b.Table[:2] }),
	}
	return all
}

// badBeds are beds that are not valid.
func badBeds() map[string]rock.Bed {
	all := map[string]rock.Bed{
		"nothing":                {},
		"no table":               with(func(b *rock.Bed) { b.Table = nil }),
		"a table of one row":     with(func(b *rock.Bed) { b.Table = b.Table[:1] }),
		"a table that falls":     with(func(b *rock.Bed) { slices.Reverse(b.Table) }),
		"a table without vapour": with(func(b *rock.Bed) { b.Table[2].Vapour = 0 }),
		"a table that stays":     with(func(b *rock.Bed) { b.Table[2].P = b.Table[1].P }),
		"too many blocks":        bed(8, 8, 2),
		"a side too long":        bed(9, 1, 1),
		"three kinds":            with(func(b *rock.Bed) { b.Field.Kinds = 3 }),
		"seven kinds":            with(func(b *rock.Bed) { b.Field.Kinds = api.MaxKinds + 1 }),
		"too many wells":         with(func(b *rock.Bed) { b.Wells = wells(api.MaxBores + 1) }),
		"far too many wells":     with(func(b *rock.Bed) { b.Wells = make([]rock.Bore, 100000) }),
		"two in the first block": with(func(b *rock.Bed) { b.Wells = []rock.Bore{{}, {Heat: 1, Mark: 1}} }),
		"the last two in one":    with(func(b *rock.Bed) { b.Wells = append(wells(4), rock.Bore{Block: 3}) }),
		"first and last in one":  with(func(b *rock.Bed) { b.Wells = append(wells(5), rock.Bore{Block: 0, Heat: 7}) }),
	}
	add := func(what string, n int, change func(*rock.Bed)) { all[what+" "+strconv.Itoa(n)] = with(change) }
	for _, n := range append([]int{-1, 0}, farNumbers...) {
		add("X", n, func(b *rock.Bed) { b.Field.X = n })
		add("Y", n, func(b *rock.Bed) { b.Field.Y = n })
		add("Z", n, func(b *rock.Bed) { b.Field.Z = n })
		add("kinds", n, func(b *rock.Bed) { b.Field.Kinds = n })
	}
	for _, n := range append([]int{-1, 0, api.MaxStiff + 1}, farNumbers...) {
		add("stiff", n, func(b *rock.Bed) { b.Stiff = n })
	}
	for _, n := range append([]int{-1, api.MaxLift + 1}, farNumbers...) {
		add("lift", n, func(b *rock.Bed) { b.Lift = n })
	}
	for _, n := range append([]int{-1, api.MaxWarm + 1}, farNumbers...) {
		add("deep", n, func(b *rock.Bed) { b.Deep = n })
		add("the heat of the first well", n, func(b *rock.Bed) { b.Wells[0].Heat = n })
		add("the heat of the last well", n, func(b *rock.Bed) { b.Wells[1].Heat = n })
	}
	for _, n := range append([]int{-1, api.MaxMark + 1}, farNumbers...) {
		add("the mark of the first well", n, func(b *rock.Bed) { b.Wells[0].Mark = n })
		add("the mark of the last well", n, func(b *rock.Bed) { b.Wells[1].Mark = n })
	}
	for _, n := range append([]int{-1, 12, 13}, farNumbers...) {
		add("the block of the first well", n, func(b *rock.Bed) { b.Wells[0].Block = n })
		add("the block of the last well", n, func(b *rock.Bed) { b.Wells[1].Block = n })
	}
	return all
}

// TestBeds: P5.1, a bed that is not valid is the first error of each call.
func TestBeds(t *testing.T) {
	for what, b := range edgeBeds() {
		if e := rock.CheckBed(b); e != api.OK {
			t.Errorf("CheckBed, %s: %v", what, e)
		}
		x := goodArgs(b)
		for name, c := range calls() {
			if e := c.call(x); e != api.OK && (len(b.Wells) > 0 || !c.well) {
				t.Errorf("%s, %s: %v", name, what, e)
			}
		}
	}
	for what, b := range badBeds() {
		if e := rock.CheckBed(b); e != api.ErrArg {
			t.Errorf("CheckBed, %s: %v", what, e)
		}
		x := goodArgs(with(func(*rock.Bed) {}))
		x.bed = b
		for name, c := range calls() {
			if e := c.call(x); e != api.ErrArg {
				t.Errorf("%s, %s: %v", name, what, e)
			}
			if e := c.call(args{bed: b, state: rock.State{{}}, well: -1, least: -1}); e != api.ErrArg {
				t.Errorf("%s, %s, and all else is wrong: %v", name, what, e)
			}
		}
	}
}

// lists gives the model behind good ones, ahead of one, and alone.
func lists(b rock.Bed, m field.Model) [][]field.Model {
	good := named(even(b, "a", 5000, 100, 200, 0), 3)
	return [][]field.Model{{m}, append(slices.Clone(good), m), append([]field.Model{m}, good...)}
}

// TestModels: P5.1, which models fit a bed.
func TestModels(t *testing.T) {
	limits := []rock.Range{between(1000, 100000), between(0, 1000), between(0, api.MaxWarm), between(0, 1000), between(-api.MaxValue, api.MaxValue), between(-api.MaxValue, api.MaxValue)}
	for kinds := 4; kinds <= api.MaxKinds; kinds++ {
		b := with(func(b *rock.Bed) { b.Field.Kinds = kinds })
		for kind := range kinds {
			for _, block := range []int{0, 5, size(b) - 1} {
				try := func(n int, want api.Errno) {
					m := even(b, "m", 5000, 100, 200, 1)
					m.Values[kind*size(b)+block] = n
					x := goodArgs(b)
					for _, x.models = range lists(b, m) {
						for name, c := range calls() {
							if e := c.call(x); (c.many || x.models[0].Name == "m") && e != want {
								t.Errorf("%s with the kind %d of the block %d from %d: %v", name, kind, block, n, e)
							}
						}
					}
				}
				r := limits[kind]
				try(r.Lo, api.OK)
				try(r.Hi, api.OK)
				for _, n := range append([]int{r.Lo - 1, r.Hi + 1}, farNumbers...) {
					try(n, api.ErrArg)
				}
			}
		}
	}
}

// TestModelNames: a name that is none, and a number of values that is none, are ErrArg here.
func TestModelNames(t *testing.T) {
	b := with(func(*rock.Bed) {})
	good := even(b, "m", 5000, 100, 200, 1)
	l := map[string]field.Model{
		"no name": {Values: good.Values}, "a digit first": {Name: "1a", Values: good.Values}, "a capital": {Name: "aB", Values: good.Values},
		"a long name": {Name: "a1234567890123456", Values: good.Values}, "a blank": {Name: "a b", Values: good.Values},
		"no values": {Name: "m"}, "a value too few": {Name: "m", Values: good.Values[1:]},
		"a value too many": {Name: "m", Values: append(slices.Clone(good.Values), 0)}, "a kind too few": {Name: "m", Values: good.Values[size(b):]},
		"a kind too many": {Name: "m", Values: append(slices.Clone(good.Values), make([]int, size(b))...)}, "nothing": {},
	}
	for what, m := range l {
		x := goodArgs(b)
		for _, x.models = range lists(b, m) {
			for name, c := range calls() {
				if e := c.call(x); (c.many || x.models[0].Name == m.Name) && e != api.ErrArg {
					t.Errorf("%s, %s: %v", name, what, e)
				}
			}
		}
	}
	x := goodArgs(b)
	x.models[0].Name = "a123456789012345"
	for name, c := range calls() {
		if e := c.call(x); e != api.OK {
			t.Errorf("%s, a name of 16 bytes: %v", name, e)
		}
	}
}

// TestModelLists: none, too many, and two with the same name.
func TestModelLists(t *testing.T) {
	b := with(func(*rock.Bed) {})
	m := even(b, "m", 5000, 100, 200, 1)
	twins := named(m, 4)
	twins[3].Name = twins[1].Name
	twins[3].Values[0]++
	bad := named(m, api.MaxModels+1)
	bad[0].Values = nil
	for what, c := range map[string]struct {
		l    []field.Model
		want api.Errno
	}{
		"none":                              {nil, api.ErrLimit},
		"one":                               {named(m, 1), api.OK},
		"many":                              {named(m, api.MaxModels), api.OK},
		"too many":                          {named(m, api.MaxModels+1), api.ErrLimit},
		"too many, and one that is not one": {bad, api.ErrLimit},
		"twins":                             {twins, api.ErrArg},
		"twins of one name and numbers":     {[]field.Model{m, m}, api.ErrArg},
		"alike but for the name":            {named(m, 2), api.OK},
	} {
		x := goodArgs(b)
		x.models = c.l
		for name, call := range calls() {
			if e := call.call(x); call.many && e != c.want {
				t.Errorf("%s, %s: %v", name, what, e)
			}
		}
	}
}

// TestStates: which states Pressures and Tick take.
func TestStates(t *testing.T) {
	b := with(func(*rock.Bed) {})
	m := even(b, "m", 5000, 0, 0, 0)
	good := slices.Repeat(rock.State{{Mass: 5000, Heat: 7, Mark: 8}}, size(b))
	try := func(what string, s rock.State, want api.Errno) {
		t.Helper()
		l, e := rock.Pressures(b, m, s)
		if alone(e, len(l) == 0) != want {
			t.Errorf("Pressures, %s: %v, %v", what, l, e)
		}
		next, y, e := rock.Tick(b, m, s, []int{0, 0})
		if alone(e, len(next) == 0 && len(y) == 0) != want {
			t.Errorf("Tick, %s: %v, %v, %v", what, next, y, e)
		}
	}
	put := func(block int, x rock.Block) rock.State {
		s := slices.Clone(good)
		s[block] = x
		return s
	}
	for _, block := range []int{0, 6, size(b) - 1} {
		for _, mass := range []int{1, api.MaxMass} {
			try("the mass "+strconv.Itoa(mass), put(block, rock.Block{Mass: mass}), api.OK)
		}
		for _, heat := range []int{0, api.MaxStore} {
			try("the heat "+strconv.Itoa(heat), put(block, rock.Block{Mass: 1, Heat: heat}), api.OK)
		}
		for _, mark := range []int{0, api.MaxStain} {
			try("the mark "+strconv.Itoa(mark), put(block, rock.Block{Mass: 1, Mark: mark}), api.OK)
		}
		for _, n := range append([]int{-1, 0, api.MaxMass + 1}, farNumbers...) {
			try("the mass "+strconv.Itoa(n), put(block, rock.Block{Mass: n}), api.ErrArg)
		}
		for _, n := range append([]int{-1, api.MaxStore + 1}, farNumbers...) {
			try("the heat "+strconv.Itoa(n), put(block, rock.Block{Mass: 1, Heat: n}), api.ErrArg)
		}
		for _, n := range append([]int{-1, api.MaxStain + 1}, farNumbers...) {
			try("the mark "+strconv.Itoa(n), put(block, rock.Block{Mass: 1, Mark: n}), api.ErrArg)
		}
	}
	try("good", good, api.OK)
	try("no block", nil, api.ErrArg)
	try("a block too few", good[1:], api.ErrArg)
	try("a block too many", append(slices.Clone(good), good[0]), api.ErrArg)
}

// TestStart: P5.1, the first state of beds and models of all kinds.
func TestStart(t *testing.T) {
	b := bed(1, 2, 1)
	m := model("a", []int{1000, 100000}, []int{1, 2}, []int{0, api.MaxWarm}, []int{3, 4})
	if s := start(t, b, m); !slices.Equal(s, rock.State{{Mass: 1000}, {Mass: 100000, Heat: 300000000}}) {
		t.Errorf("Start: %v", s)
	}
	d := &dice{seed: 51}
	for range 200 {
		b := d.bed(3)
		m := d.model(b, "a")
		r, _ := trueRun(b, m, nil)
		if s := start(t, b, m); !slices.Equal(s, r.States[0]) {
			t.Errorf("Start(%v, %v): %v", b, m, s)
		}
	}
}
