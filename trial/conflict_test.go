package trial_test

import (
	"slices"
	"testing"

	"fumarole/api"
	"fumarole/trial"
)

// room gives the room of a step, or of the box, for B and C.
func room(x trial.Test, i, b, c int) trial.Range {
	if i == -1 {
		return x.A
	}
	s := x.Steps[i]
	drop := b*s.Flow + c*s.Flow*s.Flow
	return between(s.In.Lo-drop, s.In.Hi-drop)
}

// conflicts gives all conflicts for B and C, in their order.
func conflicts(x trial.Test, b, c int) [][2]int {
	var l [][2]int
	for i := -1; i < len(x.Steps); i++ {
		for j := -1; j < len(x.Steps); j++ {
			if room(x, i, b, c).Lo > room(x, j, b, c).Hi {
				l = append(l, [2]int{i, j})
			}
		}
	}
	return l
}

// shows gives whether the list shows that no curve agrees, as the chapter says it.
func shows(x trial.Test, l [][2]int) bool {
	k := 0
	for b := x.B.Lo; b <= x.B.Hi; b++ {
		for c := x.C.Lo; c <= x.C.Hi; c++ {
			if k >= len(l) || !slices.Contains(conflicts(x, b, c), l[k]) {
				return false
			}
			k++
		}
	}
	return k == len(l)
}

// flat gives a test of curves that are the same at each flow, from 0 to 9.
func flat(steps ...trial.Step) trial.Test { return trial.Test{A: between(0, 9), Steps: steps} }

// TestConflicts: P4.4, which conflict comes first.
func TestConflicts(t *testing.T) {
	sloping := func(a, b, c trial.Range, steps ...trial.Step) trial.Test {
		return trial.Test{A: a, B: b, C: c, Steps: steps}
	}
	for what, c := range map[string]struct {
		x    trial.Test
		want [][2]int
	}{
		"the box above a step":     {flat(step(0, -5, -1)), [][2]int{{-1, 0}}},
		"the box below a step":     {flat(step(0, 10, 15)), [][2]int{{0, -1}}},
		"the box above the second": {flat(step(0, 4, 5), step(7, -5, -1)), [][2]int{{-1, 1}}},
		"the first above another":  {flat(step(0, 6, 7), step(7, 4, 5)), [][2]int{{0, 1}}},
		"the second above another": {flat(step(7, 4, 5), step(0, 6, 7)), [][2]int{{1, 0}}},
		"at one flow":              {flat(step(0, 4, 5), step(0, 6, 7)), [][2]int{{1, 0}}},
		"the least second number":  {flat(step(0, 6, 7), step(0, 4, 5), step(0, 4, 5), step(0, 3, 3)), [][2]int{{0, 1}}},
		"the least first number":   {flat(step(0, 4, 4), step(0, 6, 7), step(0, 5, 5), step(0, 7, 7)), [][2]int{{1, 0}}},
		"the box first":            {flat(step(0, 12, 15), step(0, -3, -2)), [][2]int{{-1, 1}}},
		"the box second":           {flat(step(0, 12, 15), step(0, 10, 11)), [][2]int{{0, -1}}},
		"one that agrees":          {flat(step(0, 9, 15), step(3, -5, 9)), nil},
		"all alike": {
			sloping(only(3), between(1, 2), between(0, 1), step(1, 7, 9)),
			[][2]int{{0, -1}, {0, -1}, {0, -1}, {0, -1}},
		},
		"B, then C": {
			sloping(only(3), between(0, 1), between(0, 2), step(0, 2, 4), step(2, 6, 6)),
			[][2]int{{1, -1}, {-1, 1}, {-1, 1}, {1, -1}, {-1, 1}, {-1, 1}},
		},
		"one that agrees at the start":  {sloping(only(3), between(4, 5), between(0, 2), step(1, 7, 7)), nil},
		"one that agrees in the middle": {sloping(only(3), between(1, 2), between(0, 2), step(2, 13, 13)), nil},
		"one that agrees at the end":    {sloping(only(3), between(1, 2), between(0, 1), step(1, 6, 6)), nil},
		"no steps":                      {sloping(only(3), between(1, 2), between(0, 1)), nil},
	} {
		want := api.OK
		if c.want == nil {
			want = api.ErrNone
		}
		if l, e := trial.Conflicts(c.x); !slices.Equal(l, c.want) || e != want {
			t.Errorf("%s: %v, %v", what, l, e)
		}
	}
}

// TestBlame: P4.4, the first step that is too much.
func TestBlame(t *testing.T) {
	for what, c := range map[string]struct {
		steps []trial.Step
		want  int
	}{
		"the only one":                  {[]trial.Step{step(0, 10, 15)}, 0},
		"the first one":                 {[]trial.Step{step(0, 10, 15), step(0, 4, 5)}, 0},
		"the first one of two":          {[]trial.Step{step(0, 10, 15), step(0, -5, -1)}, 0},
		"the second one":                {[]trial.Step{step(0, 4, 5), step(9, 6, 7)}, 1},
		"the third one":                 {[]trial.Step{step(0, 4, 6), step(9, 6, 7), step(0, 4, 5), step(0, -5, -1)}, 2},
		"the last one":                  {append(slices.Repeat([]trial.Step{step(5, 3, 7)}, api.MaxSteps-1), step(5, 8, 9)), api.MaxSteps - 1},
		"none":                          {slices.Repeat([]trial.Step{step(5, 3, 7)}, api.MaxSteps), -1},
		"no steps":                      {nil, -1},
		"none, though the ends are out": {[]trial.Step{step(0, -5, 0), step(0, 0, 20)}, -1},
	} {
		i, e := trial.Blame(flat(c.steps...))
		if c.want == -1 && (i != 0 || e != api.ErrNone) || c.want != -1 && (i != c.want || e != api.OK) {
			t.Errorf("%s: %d, %v", what, i, e)
		}
	}
}

// TestProveNone: P4.4, what is accepted, and what is not.
func TestProveNone(t *testing.T) {
	both := []trial.Step{step(0, 12, 15), step(0, -3, -2)} // conflicts: -1, 1 and 0, -1 and 0, 1
	for what, c := range map[string]struct {
		x    trial.Test
		l    [][2]int
		want bool
	}{
		"the first conflict":         {flat(both...), [][2]int{{-1, 1}}, true},
		"the second one":             {flat(both...), [][2]int{{0, -1}}, true},
		"the last one":               {flat(both...), [][2]int{{0, 1}}, true},
		"the other way":              {flat(both...), [][2]int{{1, -1}}, false},
		"another one the other way":  {flat(both...), [][2]int{{1, 0}}, false},
		"the box with itself":        {flat(both...), [][2]int{{-1, -1}}, false},
		"a step with itself":         {flat(both...), [][2]int{{0, 0}}, false},
		"nothing":                    {flat(both...), nil, false},
		"one more":                   {flat(both...), [][2]int{{-1, 1}, {-1, 1}}, false},
		"no such first step":         {flat(both...), [][2]int{{2, 1}}, false},
		"no such second step":        {flat(both...), [][2]int{{0, 2}}, false},
		"below the box":              {flat(both...), [][2]int{{-2, 1}}, false},
		"below the box, second":      {flat(both...), [][2]int{{0, -2}}, false},
		"ranges that touch":          {flat(step(0, 9, 15)), [][2]int{{0, -1}}, false},
		"ranges that touch below":    {flat(step(0, -9, 0)), [][2]int{{-1, 0}}, false},
		"ranges that are just apart": {flat(step(0, 10, 15)), [][2]int{{0, -1}}, true},
		"just apart below":           {flat(step(0, -9, -1)), [][2]int{{-1, 0}}, true},
		"the chapter's":              {emptyTest(), [][2]int{{-1, 2}, {-1, 2}}, true},
		"others of the chapter's":    {emptyTest(), [][2]int{{1, 2}, {0, 2}}, true},
		"one less":                   {emptyTest(), [][2]int{{-1, 2}}, false},
		"one more of the chapter's":  {emptyTest(), [][2]int{{-1, 2}, {-1, 2}, {-1, 2}}, false},
		"the first one is none":      {emptyTest(), [][2]int{{2, 1}, {-1, 2}}, false},
		"the last one is none":       {emptyTest(), [][2]int{{-1, 2}, {2, 1}}, false},
	} {
		if is := trial.ProveNone(c.x, c.l); is != c.want {
			t.Errorf("%s: %v", what, is)
		}
	}
	for _, n := range farNumbers {
		for _, pair := range [][2]int{{n, -1}, {n, 1}, {-1, n}, {0, n}, {n, n}} {
			if trial.ProveNone(flat(both...), [][2]int{pair}) {
				t.Errorf("%v is accepted", pair)
			}
		}
	}
	for what, x := range badTests() {
		for _, l := range [][][2]int{nil, {{-1, 0}}, {{0, -1}}, {{-1, 12}}, {{0, 1}, {0, 1}}} {
			if trial.ProveNone(x, l) {
				t.Errorf("%s: %v is accepted", what, l)
			}
		}
	}
	bad := flat(both...)
	bad.A.Hi = api.MaxRest + 1
	if trial.ProveNone(bad, [][2]int{{-1, 1}}) {
		t.Error("accepted with a test that is not valid")
	}
}

// TestNone: P4.4 and P4.12, of any tests.
func TestNone(t *testing.T) {
	d := &dice{state: 44}
	met := map[string]int{}
	for range 3000 {
		x, _ := d.test(d.roll(0, 25))
		var first [][2]int
		for b := x.B.Lo; b <= x.B.Hi; b++ {
			for c := x.C.Lo; c <= x.C.Hi; c++ {
				first = append(first, append(conflicts(x, b, c), [2]int{-9, -9})[0])
			}
		}
		l, e := trial.Conflicts(x)
		i, blame := trial.Blame(x)
		if len(curves(x)) > 0 {
			met["agreeing"]++
			if len(l) > 0 || e != api.ErrNone || i != 0 || blame != api.ErrNone || trial.ProveNone(x, first) {
				t.Errorf("Conflicts(%v): %v, %v; Blame: %d, %v", x, l, e, i, blame)
			}
			continue
		}
		if !slices.Equal(l, first) || e != api.OK || blame != api.OK || !trial.ProveNone(x, l) {
			t.Errorf("Conflicts(%v): %v, %v; Blame: %d, %v", x, l, e, i, blame)
			continue
		}
		if i > 0 {
			met["blamed later"]++
		}
		ahead, up := x, x
		ahead.Steps, up.Steps = x.Steps[:i], x.Steps[:i+1]
		if len(curves(ahead)) == 0 || len(curves(up)) > 0 {
			t.Errorf("Blame(%v): %d", x, i)
		}
	}
	if met["agreeing"] < 300 || met["blamed later"] < 300 {
		t.Errorf("too few of a kind: %v", met)
	}
}

// TestProveNoneHolds: P4.4 and P4.12, any lists.
func TestProveNoneHolds(t *testing.T) {
	d := &dice{state: 412}
	met := map[bool]int{}
	for range 4000 {
		x, _ := d.test(d.roll(0, 40))
		var l [][2]int
		for b := x.B.Lo; b <= x.B.Hi; b++ {
			for c := x.C.Lo; c <= x.C.Hi; c++ {
				pair := [2]int{d.roll(-2, len(x.Steps)), d.roll(-2, len(x.Steps))}
				if good := conflicts(x, b, c); len(good) > 0 && d.roll(0, 30) > 0 {
					pair = good[d.roll(0, len(good)-1)]
				}
				l = append(l, pair)
			}
		}
		if d.roll(0, 15) == 0 {
			l = l[1:]
		}
		is := trial.ProveNone(x, l)
		met[is]++
		if is != shows(x, l) || is && len(curves(x)) > 0 {
			t.Errorf("ProveNone(%v, %v): %v", x, l, is)
		}
	}
	if met[true] < 300 || met[false] < 300 {
		t.Errorf("too few of a kind: %v", met)
	}
}

// TestNoneMost: P4.4, the greatest box, and the greatest numbers.
func TestNoneMost(t *testing.T) {
	for _, c := range []struct {
		s    trial.Step
		want [2]int
	}{
		{step(api.MaxFlow, 1010100001, api.MaxDrop), [2]int{0, -1}},
		{step(api.MaxFlow, -api.MaxDrop, 970960999), [2]int{-1, 0}},
		{step(api.MaxFlow, api.MaxDrop, api.MaxDrop), [2]int{0, -1}},
		{step(api.MaxFlow, -api.MaxDrop, -api.MaxDrop), [2]int{-1, 0}},
	} {
		want := slices.Repeat([][2]int{c.want}, 40*40)
		if l, e := trial.Conflicts(widestTest(c.s)); !slices.Equal(l, want) || e != api.OK {
			t.Errorf("Conflicts with %v: %d of them, %v", c.s, len(l), e)
		}
		if !trial.ProveNone(widestTest(c.s), want) || trial.ProveNone(widestTest(c.s), want[1:]) {
			t.Errorf("ProveNone with %v: not as it should be", c.s)
		}
		if i, e := trial.Blame(widestTest(c.s)); i != 0 || e != api.OK {
			t.Errorf("Blame with %v: %d, %v", c.s, i, e)
		}
	}
}
