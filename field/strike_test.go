package field_test

import (
	"slices"
	"testing"

	"fumarole/api"
	"fumarole/field"
)

// TestSum: P2.3, of other kinds than the first one, with weights of each sign, and at the limits.
func TestSum(t *testing.T) {
	f := field.Field{X: 2, Y: 1, Z: 1, Kinds: 3}
	m := model("a", 1, 2, 30, 40, 500, 600)
	for _, c := range []struct {
		kind            int
		blocks, weights []int
		want            int
	}{
		{0, []int{0}, []int{1}, 1},
		{0, []int{1}, []int{1}, 2},
		{0, []int{0, 1}, []int{5, 7}, 19},
		{1, []int{0, 1}, []int{5, 7}, 430},
		{2, []int{0, 1}, []int{5, 7}, 6700},
		{2, []int{1}, []int{-3}, -1800},
		{1, []int{0, 1}, []int{4, -3}, 0},
		{2, []int{0, 1}, []int{0, 0}, 0},
	} {
		x := field.Measure{Name: "x", Kind: c.kind, Blocks: c.blocks, Weights: c.weights}
		if n, e := field.Sum(f, m, x); n != c.want || e != api.OK {
			t.Errorf("Sum of %v: %d, %v", x, n, e)
		}
	}
	large := field.Field{X: 8, Y: 8, Z: 1, Kinds: 1}
	most := model("m", slices.Repeat([]int{api.MaxValue}, api.MaxBlocks)...)
	all := field.Measure{Name: "all"}
	for block := range api.MaxBlocks {
		all.Blocks, all.Weights = append(all.Blocks, block), append(all.Weights, -api.MaxPull)
	}
	if n, e := field.Sum(large, most, all); n != -api.MaxBlocks*api.MaxPull*api.MaxValue || e != api.OK {
		t.Errorf("the least Sum: %d, %v", n, e)
	}
}

// TestMisses: P2.3, at, just above and just below the ends of the range.
func TestMisses(t *testing.T) {
	f, m := chapterField(), chapterModels()[0]
	for _, c := range []struct{ lo, hi, want int }{
		{10, 10, 0}, {9, 11, 0}, {10, 12, 0}, {8, 10, 0}, {11, 11, -1}, {9, 9, 1}, {11, 20, -1}, {-5, 9, 1}, {17, 20, -7}, {-5, 3, 7},
		{-api.MaxSum, api.MaxSum, 0}, {api.MaxSum, api.MaxSum, 10 - api.MaxSum}, {-api.MaxSum, -api.MaxSum, 10 + api.MaxSum},
	} {
		l, e := field.Misses(f, m, []field.Measure{single("x", 0, c.lo, c.hi)})
		if !slices.Equal(l, []int{c.want}) || e != api.OK {
			t.Errorf("Misses of 10 in %d..%d: %v, %v", c.lo, c.hi, l, e)
		}
	}
	if l, e := field.Misses(f, m, nil); len(l) != 0 || e != api.OK {
		t.Errorf("Misses of nothing: %v, %v", l, e)
	}
	l, e := field.Misses(f, m, []field.Measure{single("a", 3, 0, 9), single("b", 2, 30, 30), single("c", 1, 25, 26)})
	if !slices.Equal(l, []int{31, 0, -5}) || e != api.OK {
		t.Errorf("Misses: %v, %v", l, e)
	}
}

// TestNothingStruck: P2.4, without measures all models are left.
func TestNothingStruck(t *testing.T) {
	left, struck := strikes(t, chapterField(), chapterModels(), nil)
	if !slices.Equal(left, []int{0, 1, 2}) || len(struck) != 0 {
		t.Errorf("Strikes: %v, %v", left, struck)
	}
}

// TestStrikesAny: P2.3, P2.4, P2.10 and P2.11, of any models and measures.
func TestStrikesAny(t *testing.T) {
	d := &dice{state: 4}
	met := [2]int{}
	for range 1500 {
		f := d.field(12)
		models := d.models(f, d.roll(1, 9), 6)
		l := d.measures(f, models, d.roll(0, 5), 25)
		left, struck := strikes(t, f, models, l)
		met[0] += len(left)
		met[1] += len(struck)
		for i, m := range models {
			misses, e := field.Misses(f, m, l)
			if e != api.OK || len(misses) != len(l) {
				t.Fatalf("Misses(%v, %v, %v): %v, %v", f, m, l, misses, e)
			}
			first := -1
			for j, x := range l {
				sum, e := field.Sum(f, m, x)
				if sum != sumOf(f, m, x.Kind, x.Blocks, x.Weights) || e != api.OK {
					t.Errorf("Sum(%v, %v, %v): %d, %v", f, m, x, sum, e)
				}
				if misses[j] != missOf(f, m, x) {
					t.Errorf("Misses(%v, %v, %v): %v at %d", f, m, l, misses, j)
				}
				if first < 0 && misses[j] != 0 {
					first = j
				}
			}
			if first < 0 {
				if len(left) == 0 || left[0] != i {
					t.Fatalf("Strikes(%v, %v, %v): %d is not left", f, models, l, i)
				}
				left = left[1:]
				continue
			}
			if len(struck) == 0 || struck[0] != (field.Strike{Model: i, Measure: first, Miss: misses[first]}) {
				t.Fatalf("Strikes(%v, %v, %v): %d is not struck by %d: %v", f, models, l, i, first, struck)
			}
			struck = struck[1:]
		}
		if len(left) != 0 || len(struck) != 0 {
			t.Errorf("Strikes(%v, %v, %v): %v and %v are too many", f, models, l, left, struck)
		}
	}
	if met[0] < 300 || met[1] < 300 {
		t.Errorf("too few of a kind: %v", met)
	}
}

// TestMoreMeasures: P2.10, more measures leave no more models, and their order does not matter.
func TestMoreMeasures(t *testing.T) {
	d := &dice{state: 10}
	for range 500 {
		f := d.field(12)
		models := d.models(f, d.roll(2, 9), 6)
		l := d.measures(f, models, d.roll(1, 6), 30)
		all, _ := strikes(t, f, models, l)
		if other, _ := strikes(t, f, models, shuffled(d, l)); !slices.Equal(all, other) {
			t.Errorf("Strikes(%v, %v, %v): %v, and in another order %v", f, models, l, all, other)
		}
		fewer, _ := strikes(t, f, models, l[:d.roll(0, len(l)-1)])
		for _, i := range all {
			if !slices.Contains(fewer, i) {
				t.Errorf("Strikes(%v, %v, %v): %v are left, and of fewer measures %v", f, models, l, all, fewer)
			}
		}
	}
}

// TestSpread: P2.5, of one model, and of negative numbers and several kinds.
func TestSpread(t *testing.T) {
	f := field.Field{X: 1, Y: 2, Z: 1, Kinds: 2}
	for _, c := range []struct {
		l    []field.Model
		want []field.Range
	}{
		{[]field.Model{model("a", -3, 4, 0, api.MaxValue)}, []field.Range{{Lo: -3, Hi: -3}, {Lo: 4, Hi: 4}, {}, {Lo: api.MaxValue, Hi: api.MaxValue}}},
		{[]field.Model{model("a", -3, 4, 0, api.MaxValue), model("b", -5, 5, 0, -api.MaxValue)}, []field.Range{{Lo: -5, Hi: -3}, {Lo: 4, Hi: 5}, {}, {Lo: -api.MaxValue, Hi: api.MaxValue}}},
		{[]field.Model{model("a", 2, 2, 2, 1), model("b", 1, 3, 2, 3), model("c", 3, 1, 2, 2)}, []field.Range{{Lo: 1, Hi: 3}, {Lo: 1, Hi: 3}, {Lo: 2, Hi: 2}, {Lo: 1, Hi: 3}}},
	} {
		if l, e := field.Spread(f, c.l); !slices.Equal(l, c.want) || e != api.OK {
			t.Errorf("Spread(%v): %v, %v", c.l, l, e)
		}
	}
}

// reached returns whether all numbers lie in the range, and both its ends are among them.
func reached(r field.Range, numbers []int) bool {
	return slices.Min(numbers) == r.Lo && slices.Max(numbers) == r.Hi
}

// TestEnclosed: P2.5 and P2.12, of any models.
func TestEnclosed(t *testing.T) {
	d := &dice{state: 12}
	for range 500 {
		f := d.field(16)
		models := d.models(f, d.roll(1, 12), 50)
		spread, e := field.Spread(f, models)
		if e != api.OK || len(spread) != len(models[0].Values) {
			t.Fatalf("Spread(%v, %v): %v, %v", f, models, spread, e)
		}
		fewer, _ := field.Spread(f, models[:d.roll(1, len(models))])
		for i, r := range spread {
			var numbers []int
			for _, m := range models {
				numbers = append(numbers, m.Values[i])
			}
			if !reached(r, numbers) {
				t.Errorf("Spread(%v, %v): %v at %d", f, models, r, i)
			}
			if fewer[i].Lo < r.Lo || fewer[i].Hi > r.Hi {
				t.Errorf("Spread(%v, %v): %v at %d, and of fewer models %v", f, models, r, i, fewer[i])
			}
		}
		for _, x := range d.measures(f, models, 3, 20) {
			var sums []int
			for _, m := range models {
				sums = append(sums, sumOf(f, m, x.Kind, x.Blocks, x.Weights))
			}
			r, e := field.Enclose(f, models, x)
			if !reached(r, sums) || e != api.OK {
				t.Errorf("Enclose(%v, %v, %v): %v, %v", f, models, x, r, e)
			}
			x.In = field.Range{Lo: r.Hi + 1, Hi: r.Hi + 1}
			if other, e := field.Enclose(f, models, x); other != r || e != api.OK {
				t.Errorf("Enclose(%v, %v, %v): %v, %v, and with another range %v", f, models, x, other, e, r)
			}
		}
	}
}

// TestCommon: P2.8, what the two parties have in common, and what takes it from them.
func TestCommon(t *testing.T) {
	f := chapterField()
	models := chapterModels()
	a := field.Party{Models: models}
	b := field.Party{Models: []field.Model{model("x", 15, 20, 30, 40), model("a", 1, 2, 3, 4), model("y", 10, 20, 30, 40), model("z", 15, 20, 30, 40)}}
	expect := func(what string, a, b field.Party, want ...[2]int) {
		t.Helper()
		if l, e := field.Common(f, a, b); !slices.Equal(l, want) || e != api.OK {
			t.Errorf("Common, %s: %v, %v", what, l, e)
		}
	}
	expect("without measures", a, b, [2]int{0, 2}, [2]int{2, 0})
	expect("the other way", b, a, [2]int{0, 2}, [2]int{2, 0}, [2]int{3, 2})
	expect("with itself", a, a, [2]int{0, 0}, [2]int{1, 1}, [2]int{2, 2})
	a.Measures = []field.Measure{single("m", 0, 10, 10)}
	expect("struck by the first party", a, b, [2]int{0, 2})
	b.Measures = []field.Measure{single("m", 0, 15, 15)}
	expect("struck by either party", a, b)
	a.Measures = nil
	expect("struck by the second party", a, b, [2]int{2, 0})
	expect("nothing in common", a, field.Party{Models: []field.Model{model("a", 1, 2, 3, 4)}})
}

// TestCommonAny: P2.8, of any parties.
func TestCommonAny(t *testing.T) {
	d := &dice{state: 8}
	met := 0
	for range 1000 {
		f := d.field(4)
		models := d.models(f, 20, 1)
		a := field.Party{Models: models[:d.roll(1, 10)]}
		b := field.Party{Models: shuffled(d, models[d.roll(3, 10):])}
		a.Measures, b.Measures = d.measures(f, models, d.roll(0, 2), 20), d.measures(f, models, d.roll(0, 2), 20)
		var want [][2]int
		for i, m := range a.Models {
			j := slices.IndexFunc(b.Models, func(o field.Model) bool { return slices.Equal(o.Values, m.Values) })
			if j >= 0 && len(struckBy(f, m, a.Measures)) == 0 && len(struckBy(f, m, b.Measures)) == 0 {
				want = append(want, [2]int{i, j})
			}
		}
		met += len(want)
		if l, e := field.Common(f, a, b); !slices.Equal(l, want) || e != api.OK {
			t.Errorf("Common(%v, %v, %v): %v, %v, not %v", f, a, b, l, e, want)
		}
	}
	if met < 100 {
		t.Errorf("too few in common: %d", met)
	}
}
