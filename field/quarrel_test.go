package field_test

import (
	"math/bits"
	"slices"
	"testing"

	"fumarole/api"
	"fumarole/field"
)

// chosen gives the elements at the bits of the set, and their indices.
func chosen[T any](l []T, set uint) (elements []T, indices []int) {
	for i, x := range l {
		if set>>i&1 != 0 {
			elements, indices = append(elements, x), append(indices, i)
		}
	}
	return elements, indices
}

// leavesNone returns whether each model is contradicted by a measure.
func leavesNone(f field.Field, models []field.Model, l []field.Measure) bool {
	return !slices.ContainsFunc(models, func(m field.Model) bool { return len(struckBy(f, m, l)) == 0 })
}

// leastQuarrel goes through all sets of measures.
func leastQuarrel(f field.Field, models []field.Model, l []field.Measure) []int {
	var least []int
	for set := range uint(1) << len(l) {
		some, indices := chosen(l, set)
		better := least == nil || len(indices) < len(least) || len(indices) == len(least) && slices.Compare(indices, least) < 0
		if better && leavesNone(f, models, some) {
			least = indices
		}
	}
	return least
}

// forbid gives a measure with a block for each model of a field whose models have a 1 there: it contradicts those of the set.
func forbid(name string, blocks int, set uint) field.Measure {
	x := field.Measure{Name: name}
	for i := range blocks {
		x.Blocks, x.Weights = append(x.Blocks, i), append(x.Weights, int(set>>i&1))
	}
	return x
}

// marked gives as many models as there are blocks; each one has a 1 in its own block.
func marked(blocks int) []field.Model {
	var l []field.Model
	for i, name := range names(blocks) {
		m := model(name, make([]int, blocks)...)
		m.Values[i] = 1
		l = append(l, m)
	}
	return l
}

// TestQuarrel: P2.7, sets of which each one strikes some of the models 0 to 5.
func TestQuarrel(t *testing.T) {
	f := field.Field{X: 6, Y: 1, Z: 1, Kinds: 1}
	for _, c := range []struct {
		sets []uint
		want []int
	}{
		{[]uint{0b111111}, []int{0}},
		{[]uint{0b000111, 0b111111}, []int{1}},
		{[]uint{0b111111, 0b111111}, []int{0}},
		{[]uint{0b000111, 0b111000}, []int{0, 1}},
		{[]uint{0b000111, 0b111000, 0b000111, 0b111000}, []int{0, 1}},
		{[]uint{0b011111, 0b101111, 0b110000, 0b001111}, []int{0, 1}},
		{[]uint{0b000001, 0b110000, 0b001111, 0b111110}, []int{0, 3}}, // 0 3 comes before 1 2
		{[]uint{0, 0b001111, 0b110000, 0b100000, 0b011111}, []int{1, 2}},
		{[]uint{0b011110, 0b100011, 0b101101, 0b000111, 0b111000}, []int{0, 1}},
		{[]uint{0b011011, 0b110110, 0b101101}, []int{0, 1}},
		{[]uint{0b011110, 0b000111, 0b111000}, []int{1, 2}}, // the one that strikes most is of no use
		{[]uint{0b000001, 0b000010, 0b000100, 0b001000, 0b010000, 0b100000}, []int{0, 1, 2, 3, 4, 5}},
		{[]uint{0b000001, 0b000010, 0b000100, 0b001000, 0b010000, 0b100000, 0b000011}, []int{2, 3, 4, 5, 6}},
		{[]uint{0b000011, 0b001100, 0b110000, 0b010101, 0b101010}, []int{3, 4}},
		{[]uint{0b000011, 0b001100, 0b110000, 0b010101, 0b101000}, []int{0, 1, 2}},
		{[]uint{0b000011, 0b001100, 0b010101, 0b110000, 0b001111}, []int{3, 4}},
		{[]uint{0b000011, 0b011000, 0b000101, 0b110100, 0b001010}, []int{0, 1, 3}},
	} {
		var l []field.Measure
		for i, name := range names(len(c.sets)) {
			l = append(l, forbid(name, 6, c.sets[i]))
		}
		if q, e := field.Quarrel(f, marked(6), l); !slices.Equal(q, c.want) || e != api.OK {
			t.Errorf("Quarrel of %b: %v, %v", c.sets, q, e)
		}
	}
}

// TestQuarrelLimits: P2.7, as many models and measures as there may be.
func TestQuarrelLimits(t *testing.T) {
	f := field.Field{X: 8, Y: 5, Z: 1, Kinds: 1}
	var l []field.Measure
	var want []int
	for i, name := range names(api.MaxMeasures) {
		set := uint(1) << i
		if i == api.MaxMeasures-1 {
			set = 1<<api.MaxModels - set // all other models
		}
		l, want = append(l, forbid(name, api.MaxModels, set)), append(want, i)
	}
	if q, e := field.Quarrel(f, marked(api.MaxModels), l); !slices.Equal(q, want) || e != api.OK {
		t.Errorf("Quarrel of all measures: %v, %v", q, e)
	}
	if m, by, e := field.Excuse(f, marked(api.MaxModels), l); m != 0 || !slices.Equal(by, []int{0}) || e != api.OK {
		t.Errorf("Excuse: %d, %v, %v", m, by, e)
	}
	l[0] = forbid("n0", api.MaxModels, 0) // leaves the model 0
	if q, e := field.Quarrel(f, marked(api.MaxModels), l); len(q) != 0 || e != api.ErrNone {
		t.Errorf("Quarrel, the first model is left: %v, %v", q, e)
	}
	last := forbid("n11", api.MaxModels, 1<<(api.MaxModels-1)-1)
	if q, e := field.Quarrel(f, marked(api.MaxModels), []field.Measure{last}); len(q) != 0 || e != api.ErrNone {
		t.Errorf("Quarrel, the last model is left: %v, %v", q, e)
	}
}

// TestQuarrelNone: P2.7, the error if a model is left, also by no measures.
func TestQuarrelNone(t *testing.T) {
	in := goodInput()
	for n := range 2 {
		in.measures = in.measures[:n]
		if q, e := field.Quarrel(in.Field, in.models, in.measures); len(q) != 0 || e != api.ErrNone {
			t.Errorf("Quarrel of %v: %v, %v", in.measures, q, e)
		}
		if m, by, e := field.Excuse(in.Field, in.models, in.measures); m != 0 || len(by) != 0 || e != api.ErrNone {
			t.Errorf("Excuse of %v: %d, %v, %v", in.measures, m, by, e)
		}
	}
}

// TestExcuse: P2.7, the fewest measures, and of several models the first one.
func TestExcuse(t *testing.T) {
	f := field.Field{X: 3, Y: 1, Z: 1, Kinds: 1}
	for _, c := range []struct {
		sets  []uint
		model int
		by    []int
	}{
		{[]uint{0b111}, 0, []int{0}},
		{[]uint{0b111, 0b001}, 1, []int{0}},
		{[]uint{0b011, 0b111}, 2, []int{1}},
		{[]uint{0b011, 0b101, 0b110}, 0, []int{0, 1}},
		{[]uint{0b001, 0b111, 0b111, 0b001}, 1, []int{1, 2}},
		{[]uint{0b011, 0b101, 0b111, 0b011}, 2, []int{1, 2}},
	} {
		var l []field.Measure
		for i, name := range names(len(c.sets)) {
			l = append(l, forbid(name, 3, c.sets[i]))
		}
		if m, by, e := field.Excuse(f, marked(3), l); m != c.model || !slices.Equal(by, c.by) || e != api.OK {
			t.Errorf("Excuse of %b: %d, %v, %v", c.sets, m, by, e)
		}
	}
}

// TestQuarrelsAny: P2.7 and P2.14, of any models and measures.
func TestQuarrelsAny(t *testing.T) {
	d := &dice{state: 14}
	met := map[api.Errno]int{}
	sizes := map[int]int{}
	for range 1500 {
		f := d.field(6)
		models := d.models(f, d.roll(1, 7), 9)
		l := d.measures(f, models, d.roll(1, 6), 6)
		q, e1 := field.Quarrel(f, models, l)
		m, by, e2 := field.Excuse(f, models, l)
		want := api.OK
		if !leavesNone(f, models, l) {
			want = api.ErrNone
		}
		met[want]++
		if alone(e1, len(q) == 0) != want || alone(e2, m == 0 && len(by) == 0) != want {
			t.Errorf("Quarrel and Excuse(%v, %v, %v): %v, %v", f, models, l, e1, e2)
		}
		if want != api.OK {
			continue
		}
		sizes[len(q)]++
		if least := leastQuarrel(f, models, l); !slices.Equal(q, least) {
			t.Errorf("Quarrel(%v, %v, %v): %v, not %v", f, models, l, q, least)
		}
		checkQuarrel(t, f, models, l, q)
		checkExcuse(t, f, models, l, m, by)
		if !slices.ContainsFunc(q, func(i int) bool { return slices.Contains(by, i) }) {
			t.Errorf("Quarrel(%v, %v, %v): %v has nothing of the excuse %v", f, models, l, q, by)
		}
	}
	if met[api.OK] < 200 || met[api.ErrNone] < 200 || sizes[1] < 50 || sizes[2] < 50 {
		t.Errorf("too few of a kind: %v, %v", met, sizes)
	}
}

// checkQuarrel: P2.14, the measures leave none, and fewer of them, or without one, some.
func checkQuarrel(t *testing.T, f field.Field, models []field.Model, l []field.Measure, q []int) {
	t.Helper()
	var set uint
	for _, i := range q {
		set |= 1 << i
	}
	if some, _ := chosen(l, set); !leavesNone(f, models, some) {
		t.Errorf("Quarrel(%v, %v, %v): %v leaves some", f, models, l, q)
	}
	for _, i := range q {
		if some, _ := chosen(l, set&^(1<<i)); leavesNone(f, models, some) {
			t.Errorf("Quarrel(%v, %v, %v): %v does not need %d", f, models, l, q, i)
		}
	}
	for other := range uint(1) << len(l) {
		if some, _ := chosen(l, other); bits.OnesCount(other) < len(q) && leavesNone(f, models, some) {
			t.Errorf("Quarrel(%v, %v, %v): %v, and %b has fewer", f, models, l, q, other)
		}
	}
}

// checkExcuse: P2.7, the measures are those of the model, and no other model has fewer, none ahead of it as few.
func checkExcuse(t *testing.T, f field.Field, models []field.Model, l []field.Measure, m int, by []int) {
	t.Helper()
	if !slices.Equal(by, struckBy(f, models[m], l)) {
		t.Errorf("Excuse(%v, %v, %v): %d is not contradicted by %v", f, models, l, m, by)
	}
	for i, other := range models {
		if n := len(struckBy(f, other, l)); n < len(by) || n == len(by) && i < m {
			t.Errorf("Excuse(%v, %v, %v): %d, %v, and %d has %d", f, models, l, m, by, i, n)
		}
	}
}
