package field_test

import (
	"slices"
	"strconv"
	"strings"
	"testing"

	"fumarole/api"
	"fumarole/field"
)

// input is what the calls are given.
type input struct {
	field.Field
	models   []field.Model
	measures []field.Measure
	probes   []field.Probe
}

// goodInput has no error for any call; all models are struck.
func goodInput() input {
	return input{
		Field:    chapterField(),
		models:   chapterModels(),
		measures: []field.Measure{single("u", 0, 10, 12), single("v", 3, 41, 60), single("w", 3, 30, 45)},
		probes:   []field.Probe{{Blocks: []int{3}, Weights: []int{1}, Error: 4}, {Blocks: []int{0, 3}, Weights: []int{1, 1}, Error: 1}},
	}
}

// notAlone stands for an error beside which another result is not zero.
const notAlone api.Errno = -1

// alone gives the error, if R2 holds for it.
func alone(e api.Errno, zero bool) api.Errno {
	if e != api.OK && !zero {
		return notAlone
	}
	return e
}

type call func(input) api.Errno

// fieldCalls are those that take a field, and nothing of the input besides.
func fieldCalls() map[string]call {
	return map[string]call{
		"CheckField": func(in input) api.Errno { return field.CheckField(in.Field) },
		"Number": func(in input) api.Errno {
			n, e := field.Number(in.Field, 0, 0, 0)
			return alone(e, n == 0)
		},
		"Place": func(in input) api.Errno {
			x, y, z, e := field.Place(in.Field, 0)
			return alone(e, x == 0 && y == 0 && z == 0)
		},
		"Column": func(in input) api.Errno {
			l, e := field.Column(in.Field, "a", 0, 0, 0, []int{7}, 1)
			return alone(e, len(l) == 0)
		},
		"Station": func(in input) api.Errno {
			m, e := field.Station(in.Field, "a", 0, 0, 0, field.Range{Lo: 1, Hi: 2})
			return alone(e, noMeasure(m))
		},
		"Sounding": func(in input) api.Errno {
			m, e := field.Sounding(in.Field, "a", 0, 0, 0, 1, field.Range{Lo: 1, Hi: 2})
			return alone(e, noMeasure(m))
		},
	}
}

// modelCalls are those that take one model, and measures.
func modelCalls() map[string]call {
	return map[string]call{
		"Sum": func(in input) api.Errno {
			n, e := field.Sum(in.Field, in.models[0], in.measures[0])
			return alone(e, n == 0)
		},
		"Misses": func(in input) api.Errno {
			l, e := field.Misses(in.Field, in.models[0], in.measures)
			return alone(e, len(l) == 0)
		},
	}
}

// modelsCalls are those that take models, and no measures and no probes.
func modelsCalls() map[string]call {
	return map[string]call{
		"CheckModels": func(in input) api.Errno { return field.CheckModels(in.Field, in.models) },
		"Spread": func(in input) api.Errno {
			l, e := field.Spread(in.Field, in.models)
			return alone(e, len(l) == 0)
		},
		"Write": func(in input) api.Errno {
			s, e := field.Write(in.Field, in.models)
			return alone(e, s == "")
		},
	}
}

// measuresCalls are those that take models and a list of measures.
func measuresCalls() map[string]call {
	return map[string]call{
		"Strikes": func(in input) api.Errno {
			left, l, e := field.Strikes(in.Field, in.models, in.measures)
			return alone(e, len(left) == 0 && len(l) == 0)
		},
		"Quarrel": func(in input) api.Errno {
			l, e := field.Quarrel(in.Field, in.models, in.measures)
			return alone(e, len(l) == 0)
		},
		"Excuse": func(in input) api.Errno {
			n, l, e := field.Excuse(in.Field, in.models, in.measures)
			return alone(e, n == 0 && len(l) == 0)
		},
		"Common, the first party": func(in input) api.Errno {
			good := goodInput()
			return common(in.Field, field.Party{Models: in.models, Measures: in.measures}, field.Party{Models: good.models, Measures: good.measures})
		},
		"Common, the second party": func(in input) api.Errno {
			good := goodInput()
			return common(in.Field, field.Party{Models: good.models, Measures: good.measures}, field.Party{Models: in.models, Measures: in.measures})
		},
	}
}

func common(f field.Field, a, b field.Party) api.Errno {
	l, e := field.Common(f, a, b)
	return alone(e, len(l) == 0)
}

// encloseCalls has the one that takes models and one measure.
func encloseCalls() map[string]call {
	return map[string]call{"Enclose": func(in input) api.Errno {
		r, e := field.Enclose(in.Field, in.models, in.measures[0])
		return alone(e, r == field.Range{})
	}}
}

// probeCalls are those that take models and the first probe, and probesCalls those that take all of them.
func probeCalls() map[string]call {
	return map[string]call{"Worst": func(in input) api.Errno {
		n, r, e := field.Worst(in.Field, in.models, in.probes[0])
		return alone(e, n == 0 && r == 0)
	}}
}

func probesCalls() map[string]call {
	return map[string]call{"Best": func(in input) api.Errno {
		best, worst, l, e := field.Best(in.Field, in.models, in.probes)
		return alone(e, best == 0 && worst == 0 && len(l) == 0)
	}}
}

// checkMeasuresCall is apart, as it takes no models.
func checkMeasuresCall() map[string]call {
	return map[string]call{"CheckMeasures": func(in input) api.Errno { return field.CheckMeasures(in.Field, in.measures) }}
}

// expect checks that each of the calls gives the error for the input.
func expect(t *testing.T, what string, in input, want api.Errno, calls ...map[string]call) {
	t.Helper()
	for _, m := range calls {
		for name, c := range m {
			if e := c(in); e != want {
				t.Errorf("%s, %s: %v, not %v", name, what, e, want)
			}
		}
	}
}

// TestGoodInput: the input to which the other tests add errors has none.
func TestGoodInput(t *testing.T) {
	expect(t, "good", goodInput(), api.OK, fieldCalls(), modelCalls(), modelsCalls(), checkMeasuresCall(), measuresCalls(), encloseCalls(), probeCalls(), probesCalls())
}

// TestFieldErrors: a field that is not valid is the first error of each call, whatever else is wrong.
func TestFieldErrors(t *testing.T) {
	for _, f := range badFields() {
		in := goodInput()
		in.Field = f
		expect(t, "a bad field", in, api.ErrArg, fieldCalls(), modelCalls(), modelsCalls(), checkMeasuresCall(), measuresCalls(), encloseCalls(), probeCalls(), probesCalls())
		if field.ProveBest(f, in.models, in.probes, 1, 1, []int{36, 49}) {
			t.Errorf("ProveBest accepts the field %v", f)
		}
		in.models[0].Name, in.measures[0].Name = "", ""
		expect(t, "a bad field and names", in, api.ErrArg, modelCalls(), modelsCalls(), checkMeasuresCall(), measuresCalls(), encloseCalls(), probeCalls(), probesCalls())
		in.models, in.measures = nil, manyMeasures(api.MaxMeasures+1)
		expect(t, "a bad field and lists", in, api.ErrArg, modelsCalls(), checkMeasuresCall(), measuresCalls(), encloseCalls(), probeCalls(), probesCalls())
	}
}

// badModels gives models, each with the error that it has for the chapter's field.
func badModels() map[string]struct {
	field.Model
	e api.Errno
} {
	type bad = struct {
		field.Model
		e api.Errno
	}
	l := map[string]bad{
		"no values":       {model("q"), api.ErrArg},
		"a value less":    {model("q", 1, 2, 3), api.ErrArg},
		"a value more":    {model("q", 1, 2, 3, 4, 5), api.ErrArg},
		"another kind":    {model("q", 1, 2, 3, 4, 5, 6, 7, 8), api.ErrArg},
		"first too great": {model("q", api.MaxValue+1, 2, 3, 4), api.ErrArg},
		"last too great":  {model("q", 1, 2, 3, api.MaxValue+1), api.ErrArg},
		"first too small": {model("q", -api.MaxValue-1, 2, 3, 4), api.ErrArg},
		"last too small":  {model("q", 1, 2, 3, -api.MaxValue-1), api.ErrArg},
		"name and values": {model("Q", 1, 2, 3), api.ErrName},
	}
	for _, name := range badNames() {
		l["the name "+name] = bad{model(name, 1, 2, 3, 4), api.ErrName}
	}
	for _, n := range farNumbers {
		l["far "+strconv.Itoa(n)] = bad{model("q", 1, 2, n, 4), api.ErrArg}
	}
	return l
}

// badNames are no names, as R10 says.
func badNames() []string {
	return []string{"", " ", "1", "1a", "A", "aB", "a b", "a ", " a", "a-", "a_", "_", "a.b", "a\n", "a`", "a{", "a/", "a:", "`", "{", "é", "aé", "a\x00", strings.Repeat("a", api.MaxName+1)}
}

// goodNames are names.
func goodNames() []string {
	return []string{"a", "z", "a0", "a9", "az", "z9a", strings.Repeat("a", api.MaxName), "a" + strings.Repeat("0", api.MaxName-1)}
}

// TestModelErrors: each error of a model, as the first, the second and the last one of a list.
func TestModelErrors(t *testing.T) {
	for what, m := range badModels() {
		in := goodInput()
		in.models[0] = m.Model
		expect(t, what, in, m.e, modelCalls())
		for i := range chapterModels() {
			in := goodInput()
			in.models[i] = m.Model
			expect(t, what, in, m.e, modelsCalls(), measuresCalls(), encloseCalls(), probeCalls(), probesCalls())
			if field.ProveBest(in.Field, in.models, in.probes, 1, 1, []int{36, 49}) {
				t.Errorf("ProveBest accepts a model: %s", what)
			}
			in.measures[0], in.probes[0].Error = single("X", 9, 2, 1), -1
			expect(t, what+" ahead of other errors", in, m.e, modelsCalls(), encloseCalls(), probeCalls(), probesCalls())
		}
	}
	for _, name := range goodNames() {
		in := goodInput()
		in.models = []field.Model{model(name, api.MaxValue, -api.MaxValue, 0, 40)}
		expect(t, "the name "+name, in, api.OK, modelsCalls(), modelCalls(), encloseCalls(), probeCalls(), probesCalls())
	}
}

// TestModelListErrors: how many models there may be, and that no two have the same name.
func TestModelListErrors(t *testing.T) {
	small := field.Field{X: 1, Y: 1, Z: 1, Kinds: 1}
	block := []field.Probe{{Blocks: []int{0}, Weights: []int{1}}}
	for n, want := range map[int]api.Errno{0: api.ErrLimit, 1: api.OK, api.MaxModels: api.OK, api.MaxModels + 1: api.ErrLimit, api.MaxModels + 20: api.ErrLimit} {
		in := input{small, manyModels(n), []field.Measure{single("m", 0, 1000, 1000)}, block}
		expect(t, "many models", in, want, modelsCalls(), encloseCalls(), probeCalls(), probesCalls())
		if e := common(small, field.Party{Models: in.models}, field.Party{Models: manyModels(1)}); e != want {
			t.Errorf("Common, %d models of the first party: %v", n, e)
		}
		if e := common(small, field.Party{Models: manyModels(1)}, field.Party{Models: in.models}); e != want {
			t.Errorf("Common, %d models of the second party: %v", n, e)
		}
		for _, name := range []string{"Strikes", "Quarrel", "Excuse"} {
			if e := measuresCalls()[name](in); e != want {
				t.Errorf("%s of %d models: %v", name, n, e)
			}
		}
		if field.ProveBest(small, in.models, block, 0, 1, []int{0}) != (want == api.OK) {
			t.Errorf("ProveBest of %d models", n)
		}
	}
	all := []map[string]call{modelsCalls(), measuresCalls(), encloseCalls(), probeCalls(), probesCalls()}
	change := func(what string, want api.Errno, change func(l []field.Model)) {
		t.Helper()
		in := goodInput()
		change(in.models)
		expect(t, what, in, want, all...)
	}
	change("neighbours with a name", api.ErrTwice, func(l []field.Model) { l[1].Name = "a" })
	change("the last one with the first one's name", api.ErrTwice, func(l []field.Model) { l[2].Name = "a" })
	change("a name twice ahead of a bad model", api.ErrTwice, func(l []field.Model) { l[1].Name, l[2].Name = "a", "" })
	change("a bad model ahead of a name twice", api.ErrName, func(l []field.Model) { l[0].Name, l[2].Name = "", "b" })
	change("bad values of one whose name is there", api.ErrArg, func(l []field.Model) { l[1] = model("a", 1) })
	change("bad values ahead of a bad name", api.ErrArg, func(l []field.Model) { l[0].Values, l[1].Name = nil, "" })
	change("a bad name ahead of bad values", api.ErrName, func(l []field.Model) { l[1].Name, l[2].Values = "", nil })
	in := goodInput()
	in.models = slices.Repeat([]field.Model{model("")}, api.MaxModels+1)
	expect(t, "many bad models", in, api.ErrLimit, all...)
}

// badMeasures gives measures, each with the error that it has for the chapter's field.
func badMeasures() map[string]struct {
	field.Measure
	e api.Errno
} {
	type bad = struct {
		field.Measure
		e api.Errno
	}
	l := map[string]bad{}
	add := func(what string, e api.Errno, change func(x *field.Measure)) {
		x := field.Measure{Name: "q", Blocks: []int{1, 3}, Weights: []int{2, -2}, In: field.Range{Lo: -5, Hi: 5}}
		change(&x)
		l[what] = bad{x, e}
	}
	for what, change := range badBlocks() {
		add(what, api.ErrArg, func(x *field.Measure) { change(&x.Kind, &x.Blocks, &x.Weights) })
	}
	add("a name and a kind", api.ErrName, func(x *field.Measure) { x.Name, x.Kind = "0", 1 })
	add("Lo above Hi", api.ErrArg, func(x *field.Measure) { x.In = field.Range{Lo: 1, Hi: 0} })
	add("Lo too small", api.ErrArg, func(x *field.Measure) { x.In.Lo = -api.MaxSum - 1 })
	add("Hi too great", api.ErrArg, func(x *field.Measure) { x.In.Hi = api.MaxSum + 1 })
	add("Hi too small", api.ErrArg, func(x *field.Measure) { x.In = field.Range{Lo: -api.MaxSum - 2, Hi: -api.MaxSum - 1} })
	add("Lo too great", api.ErrArg, func(x *field.Measure) { x.In = field.Range{Lo: api.MaxSum + 1, Hi: api.MaxSum + 1} })
	for _, name := range badNames() {
		add("the name "+name, api.ErrName, func(x *field.Measure) { x.Name = name })
	}
	return l
}

// badBlocks makes kinds, blocks and weights that are not valid in the chapter's field.
func badBlocks() map[string]func(kind *int, blocks, weights *[]int) {
	type p = *[]int
	l := map[string]func(kind *int, blocks, weights *[]int){
		"no kind":                     func(k *int, _, _ p) { *k = 1 },
		"a kind below 0":              func(k *int, _, _ p) { *k = -1 },
		"no blocks":                   func(_ *int, b, w p) { *b, *w = nil, nil },
		"no blocks, but weights":      func(_ *int, b, _ p) { *b = nil },
		"no weights":                  func(_ *int, _, w p) { *w = nil },
		"a weight less":               func(_ *int, _, w p) { *w = []int{1} },
		"a weight more":               func(_ *int, _, w p) { *w = []int{1, 1, 1} },
		"a block twice":               func(_ *int, b, _ p) { *b = []int{1, 1} },
		"blocks that fall":            func(_ *int, b, _ p) { *b = []int{3, 1} },
		"blocks that fall at the end": func(_ *int, b, w p) { *b, *w = []int{0, 2, 1}, []int{1, 1, 1} },
		"a block below 0":             func(_ *int, b, _ p) { *b = []int{-1, 3} },
		"a block too great":           func(_ *int, b, _ p) { *b = []int{1, 4} },
		"more blocks than there are":  func(_ *int, b, w p) { *b, *w = []int{0, 1, 2, 3, 4}, []int{1, 1, 1, 1, 1} },
		"the first weight too great":  func(_ *int, _, w p) { *w = []int{api.MaxPull + 1, 0} },
		"the last weight too great":   func(_ *int, _, w p) { *w = []int{0, api.MaxPull + 1} },
		"the first weight too small":  func(_ *int, _, w p) { *w = []int{-api.MaxPull - 1, 0} },
		"the last weight too small":   func(_ *int, _, w p) { *w = []int{0, -api.MaxPull - 1} },
	}
	for _, n := range farNumbers {
		far := strconv.Itoa(n)
		l["the kind "+far] = func(k *int, _, _ p) { *k = n }
		l["the block "+far] = func(_ *int, b, w p) { *b, *w = []int{n}, []int{1} }
		l["the weight "+far] = func(_ *int, _, w p) { *w = []int{0, n} }
	}
	return l
}

// TestMeasureErrors: each error of a measure, as the first, the second and the last one of a list.
func TestMeasureErrors(t *testing.T) {
	for what, x := range badMeasures() {
		in := goodInput()
		in.measures[0] = x.Measure
		expect(t, what, in, x.e, encloseCalls(), modelCalls())
		for i := range in.measures {
			in := goodInput()
			in.measures[i] = x.Measure
			expect(t, what, in, x.e, checkMeasuresCall(), measuresCalls())
			if e := modelCalls()["Misses"](in); e != x.e {
				t.Errorf("Misses, %s: %v", what, e)
			}
		}
	}
	good := []field.Measure{
		{Name: "p", Blocks: []int{0, 1, 2, 3}, Weights: []int{api.MaxPull, -api.MaxPull, 0, 1}, In: field.Range{Lo: -api.MaxSum, Hi: -api.MaxSum}},
		{Name: "q", Blocks: []int{3}, Weights: []int{0}, In: field.Range{Lo: api.MaxSum, Hi: api.MaxSum}},
	}
	for _, name := range goodNames() {
		in := goodInput()
		in.measures = copyMeasures(good)
		in.measures[0].Name = name
		expect(t, "the name "+name, in, api.OK, checkMeasuresCall(), measuresCalls(), encloseCalls(), modelCalls())
	}
}

// TestMeasureListErrors: how many measures there may be, and that no two have the same name.
func TestMeasureListErrors(t *testing.T) {
	misses := map[string]call{"Misses": modelCalls()["Misses"]}
	strikes := map[string]call{"Strikes": measuresCalls()["Strikes"]}
	for n, want := range map[int]api.Errno{0: api.OK, 1: api.OK, api.MaxMeasures: api.OK, api.MaxMeasures + 1: api.ErrLimit, api.MaxMeasures + 20: api.ErrLimit} {
		in := goodInput()
		in.measures = manyMeasures(n)
		expect(t, "many measures", in, want, checkMeasuresCall(), misses, strikes)
		if n > 0 {
			expect(t, "many measures", in, want, measuresCalls())
		}
	}
	all := []map[string]call{checkMeasuresCall(), measuresCalls(), misses}
	change := func(what string, want api.Errno, change func(l []field.Measure)) {
		t.Helper()
		in := goodInput()
		change(in.measures)
		expect(t, what, in, want, all...)
	}
	change("neighbours with a name", api.ErrTwice, func(l []field.Measure) { l[1].Name = "u" })
	change("the last one with the first one's name", api.ErrTwice, func(l []field.Measure) { l[2].Name = "u" })
	change("a name twice ahead of a bad measure", api.ErrTwice, func(l []field.Measure) { l[1].Name, l[2].Name = "u", "" })
	change("a bad measure ahead of a name twice", api.ErrName, func(l []field.Measure) { l[0].Name, l[2].Name = "", "v" })
	change("bad blocks of one whose name is there", api.ErrArg, func(l []field.Measure) { l[1].Name, l[1].Blocks = "u", nil })
	change("bad blocks ahead of a bad name", api.ErrArg, func(l []field.Measure) { l[0].Blocks, l[1].Name = nil, "" })
	change("a bad name ahead of bad blocks", api.ErrName, func(l []field.Measure) { l[1].Name, l[2].Blocks = "", nil })
	in := goodInput()
	in.measures = slices.Repeat([]field.Measure{{}}, api.MaxMeasures+1)
	expect(t, "many bad measures", in, api.ErrLimit, all...)
	in = goodInput()
	in.measures[1].Name = "a" // the name of a model
	expect(t, "a model's name", in, api.OK, all...)
}

// badProbes gives probes that are not valid in the chapter's field.
func badProbes() map[string]field.Probe {
	l := map[string]field.Probe{}
	add := func(what string, change func(p *field.Probe)) {
		p := field.Probe{Blocks: []int{1, 3}, Weights: []int{2, -2}, Error: 5}
		change(&p)
		l[what] = p
	}
	for what, change := range badBlocks() {
		add(what, func(p *field.Probe) { change(&p.Kind, &p.Blocks, &p.Weights) })
	}
	add("an error below 0", func(p *field.Probe) { p.Error = -1 })
	add("an error too great", func(p *field.Probe) { p.Error = api.MaxSum + 1 })
	for _, n := range farNumbers {
		add("the error "+strconv.Itoa(n), func(p *field.Probe) { p.Error = n })
	}
	return l
}

// TestProbeErrors: each error of a probe, how many there may be, and what comes first.
func TestProbeErrors(t *testing.T) {
	for what, p := range badProbes() {
		in := goodInput()
		in.probes[0] = p
		expect(t, what, in, api.ErrArg, probeCalls())
		for i := range in.probes {
			in := goodInput()
			in.probes[i] = p
			expect(t, what, in, api.ErrArg, probesCalls())
			if field.ProveBest(in.Field, in.models, in.probes, 1-i, 0, []int{36, 49}) {
				t.Errorf("ProveBest accepts a probe: %s", what)
			}
		}
	}
	for n, want := range map[int]api.Errno{0: api.ErrLimit, 1: api.OK, api.MaxProbes: api.OK, api.MaxProbes + 1: api.ErrLimit} {
		in := goodInput()
		in.probes = slices.Repeat(in.probes[:1], n)
		expect(t, "many probes", in, want, probesCalls())
		if proved := field.ProveBest(in.Field, in.models, in.probes, 0, 2, slices.Repeat([]int{36}, n)); proved != (want == api.OK) {
			t.Errorf("ProveBest of %d probes: %v", n, proved)
		}
	}
	in := goodInput()
	in.probes = slices.Repeat([]field.Probe{{}}, api.MaxProbes+1)
	expect(t, "many bad probes", in, api.ErrLimit, probesCalls())
	in = goodInput()
	in.probes = []field.Probe{{Blocks: []int{0, 3}, Weights: []int{api.MaxPull, -api.MaxPull}, Error: api.MaxSum}}
	expect(t, "the limits of a probe", in, api.OK, probeCalls(), probesCalls())
	in.probes[0].Error = 0
	expect(t, "no error", in, api.OK, probeCalls(), probesCalls())
}

// TestPartyErrors: R1, the models and the measures of the first party come before those of the second one.
func TestPartyErrors(t *testing.T) {
	good := goodInput()
	party := func(models, measures string) field.Party {
		p := field.Party{Models: copyModels(good.models), Measures: copyMeasures(good.measures)}
		if models != "" {
			p.Models[1].Name = models
		}
		if measures != "" {
			p.Measures[1].Name = measures
		}
		return p
	}
	short := party("", "")
	short.Models[0].Values = nil
	wide := party("", "")
	wide.Measures[0].Kind = 1
	none := field.Party{}
	for what, c := range map[string]struct {
		a, b field.Party
		want api.Errno
	}{
		"the first one's models, and its measures":          {party("a", "Q"), none, api.ErrTwice},
		"the first one's models, and the second one's":      {party("a", ""), party("Q", ""), api.ErrTwice},
		"the first one's measures, and the second models":   {party("", "u"), party("Q", ""), api.ErrTwice},
		"the first one's measures, and the second measures": {wide, party("", "Q"), api.ErrArg},
		"the second one's models, and its measures":         {party("", ""), party("a", "Q"), api.ErrTwice},
		"the second one's measures":                         {party("", ""), party("", "Q"), api.ErrName},
		"no models of the first one":                        {none, short, api.ErrLimit},
		"no models of the second one":                       {party("", ""), none, api.ErrLimit},
		"values of the first one, no models of the second":  {short, none, api.ErrArg},
		"no error": {party("", ""), party("", ""), api.OK},
	} {
		if e := common(chapterField(), c.a, c.b); e != c.want {
			t.Errorf("Common, %s: %v, not %v", what, e, c.want)
		}
	}
}

// TestOrderOfArguments: R1, the errors of an earlier argument come before those of a later one.
func TestOrderOfArguments(t *testing.T) {
	in := goodInput()
	in.models[0].Values, in.measures[0].Name = nil, ""
	expect(t, "a model ahead of a measure", in, api.ErrArg, modelCalls(), encloseCalls(), measuresCalls())
	in = goodInput()
	in.models[2].Name = "a"
	in.measures = manyMeasures(api.MaxMeasures + 1)
	expect(t, "the models ahead of the number of measures", in, api.ErrTwice, measuresCalls())
	in.probes = nil
	expect(t, "the models ahead of the number of probes", in, api.ErrTwice, probesCalls())
	in = goodInput()
	in.measures = in.measures[:1] // leaves models
	in.measures[0].Name = ""
	expect(t, "a measure ahead of a model that is left", in, api.ErrName, measuresCalls())
}
