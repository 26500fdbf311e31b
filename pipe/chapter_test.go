package pipe_test

import (
	"slices"
	"testing"

	"fumarole/api"
	"fumarole/pipe"
	"fumarole/steam"
)

// TestChapterExamples: the examples of the chapter, in its order.
func TestChapterExamples(t *testing.T) {
	n, wells, zero := chapterNet(), chapterCase(), []int{0, 0, 0}
	if l := ends(t, n); !slices.Equal(l, ports(2, 0, 2, 1)) {
		t.Errorf("Ends: %v", l)
	}
	x := do(t, n, zero, wells...)
	if !slices.Equal(x.Out[2], []steam.Stream{stream(271, 542596, 12150, 50), stream(729, 307404, 109350, 0)}) {
		t.Errorf("Do, out: %v", x.Out)
	}
	if !slices.Equal(x.Lost, []pipe.Lost{{}, {Heat: 2000}, {Scale: 128500}}) {
		t.Errorf("Do, lost: %v", x.Lost)
	}
	ticks, full, e := pipe.Life(n, zero, wells, 20)
	if ticks != 8 || full != 2 || e != api.OK {
		t.Errorf("Life: %d, %d, %v", ticks, full, e)
	}
	if l, e := pipe.Widths(n, []int{0, 0, 8 * 128500}); !slices.Equal(l, []int{1000, 1000, 999}) || e != api.OK {
		t.Errorf("Widths then: %v, %v", l, e)
	}
	cases := [][]steam.Stream{wells}
	if at, element, e := pipe.Unsafe(n, zero, cases); at != 0 || element != 2 || e != api.OK {
		t.Errorf("Unsafe: %d, %d, %v", at, element, e)
	}
	if l, made, e := pipe.Best(n, zero, cases); !slices.Equal(l, []int{1}) || made != 103 || e != api.OK {
		t.Errorf("Best: %v, %d, %v", l, made, e)
	}
	x = do(t, set(t, n, 2), zero, wells...)
	if !slices.Equal(x.Out[2], []steam.Stream{stream(100, 85000, 25000, 5), stream(900, 765000, 225000, 45)}) {
		t.Errorf("Do with the level 2: %v", x.Out)
	}
	if l := [6]uint8{pipe.Well, pipe.Join, pipe.Line, pipe.Separator, pipe.Split, pipe.Valve}; l != [6]uint8{1, 2, 3, 4, 5, 6} {
		t.Errorf("Well, Join, Line, Separator, Split, Valve: %v", l)
	}
}

// TestDocumentExample: the sixth example of DOC.md.
func TestDocumentExample(t *testing.T) {
	in, out, lost, e := pipe.Account(chapterNet(), []int{0, 0, 0}, chapterCase())
	if in != chapterCase()[0] || out != stream(1000, 850000, 121500, 50) || lost != (pipe.Lost{Heat: 2000, Scale: 128500}) || e != api.OK {
		t.Errorf("Account: %v, %v, %v, %v", in, out, lost, e)
	}
	if l, e := pipe.Falls(chapterNet(), []int{0, 0, 0}, chapterCase()); !slices.Equal(l, []pipe.Fall{{Element: 2, Scale: 128500}}) || e != api.OK {
		t.Errorf("Falls: %v, %v", l, e)
	}
}

// spoil clears the list, and what its memory has behind it.
func spoil[T any](l []T) { clear(l[:cap(l)]) }

func roomy[T any](l ...T) []T { return slices.Grow(l, 40) }

// given is all that the calls are given, with memory behind each list.
type given struct {
	net    pipe.Net
	state  []int
	cases  [][]steam.Stream
	levels []int
}

// quiet gives arguments whose lists look alike: two wells, each with a split and a separator behind it.
func quiet() given {
	g := given{
		net: net(
			well(2), well(2), split(2, 0, 0, roomy(1, 1)...), split(2, 1, 0, roomy(1, 1)...),
			separator(1, 0, 2, 0), separator(1, 0, 3, 0), join(1, roomy(ports(4, 0, 5, 0)...)...), line(0, 0, 6, 0),
		),
		state:  roomy(make([]int, 8)...),
		levels: roomy(1, 1),
	}
	g.net.Table, g.net.Elements = roomy(g.net.Table...), roomy(g.net.Elements...)
	for range 2 {
		g.cases = append(g.cases, roomy(stream(100, 70000, 28000, 6), stream(100, 70000, 28000, 6)))
	}
	return g
}

func sameList[T comparable](a, b []T) bool {
	return slices.Equal(a, b) && slices.Equal(a[:cap(a)], b[:cap(b)])
}

// same gives whether the arguments are alike, with what is behind the lists.
func (g given) same(x given) bool {
	return sameList(g.net.Table, x.net.Table) && sameList(g.state, x.state) && sameList(g.levels, x.levels) &&
		slices.EqualFunc(g.cases, x.cases, sameList) &&
		slices.EqualFunc(g.net.Elements[:cap(g.net.Elements)], x.net.Elements[:cap(x.net.Elements)], func(a, b pipe.Element) bool {
			return sameElement(a, b) && sameList(a.From, b.From) && sameList(a.Weights, b.Weights)
		})
}

// TestMemory: R4, arguments stay as they are, and what is returned is new.
func TestMemory(t *testing.T) {
	g := quiet()
	for range 2 {
		wells := g.cases[0]
		pipe.CheckNet(g.net)
		spoil(ends(t, g.net))
		widths, e := pipe.Widths(g.net, g.state)
		if !slices.Equal(widths, slices.Repeat([]int{api.MaxMass}, 8)) || e != api.OK {
			t.Errorf("Widths: %v, %v", widths, e)
		}
		spoil(widths)
		pipe.Account(g.net, g.state, wells)
		pipe.Life(g.net, g.state, wells, 9)
		pipe.Falls(g.net, g.state, wells)
		covers, e := pipe.Covers(g.net, g.state, g.cases)
		if len(covers) != 5 || e != api.OK {
			t.Errorf("Covers: %v, %v", covers, e)
		}
		spoil(covers)
		pipe.Unsafe(g.net, g.state, g.cases)
		levels, made, e := pipe.Best(g.net, g.state, g.cases)
		if !slices.Equal(levels, []int{1, 1}) || made != 2 || e != api.OK {
			t.Errorf("Best: %v, %d, %v", levels, made, e)
		}
		spoil(levels)
		m := set(t, g.net, g.levels...)
		if !sameNet(m, g.net) {
			t.Errorf("Set: %v", m)
		}
		for _, x := range m.Elements {
			spoil(x.From)
			spoil(x.Weights)
		}
		spoil(m.Table)
		spoil(m.Elements)
		if !g.same(quiet()) {
			t.Fatalf("arguments were changed: %v", g)
		}
	}
}

// TestMemoryOfTicks: R4, the lists of a tick share nothing with each other, nor with the arguments.
func TestMemoryOfTicks(t *testing.T) {
	g := quiet()
	want, _, _ := trueTick(g.net, g.state, g.cases[0])
	for i := range want.Out {
		x := do(t, g.net, g.state, g.cases[0]...)
		if !sameTick(x, want) {
			t.Fatalf("Do: %v", x)
		}
		spoil(x.Lost)
		spoil(x.State)
		spoil(x.Out[i])
		for j := range want.Out {
			if j != i && !slices.Equal(x.Out[j], want.Out[j]) {
				t.Errorf("what goes out of %d is shared with %d: %v", j, i, x.Out[j])
			}
		}
		if !g.same(quiet()) {
			t.Fatalf("arguments were changed: %v", g)
		}
	}
	// The net that is set shares nothing within itself either.
	for i := range g.net.Elements {
		m := set(t, g.net, g.levels...)
		spoil(m.Elements[i].From)
		spoil(m.Elements[i].Weights)
		for j, x := range m.Elements {
			if j != i && !sameElement(x, g.net.Elements[j]) {
				t.Errorf("the element %d is shared with %d: %v", j, i, x)
			}
		}
	}
}
