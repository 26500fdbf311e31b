package steam_test

import (
	"slices"
	"testing"

	"fumarole/api"
	"fumarole/steam"
)

// TestChapterExamples: the examples of the chapter, in its order.
func TestChapterExamples(t *testing.T) {
	table, s := chapterTable(), chapterStream()
	want := steam.Parts{
		Steam: steam.Stream{Mass: 191, Heat: 511116, Gas: 50},
		Water: steam.Stream{Mass: 809, Heat: 340884, Silica: 121350},
		Rest:  1913,
		Scale: 128650,
	}
	if p := flash(t, table, 0, s); p != want {
		t.Errorf("Flash at 0: %v", p)
	}
	if p := flash(t, table, 2, s); p != (steam.Parts{Water: s}) {
		t.Errorf("Flash at 2: %v", p)
	}
	l := train(t, table, []int{1, 0}, s)
	if l[0].Steam.Mass != 104 || l[0].Rest != 144 || l[0].Scale != 0 || l[1].Steam.Mass != 84 || l[1].Rest != 1404 || l[1].Scale != 128200 {
		t.Errorf("Train: %v", l)
	}
	if n, e := steam.Deepest(table, []steam.Stream{s}); n != 1 || e != api.OK {
		t.Errorf("Deepest: %d, %v", n, e)
	}
	parts, lost, e := steam.Share(steam.Stream{Mass: 10, Heat: 1001}, []int{1, 1, 1})
	if !slices.Equal(parts, []steam.Stream{{Mass: 4, Heat: 400}, {Mass: 3, Heat: 300}, {Mass: 3, Heat: 300}}) || lost != (steam.Loss{Heat: 1}) || e != api.OK {
		t.Errorf("Share: %v, %v, %v", parts, lost, e)
	}
	if r, e := steam.Saturation(table, 125); r != (steam.Ratio{N: 577, D: 2}) || e != api.OK {
		t.Errorf("Saturation: %v, %v", r, e)
	}
	if n, e := steam.At(table, 1000); n != 1 || e != api.OK {
		t.Errorf("At: %d, %v", n, e)
	}
	a, b, e := steam.Bounds(table, 0, 1000, steam.Range{Lo: 852000, Hi: 900000}, steam.Range{Lo: 0, Hi: 250000})
	if a != (steam.Range{Lo: 191, Hi: 213}) || b != (steam.Range{Lo: 0, Hi: 131950}) || e != api.OK {
		t.Errorf("Bounds: %v, %v, %v", a, b, e)
	}
}

// TestErrorOrder: R1, the first error of the chapter's table counts when several apply; R2, it stands alone.
func TestErrorOrder(t *testing.T) {
	bad, good := chapterTable(), chapterTable()
	bad[1].P = 0
	wrong, low := steam.Stream{Mass: -1}, steam.Range{Lo: 1}
	many := slices.Repeat([]steam.Stream{wrong}, api.MaxStreams+1)
	heavy := steam.Stream{Mass: api.MaxMass}
	scaling := steam.Stream{Mass: 1, Silica: api.MaxGrain}

	mix := func(l ...steam.Stream) api.Errno {
		s, e := steam.Mix(l)
		return alone(e, s == steam.Stream{})
	}
	share := func(s steam.Stream, w ...int) api.Errno {
		l, lost, e := steam.Share(s, w)
		return alone(e, len(l) == 0 && lost == steam.Loss{})
	}
	heated := func(s steam.Stream, n int) api.Errno {
		x, e := steam.Heated(s, n)
		return alone(e, x == steam.Stream{})
	}
	exchange := func(a, b steam.Stream, n int) api.Errno {
		x, y, e := steam.Exchange(a, b, n)
		return alone(e, x == steam.Stream{} && y == steam.Stream{})
	}
	at := func(table steam.Table, n int) api.Errno {
		x, e := steam.At(table, n)
		return alone(e, x == 0)
	}
	saturation := func(table steam.Table, n int) api.Errno {
		x, e := steam.Saturation(table, n)
		return alone(e, x == steam.Ratio{})
	}
	flashed := func(table steam.Table, level int, s steam.Stream) api.Errno {
		p, e := steam.Flash(table, level, s)
		return alone(e, p == steam.Parts{})
	}
	trained := func(table steam.Table, s steam.Stream, levels ...int) api.Errno {
		l, e := steam.Train(table, levels, s)
		return alone(e, len(l) == 0)
	}
	deepest := func(table steam.Table, l ...steam.Stream) api.Errno {
		n, e := steam.Deepest(table, l)
		return alone(e, n == 0)
	}
	bounds := func(table steam.Table, level, mass int, heat, silica steam.Range) api.Errno {
		a, b, e := steam.Bounds(table, level, mass, heat, silica)
		return alone(e, a == steam.Range{} && b == steam.Range{})
	}
	for name, c := range map[string][2]api.Errno{
		"Mix, many before one that is not valid":    {mix(many...), api.ErrLimit},
		"Mix, one that is not valid before the sum": {mix(heavy, heavy, wrong), api.ErrArg},
		"Mix, the sum":                                    {mix(heavy, heavy), api.ErrLimit},
		"Share, the stream":                               {share(wrong, 0), api.ErrArg},
		"Share, the weights":                              {share(heavy, 0), api.ErrArg},
		"Heated, the stream before the heat":              {heated(wrong, -1), api.ErrArg},
		"Heated, the heat":                                {heated(heavy, -1), api.ErrRange},
		"Exchange, the first before the kilojoules":       {exchange(wrong, heavy, -1), api.ErrArg},
		"Exchange, the second before the kilojoules":      {exchange(heavy, wrong, -1), api.ErrArg},
		"Exchange, the kilojoules":                        {exchange(heavy, heavy, -1), api.ErrRange},
		"At, the table before the pressure":               {at(bad, -1), api.ErrArg},
		"At, the pressure":                                {at(good, -1), api.ErrNone},
		"Saturation, the table before the temperature":    {saturation(bad, -1), api.ErrArg},
		"Saturation, the temperature":                     {saturation(good, -1), api.ErrRange},
		"Flash, the table before the level":               {flashed(bad, -1, wrong), api.ErrArg},
		"Flash, the level before the stream":              {flashed(good, -1, wrong), api.ErrRange},
		"Flash, the stream":                               {flashed(good, 0, wrong), api.ErrArg},
		"Train, the table before the levels":              {trained(bad, wrong, 0, 1), api.ErrArg},
		"Train, a level before the stream":                {trained(good, wrong, 3), api.ErrRange},
		"Train, the order of levels before the stream":    {trained(good, wrong, 0, 1), api.ErrRange},
		"Train, the number of levels before the stream":   {trained(good, wrong), api.ErrRange},
		"Train, the stream":                               {trained(good, wrong, 1, 0), api.ErrArg},
		"Deepest, the table before the number of streams": {deepest(bad, many...), api.ErrArg},
		"Deepest, the table before no streams":            {deepest(bad), api.ErrArg},
		"Deepest, many before one that is not valid":      {deepest(good, many...), api.ErrLimit},
		"Deepest, one that is not valid before safety":    {deepest(good, scaling, wrong), api.ErrArg},
		"Deepest, no streams":                             {deepest(good), api.ErrArg},
		"Deepest, safety":                                 {deepest(good, scaling), api.ErrNone},
		"Bounds, the table before the level":              {bounds(bad, -1, -1, low, low), api.ErrArg},
		"Bounds, the level before the mass":               {bounds(good, -1, -1, low, low), api.ErrRange},
		"Bounds, the level before the ranges":             {bounds(good, 3, 1, low, low), api.ErrRange},
		"Bounds, the mass":                                {bounds(good, 0, -1, steam.Range{}, steam.Range{}), api.ErrArg},
		"Bounds, the ranges":                              {bounds(good, 0, 1, low, steam.Range{}), api.ErrArg},
	} {
		if c[0] != c[1] {
			t.Errorf("%s: %v, not %v", name, c[0], c[1])
		}
	}
}

// notAlone stands for an error beside which another result is not zero.
const notAlone api.Errno = -1

func alone(e api.Errno, zero bool) api.Errno {
	if e != api.OK && !zero {
		return notAlone
	}
	return e
}

// TestMemory: R4, arguments stay as they are, and what is returned is new.
func TestMemory(t *testing.T) {
	table, streams := chapterTable(), []steam.Stream{chapterStream(), {Mass: 3, Heat: 4, Silica: 5, Gas: 6}}
	levels, weights := []int{2, 1, 0}, []int{3, 1, 2, 0, 3}
	calls := func() ([]steam.Stream, []steam.Parts) {
		steam.CheckTable(table)
		steam.Mix(streams)
		steam.At(table, 500)
		steam.Saturation(table, 120)
		steam.Flash(table, 0, streams[0])
		steam.Deepest(table, streams)
		steam.Bounds(table, 0, 5, steam.Range{}, steam.Range{})
		parts, _, _ := steam.Share(streams[0], weights)
		l, _ := steam.Train(table, levels, streams[0])
		return parts, l
	}
	parts, l := calls()
	if !slices.Equal(table, chapterTable()) || !slices.Equal(streams, []steam.Stream{chapterStream(), {Mass: 3, Heat: 4, Silica: 5, Gas: 6}}) || !slices.Equal(levels, []int{2, 1, 0}) || !slices.Equal(weights, []int{3, 1, 2, 0, 3}) {
		t.Errorf("arguments were changed: %v, %v, %v, %v", table, streams, levels, weights)
	}
	wantParts, wantTrain := slices.Clone(parts), slices.Clone(l)
	clear(parts[:cap(parts)])
	clear(l[:cap(l)])
	parts, l = calls()
	if !slices.Equal(parts, wantParts) || !slices.Equal(l, wantTrain) {
		t.Errorf("a result of an earlier call was kept")
	}
	clear(table)
	clear(streams)
	clear(levels)
	clear(weights)
	if !slices.Equal(parts, wantParts) || !slices.Equal(l, wantTrain) {
		t.Errorf("a result shares memory with an argument")
	}
}
