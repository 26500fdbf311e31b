package steam_test

import (
	"math/big"
	"testing"

	"fumarole/api"
	"fumarole/steam"
)

// TestCheckTableValid: P1.1, tables at the edges of what is valid.
func TestCheckTableValid(t *testing.T) {
	for name, table := range map[string]steam.Table{
		"chapter":                  chapterTable(),
		"two rows":                 longTable(2),
		"MaxRows rows":             longTable(api.MaxRows),
		"least and greatest":       {{T: 0, P: 1, Liquid: 0, Vapour: 1, Silica: 0}, {T: api.MaxTemp, P: api.MaxPressure, Liquid: api.MaxEnthalpy - 1, Vapour: api.MaxEnthalpy, Silica: api.MaxSilica}},
		"one more each":            {{T: 7, P: 7, Liquid: 7, Vapour: 8, Silica: 7}, {T: 8, P: 8, Liquid: 8, Vapour: 9, Silica: 7}},
		"silica stays":             {{T: 1, P: 1, Liquid: 1, Vapour: 9, Silica: api.MaxSilica}, {T: 2, P: 2, Liquid: 2, Vapour: 9, Silica: api.MaxSilica}},
		"vapour falls":             {{T: 1, P: 1, Liquid: 1, Vapour: 4000}, {T: 2, P: 2, Liquid: 2, Vapour: 3}},
		"vapour below next liquid": {{T: 1, P: 1, Liquid: 1, Vapour: 2}, {T: 2, P: 2, Liquid: 3, Vapour: 4}},
	} {
		if e := steam.CheckTable(table); e != api.OK {
			t.Errorf("%s: %v", name, e)
		}
	}
}

// invalidTables gives tables that are just beyond what is valid, each by one thing.
func invalidTables() map[string]steam.Table {
	l := map[string]steam.Table{
		"nil":        nil,
		"no rows":    {},
		"one row":    chapterTable()[:1],
		"a row more": longTable(api.MaxRows + 1),
	}
	change := func(name string, f func(steam.Table)) {
		x := chapterTable()
		f(x)
		l[name] = x
	}
	change("T below 0", func(x steam.Table) { x[0].T = -1 })
	change("T above MaxTemp", func(x steam.Table) { x[2].T = api.MaxTemp + 1 })
	change("P 0", func(x steam.Table) { x[0].P = 0 })
	change("P above MaxPressure", func(x steam.Table) { x[2].P = api.MaxPressure + 1 })
	change("Liquid below 0", func(x steam.Table) { x[0].Liquid = -1 })
	change("Liquid and Vapour above MaxEnthalpy", func(x steam.Table) { x[2].Liquid, x[2].Vapour = api.MaxEnthalpy+1, api.MaxEnthalpy+2 })
	change("Vapour above MaxEnthalpy", func(x steam.Table) { x[2].Vapour = api.MaxEnthalpy + 1 })
	change("Vapour as Liquid", func(x steam.Table) { x[1].Vapour = x[1].Liquid })
	change("Vapour below Liquid", func(x steam.Table) { x[1].Vapour = x[1].Liquid - 1 })
	change("Silica below 0", func(x steam.Table) { x[0].Silica = -1 })
	change("Silica above MaxSilica", func(x steam.Table) { x[2].Silica = api.MaxSilica + 1 })
	change("T stays", func(x steam.Table) { x[1].T = x[0].T })
	change("T falls", func(x steam.Table) { x[2].T = x[1].T - 1 })
	change("P stays", func(x steam.Table) { x[2].P = x[1].P })
	change("P falls", func(x steam.Table) { x[1].P = x[0].P - 1 })
	change("Liquid stays", func(x steam.Table) { x[1].Liquid = x[0].Liquid })
	change("Liquid falls", func(x steam.Table) { x[2].Liquid = x[1].Liquid - 1 })
	change("Silica falls", func(x steam.Table) { x[2].Silica = x[1].Silica - 1 })
	change("far numbers", func(x steam.Table) {
		x[2] = steam.Row{T: 1 << 62, P: 1 << 62, Liquid: 1 << 62, Vapour: 1<<62 + 1, Silica: 1 << 62}
	})
	return l
}

// TestCheckTableInvalid: P1.1, and the same error from each call with a table.
func TestCheckTableInvalid(t *testing.T) {
	for name, table := range invalidTables() {
		if e := steam.CheckTable(table); e != api.ErrArg {
			t.Errorf("CheckTable, %s: %v", name, e)
		}
		if n, e := steam.At(table, 1000); n != 0 || e != api.ErrArg {
			t.Errorf("At, %s: %v, %v", name, n, e)
		}
		if r, e := steam.Saturation(table, 150); r != (steam.Ratio{}) || e != api.ErrArg {
			t.Errorf("Saturation, %s: %v, %v", name, r, e)
		}
		if p, e := steam.Flash(table, 0, chapterStream()); p != (steam.Parts{}) || e != api.ErrArg {
			t.Errorf("Flash, %s: %v, %v", name, p, e)
		}
		if l, e := steam.Train(table, []int{0}, chapterStream()); len(l) != 0 || e != api.ErrArg {
			t.Errorf("Train, %s: %v, %v", name, l, e)
		}
		if n, e := steam.Deepest(table, []steam.Stream{chapterStream()}); n != 0 || e != api.ErrArg {
			t.Errorf("Deepest, %s: %v, %v", name, n, e)
		}
		if a, b, e := steam.Bounds(table, 0, 0, steam.Range{}, steam.Range{}); a != (steam.Range{}) || b != (steam.Range{}) || e != api.ErrArg {
			t.Errorf("Bounds, %s: %v, %v, %v", name, a, b, e)
		}
	}
}

// TestAt: P1.1, at, below and above the pressures of the rows.
func TestAt(t *testing.T) {
	for p, want := range map[int]int{101: 0, 102: 0, 475: 0, 476: 1, 477: 1, 1554: 1, 1555: 2, 1556: 2, api.MaxPressure: 2, api.MaxPressure + 1: 2, 1 << 62: 2} {
		if n, e := steam.At(chapterTable(), p); n != want || e != api.OK {
			t.Errorf("At %d: %d, %v", p, n, e)
		}
	}
	for _, p := range []int{100, 1, 0, -1, -1 << 63} {
		if n, e := steam.At(chapterTable(), p); n != 0 || e != api.ErrNone {
			t.Errorf("At %d: %d, %v", p, n, e)
		}
	}
}

// TestSaturation: P1.1, at the temperature of a row, and between two rows.
func TestSaturation(t *testing.T) {
	for temp, want := range map[int]steam.Ratio{
		100: {N: 101, D: 1},
		101: {N: 217, D: 2},    // 101 + 375/50
		110: {N: 176, D: 1},    // a whole number between two rows
		125: {N: 577, D: 2},    // the chapter's example
		149: {N: 937, D: 2},    // 476 - 375/50
		150: {N: 476, D: 1},    // the row in the middle
		151: {N: 24879, D: 50}, // 476 + 1079/50
		200: {N: 1555, D: 1},
	} {
		if r, e := steam.Saturation(chapterTable(), temp); r != want || e != api.OK {
			t.Errorf("Saturation at %d: %v, %v", temp, r, e)
		}
	}
	for _, temp := range append([]int{99, 201, 0, -1}, farNumbers...) {
		if r, e := steam.Saturation(chapterTable(), temp); r != (steam.Ratio{}) || e != api.ErrRange {
			t.Errorf("Saturation at %d: %v, %v", temp, r, e)
		}
	}
}

// TestSaturationRises: P1.13, and that each pressure is on the straight line between the two rows around it.
func TestSaturationRises(t *testing.T) {
	d := &dice{state: 13}
	for range 300 {
		table := d.table()
		var last *big.Rat
		for temp, i := table[0].T, 0; temp <= table[len(table)-1].T; temp++ {
			r, e := steam.Saturation(table, temp)
			if e != api.OK || r.D < 1 {
				t.Fatalf("Saturation(%v, %d): %v, %v", table, temp, r, e)
			}
			now := big.NewRat(int64(r.N), int64(r.D))
			if now.Denom().Int64() != int64(r.D) {
				t.Errorf("Saturation(%v, %d): %v is not in lowest terms", table, temp, r)
			}
			if last != nil && now.Cmp(last) <= 0 {
				t.Errorf("Saturation(%v, %d): %v, and %v before it", table, temp, now, last)
			}
			last = now
			if temp > table[i].T && temp >= table[i+1].T {
				i++
			}
			if temp == table[i].T {
				if r != (steam.Ratio{N: table[i].P, D: 1}) {
					t.Errorf("Saturation(%v, %d): %v at the row %d", table, temp, r, i)
				}
				continue
			}
			low, high := table[i], table[i+1]
			rise := big.NewRat(int64((high.P-low.P)*(temp-low.T)), int64(high.T-low.T))
			if now.Cmp(rise.Add(rise, big.NewRat(int64(low.P), 1))) != 0 {
				t.Errorf("Saturation(%v, %d): %v is not on the line", table, temp, r)
			}
		}
	}
}

// TestAtRows: P1.13, At of a row's pressure is the row, and of one less the row below it.
func TestAtRows(t *testing.T) {
	d := &dice{state: 14}
	for range 300 {
		table := d.table()
		for i, r := range table {
			if n, e := steam.At(table, r.P); n != i || e != api.OK {
				t.Errorf("At(%v, %d): %d, %v", table, r.P, n, e)
			}
			n, e := steam.At(table, r.P-1)
			if i > 0 && (n != i-1 || e != api.OK) || i == 0 && (n != 0 || e != api.ErrNone) {
				t.Errorf("At(%v, %d): %d, %v", table, r.P-1, n, e)
			}
		}
	}
}
