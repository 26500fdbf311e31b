package field

import (
	"iter"
	"strconv"

	"fumarole/api"
)

// survey is how blocks of a field are measured.
type survey struct {
	Field
	reaches func(place) bool
	weight  func(place) int
}

// Column returns a measure for each reading, of the blocks at (x, y) from the surface on.
func Column(f Field, name string, kind, x, y int, readings []int, off int) ([]Measure, api.Errno) {
	if e := CheckField(f); e != api.OK {
		return nil, e
	}
	if !isName(name) || len(readings) > 0 && len(name) == api.MaxName {
		return nil, api.ErrName
	}
	if !f.isSite(kind, x, y) || len(readings) > f.Z || !areValues(readings) || !within(off, 0, api.MaxValue) {
		return nil, api.ErrRange
	}
	var column []Measure
	for z, reading := range readings {
		here := survey{f, func(p place) bool { return p == place{x, y, z} }, single}
		in := Range{reading - off, reading + off}
		column = append(column, here.measure(name+strconv.Itoa(z), kind, in))
	}
	return column, api.OK
}

// Station returns the measure of all blocks, with less weight for those that are farther away.
func Station(f Field, name string, kind, x, y int, in Range) (Measure, api.Errno) {
	if e := checkSite(f, name, kind, x, y, f.Z, in); e != api.OK {
		return Measure{}, e
	}
	all := survey{f, func(place) bool { return true }, func(p place) int {
		return 1000 / (square(p.x-x) + square(p.y-y) + square(p.z+1))
	}}
	return all.measure(name, kind, in), api.OK
}

// Sounding returns the measure of the blocks below (x, y) that lie in a pyramid with the tip at the depth.
func Sounding(f Field, name string, kind, x, y, depth int, in Range) (Measure, api.Errno) {
	if e := checkSite(f, name, kind, x, y, depth, in); e != api.OK {
		return Measure{}, e
	}
	pyramid := survey{f, func(p place) bool {
		width := depth - 1 - p.z // below 0 underneath the tip, which no distance is
		return distance(p.x, x) <= width && distance(p.y, y) <= width
	}, single}
	return pyramid.measure(name, kind, in), api.OK
}

// checkSite returns the errors of a station or a sounding; a station goes down to the last layer.
func checkSite(f Field, name string, kind, x, y, depth int, in Range) api.Errno {
	if e := CheckField(f); e != api.OK {
		return e
	}
	if !isName(name) {
		return api.ErrName
	}
	if !f.isSite(kind, x, y) || !within(depth, 1, f.Z) {
		return api.ErrRange
	}
	if !in.valid() {
		return api.ErrArg
	}
	return api.OK
}

// isSite returns whether numbers of the kind can be measured at (x, y) on the surface.
func (f Field) isSite(kind, x, y int) bool { return f.isKind(kind) && f.has(place{x, y, 0}) }

// measure returns the measure of the blocks that the survey reaches.
func (s survey) measure(name string, kind int, in Range) Measure {
	m := Measure{Name: name, Kind: kind, In: in}
	for block, p := range s.blocks() {
		m.Blocks = append(m.Blocks, block)
		m.Weights = append(m.Weights, s.weight(p))
	}
	return m
}

// blocks yields the numbers and the places of the blocks that the survey reaches.
func (s survey) blocks() iter.Seq2[int, place] {
	return func(yield func(int, place) bool) {
		for block := range s.size() {
			if p := s.place(block); s.reaches(p) && !yield(block, p) {
				return
			}
		}
	}
}

// single is the weight of blocks that are measured as they are.
func single(place) int { return 1 }

func square(n int) int { return n * n }

func distance(a, b int) int { return max(a-b, b-a) }
