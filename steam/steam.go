// Package steam is layer 1: water and steam by tables, and streams whose mass, heat, silica and gas are counted to the last unit.
package steam

// Row is a level of a table: a temperature, the pressure at which water boils at it, and what a kilogram holds there.
type Row struct{ T, P, Liquid, Vapour, Silica int }

// Table is a list of levels, the lowest one first.
type Table []Row

// Stream is a mass with its heat, its silica and its gas.
type Stream struct{ Mass, Heat, Silica, Gas int }

// Loss is what rounding leaves over when a stream is shared.
type Loss struct{ Heat, Silica, Gas int }

// Parts is what a flash makes of a stream.
type Parts struct {
	Steam, Water Stream
	Rest, Scale  int
}

// Range is all whole numbers from Lo to Hi.
type Range struct{ Lo, Hi int }

// Ratio is the fraction N/D.
type Ratio struct{ N, D int }

// within returns whether n is from lo to hi.
func within(n, lo, hi int) bool { return lo <= n && n <= hi }

// every returns whether the condition holds for all elements of the list.
func every[T any](l []T, holds func(T) bool) bool {
	for _, x := range l {
		if !holds(x) {
			return false
		}
	}
	return true
}
