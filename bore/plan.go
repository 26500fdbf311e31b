package bore

import (
	"iter"
	"slices"

	"fumarole/api"
)

// casing is rock, and the price of each string that may case it.
type casing struct {
	rock   []Layer
	prices []int
}

// ending is the last shoes of a program, and what they cost.
type ending struct {
	shoes []int
	cost  int
}

// Cost returns the cost of a program that is safe.
func Cost(rock []Layer, prices, shoes []int) (int, api.Errno) {
	c := casing{rock, prices}
	if !c.valid() || !c.hasProgram(shoes) {
		return 0, api.ErrArg
	}
	if !c.isSafe(shoes) {
		return 0, api.ErrNone
	}
	cost := 0
	for k, b := range shoes {
		cost += c.cost(k, b)
	}
	return cost, api.OK
}

// Plan returns the cheapest program, its cost, and the greatest table.
func Plan(rock []Layer, prices []int) (shoes []int, cost int, table [][]int, e api.Errno) {
	c := casing{rock, prices}
	if !c.valid() {
		return nil, 0, nil, api.ErrArg
	}
	best := c.cheapest()
	if len(best.shoes) == 0 {
		return nil, 0, nil, api.ErrNone
	}
	return best.shoes, best.cost, c.greatestTable(), api.OK
}

// ProvePlan returns whether the program is safe and has this cost, and the table shows that no safe one costs less.
func ProvePlan(rock []Layer, prices, shoes []int, cost int, table [][]int) bool {
	found, e := Cost(rock, prices, shoes)
	c := casing{rock, prices}
	return e == api.OK && found == cost && c.hasTable(table) && c.shows(table, cost)
}

func (c casing) valid() bool {
	return CheckRock(c.rock) == api.OK &&
		within(len(c.prices), 1, api.MaxStrings) &&
		every(c.prices, func(n int) bool { return within(n, 0, api.MaxPrice) })
}

// hasProgram returns whether the list is a program.
func (c casing) hasProgram(shoes []int) bool {
	return within(len(shoes), 1, len(c.prices)) &&
		shoes[0] >= 1 &&
		isRising(shoes) &&
		shoes[len(shoes)-1] == len(c.rock)
}

// isSafe returns whether each section of the program has a window.
func (c casing) isSafe(shoes []int) bool {
	a := 0
	for _, b := range shoes {
		if _, ok := window(c.rock[a:b]); !ok {
			return false
		}
		a = b
	}
	return true
}

// cost returns the cost of the string k with its shoe after b layers.
func (c casing) cost(k, b int) int { return c.rock[b-1].Depth * c.prices[k] }

// sections yields all sections that have a window, ordered by a, then b.
func (c casing) sections() iter.Seq2[int, int] {
	return func(yield func(a, b int) bool) {
		for a := range c.rock {
			for b := a + 1; b <= len(c.rock); b++ {
				if _, ok := window(c.rock[a:b]); ok && !yield(a, b) {
					return
				}
			}
		}
	}
}

// cheapest returns the cheapest program; if none is safe it has no shoes.
func (c casing) cheapest() ending {
	// For each a the cheapest ending where a layers are cased. No program costs as much as MaxCost.
	n := len(c.rock)
	done := slices.Repeat([]ending{{cost: api.MaxCost}}, n+1)
	done[n] = ending{}
	endings := done
	for k := len(c.prices) - 1; k >= 0; k-- {
		longer := slices.Clone(done)
		for a, b := range c.sections() {
			// Of several that cost the same, the one with the least shoe comes first.
			if cost := c.cost(k, b) + endings[b].cost; cost < longer[a].cost {
				longer[a] = ending{append([]int{b}, endings[b].shoes...), cost}
			}
		}
		endings = longer
	}
	return endings[0]
}

// greatestTable fills a table, each row with the greatest numbers that those before it allow.
func (c casing) greatestTable() [][]int {
	var table [][]int
	for k := range c.prices {
		table = append(table, c.greatestRow(table, k))
	}
	return table
}

// greatestRow returns the greatest numbers for the string k, as far as the row before it in the table allows.
func (c casing) greatestRow(table [][]int, k int) []int {
	row := slices.Repeat([]int{api.MaxCost}, len(c.rock))
	fill := func(b, before int) { row[b-1] = min(row[b-1], before+c.cost(k, b)) }
	for a, b := range c.sections() {
		switch {
		case k == 0 && a == 0:
			fill(b, 0)
		case k > 0 && a > 0:
			fill(b, table[k-1][a-1])
		}
	}
	return row
}

// hasTable returns whether there is a row for each price, with a number for each layer.
func (c casing) hasTable(table [][]int) bool {
	return len(table) == len(c.prices) && every(table, func(row []int) bool {
		return len(row) == len(c.rock) && every(row, isCost)
	})
}

// shows returns whether the table shows that no safe program costs less.
func (c casing) shows(table [][]int, cost int) bool {
	last := len(c.rock) - 1
	for k, greatest := range c.greatestTable() {
		for b, most := range c.greatestRow(table, k) {
			if table[k][b] > most {
				return false
			}
		}
		// No program costs as much as MaxCost: a greatest number below it is what some safe one costs.
		if greatest[last] < api.MaxCost && table[k][last] < cost {
			return false
		}
	}
	return true
}

func isCost(n int) bool { return within(n, 0, api.MaxCost) }
