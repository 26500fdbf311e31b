package rock

import (
	"slices"

	"fumarole/api"
	"fumarole/field"
)

// Tick returns the state after a tick from the state, and the yields of all wells.
func Tick(b Bed, m field.Model, s State, rates []int) (State, []Yield, api.Errno) {
	grounds, e := lay(b, m)
	if e != api.OK {
		return nil, nil, e
	}
	if !b.hasState(s) {
		return nil, nil, api.ErrArg
	}
	if e := b.checkRates(rates); e != api.OK {
		return nil, nil, e
	}
	r, e := attempt(func() Run { return grounds[0].run(s, [][]int{rates}) })
	if e != api.OK {
		return nil, nil, e
	}
	return r.States[1], r.Yields[0], api.OK
}

func (b Bed) checkRates(rates []int) api.Errno {
	if len(rates) != len(b.Wells) {
		return api.ErrArg
	}
	if !every(rates, isRate) {
		return api.ErrRange
	}
	return api.OK
}

func isRate(n int) bool { return within(n, -api.MaxRate, api.MaxRate) }

// moves returns what moves in a tick, all of it found from the state before it.
func (g ground) moves(s State, rates []int) map[way]Block {
	moves := map[way]Block{}
	drives := g.drives(s)
	for link := range g.links() {
		if drives[link.from] < drives[link.to] {
			link = way{link.to, link.from}
		}
		gap := min(g.number(open, link.from), g.number(open, link.to))
		moves[link] = s[link.from].part(gap * (drives[link.from] - drives[link.to]) / 1000)
	}
	for well, rate := range rates {
		w := g.Wells[well]
		moves[way{w.Block, above}] = s[w.Block].part(max(0, rate))
		moves[way{above, w.Block}] = w.given(rate)
	}
	for block := range s {
		moves[way{below, block}] = g.fed(block)
	}
	return moves
}

// part returns what goes out of the block with so many kilograms, at most an eighth of it.
func (b Block) part(mass int) Block {
	mass = min(mass, b.Mass/8)
	return Block{mass, b.Heat * mass / b.Mass, b.Mark * mass / b.Mass}
}

// given returns what the well gives at the rate.
func (w Bore) given(rate int) Block {
	mass := max(0, -rate)
	return Block{mass, mass * w.Heat, mass * w.Mark}
}

// fed returns what the block gets from below.
func (g ground) fed(block int) Block {
	mass := g.number(feed, block)
	return Block{Mass: mass, Heat: mass * g.Deep}
}

// after returns the state when all has moved; it throws ErrFail if a block cannot hold what it has then.
func (s State) after(moves map[way]Block) State {
	next := slices.Clone(s)
	for w, x := range moves {
		if w.from >= 0 {
			next[w.from] = next[w.from].less(x)
		}
		if w.to >= 0 {
			next[w.to] = next[w.to].plus(x)
		}
	}
	if !every(next, Block.valid) {
		panic(api.ErrFail)
	}
	return next
}

func (b Block) plus(x Block) Block { return Block{b.Mass + x.Mass, b.Heat + x.Heat, b.Mark + x.Mark} }

func (b Block) less(x Block) Block { return Block{b.Mass - x.Mass, b.Heat - x.Heat, b.Mark - x.Mark} }
