package rock

import (
	"fumarole/api"
	"fumarole/field"
)

// course is a ground with a run of it.
type course struct {
	ground
	Run
}

// Play returns the run of the model.
func Play(b Bed, m field.Model, plan [][]int) (Run, api.Errno) {
	c, e := follow(b, m, plan)
	return c.Run, e
}

// Balance returns what all blocks held before the run of the model and after it, and what came and went.
func Balance(b Bed, m field.Model, plan [][]int) (Account, api.Errno) {
	c, e := follow(b, m, plan)
	if e != api.OK {
		return Account{}, e
	}
	return c.account(plan), api.OK
}

// follow returns the course of one model.
func follow(b Bed, m field.Model, plan [][]int) (course, api.Errno) {
	grounds, e := expect(b, plan, m)
	if e != api.OK {
		return course{}, e
	}
	courses, e := play(grounds, plan)
	if e != api.OK {
		return course{}, e
	}
	return courses[0], api.OK
}

// expect returns the bed with each of the models, or the first error of the bed, of the models and of the plan.
func expect(b Bed, plan [][]int, models ...field.Model) ([]ground, api.Errno) {
	grounds, e := lay(b, models...)
	if e != api.OK {
		return nil, e
	}
	if len(plan) > api.MaxRun {
		return nil, api.ErrLimit
	}
	for _, rates := range plan {
		if e := b.checkRates(rates); e != api.OK {
			return nil, e
		}
	}
	return grounds, api.OK
}

// play returns the course of each ground, or ErrFail if a tick fails in one of them.
func play(grounds []ground, plan [][]int) ([]course, api.Errno) {
	return attempt(func() []course {
		var courses []course
		for _, g := range grounds {
			courses = append(courses, course{g, g.run(g.start(), plan)})
		}
		return courses
	})
}

// attempt returns what the function returns, or ErrFail if it throws anything: no call may panic.
func attempt[T any](do func() T) (result T, e api.Errno) {
	defer func() {
		if recover() != nil {
			e = api.ErrFail
		}
	}()
	return do(), api.OK
}

// run returns the run of the plan from a state on; it throws ErrFail if a tick fails.
func (g ground) run(s State, plan [][]int) Run {
	r := Run{States: []State{s}}
	for _, rates := range plan {
		moves := g.moves(s, rates)
		s = s.after(moves)
		r.States = append(r.States, s)
		r.Yields = append(r.Yields, g.yields(moves))
	}
	return r
}

// yields returns what each well takes: no two of them have the same block.
func (b Bed) yields(moves map[way]Block) []Yield {
	var l []Yield
	for _, w := range b.Wells {
		l = append(l, Yield(moves[way{w.Block, above}]))
	}
	return l
}

func (c course) account(plan [][]int) Account {
	a := Account{Before: total(c.States[0]), After: total(c.States[len(plan)])}
	for tick, rates := range plan {
		for block := range c.size() {
			a.Fed = a.Fed.plus(c.fed(block))
		}
		for well, rate := range rates {
			a.Given = a.Given.plus(c.Wells[well].given(rate))
			a.Taken = a.Taken.plus(Block(c.Yields[tick][well]))
		}
	}
	return a
}

// total returns the sums over all blocks.
func total(s State) Block {
	var sum Block
	for _, b := range s {
		sum = sum.plus(b)
	}
	return sum
}
