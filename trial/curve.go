package trial

import (
	"sort"

	"fumarole/api"
)

// CheckTest returns the error of a test.
func CheckTest(t Test) api.Errno {
	if len(t.Steps) > api.MaxSteps {
		return api.ErrLimit
	}
	if !t.hasBox() || !every(t.Steps, Step.valid) {
		return api.ErrArg
	}
	return api.OK
}

// Agrees returns whether the test is valid, and the curve agrees with it.
func Agrees(t Test, c Curve) bool {
	return CheckTest(t) == api.OK &&
		t.A.has(c.A) && t.B.has(c.B) && t.C.has(c.C) &&
		every(t.Steps, func(s Step) bool { return s.In.has(c.at(s.Flow)) })
}

// Curves returns how many curves agree, and between what their numbers lie.
func Curves(t Test) (many int, a, b, c Range, e api.Errno) {
	l, e := agreeing(t, true)
	if e != api.OK {
		return 0, Range{}, Range{}, Range{}, e
	}
	for _, f := range l {
		many += f.rests.count()
	}
	a = enclose(l, func(f family) Range { return f.rests })
	b = enclose(l, func(f family) Range { return Range{f.B, f.B} })
	c = enclose(l, func(f family) Range { return Range{f.C, f.C} })
	return many, a, b, c, api.OK
}

// Drawdown returns between what the drawdowns at the flow lie.
func Drawdown(t Test, flow int) (Range, api.Errno) {
	l, e := agreeing(t, isFlow(flow))
	if e != api.OK {
		return Range{}, e
	}
	return drawdowns(l, flow), api.OK
}

// Capacity returns up to which flow all curves keep the limit, and up to which one some do.
func Capacity(t Test, limit int) (sure, may int, e api.Errno) {
	l, e := agreeing(t, within(limit, -api.MaxDrop, api.MaxDrop))
	if e != api.OK {
		return 0, 0, e
	}
	// No number of a curve is below 0, so that what is above the limit stays so at greater flows.
	sure = sort.Search(api.MaxFlow+1, func(flow int) bool { return drawdowns(l, flow).Hi > limit }) - 1
	may = sort.Search(api.MaxFlow+1, func(flow int) bool { return drawdowns(l, flow).Lo > limit }) - 1
	return sure, may, api.OK
}

// Widest returns the index of the flow at which the drawdowns are least known.
func Widest(t Test, flows []int) (int, api.Errno) {
	l, e := agreeing(t, within(len(flows), 1, api.MaxSteps) && every(flows, isFlow))
	if e != api.OK {
		return 0, e
	}
	widest, most := 0, 0
	for i, flow := range flows {
		if n := drawdowns(l, flow).count(); n > most {
			widest, most = i, n
		}
	}
	return widest, api.OK
}

// hasBox returns whether the box is valid.
func (t Test) hasBox() bool {
	return t.A.isFrom(0, api.MaxRest) &&
		t.B.isFrom(0, api.MaxSlope) && t.B.count() <= api.MaxWide &&
		t.C.isFrom(0, api.MaxBend) && t.C.count() <= api.MaxWide
}

func (s Step) valid() bool { return isFlow(s.Flow) && s.In.isDrop() }

// at returns the drawdown at the flow.
func (c Curve) at(flow int) int { return c.A + c.B*flow + c.C*flow*flow }

func isFlow(n int) bool { return within(n, 0, api.MaxFlow) }
