package plant

import (
	"fumarole/api"
	"fumarole/steam"
)

// course is a line at work; the account's Hot and Brine are what has become of steam and brine so far.
type course struct {
	Line
	Account
	cold steam.Stream
}

// Settle returns the account of the line.
func Settle(l Line, brine, cold steam.Stream) (Account, api.Errno) {
	if !l.valid() || !isStream(brine) || !isStream(cold) {
		return Account{}, api.ErrArg
	}
	c := course{Line: l, Account: Account{Brine: brine}, cold: cold}
	if e := inOrder(c.flash, c.expand, c.condense, c.cool, c.run); e != api.OK {
		return Account{}, e
	}
	return c.Account, api.OK
}

// inOrder lets each machine do its work, and returns the error of the first one that cannot.
func inOrder(machines ...func()) (e api.Errno) {
	defer func() {
		thrown := recover()
		if thrown == nil {
			return
		}
		e = api.ErrFail // no call may panic, whatever was thrown
		if known, ok := thrown.(api.Errno); ok {
			e = known
		}
	}()
	for _, work := range machines {
		work()
	}
	return api.OK
}

// throw throws the error, if it is one.
func throw(e api.Errno) {
	if e != api.OK {
		panic(e)
	}
}

func (c *course) flash() {
	p, e := steam.Flash(c.Table, c.Level, c.Brine)
	throw(e)
	c.Hot, c.Brine, c.Scale = p.Steam, p.Water, p.Scale
}

func (c *course) expand() {
	var e api.Errno
	c.Hot, c.Turbine, e = Expand(c.Unit, c.Hot)
	throw(e)
}

func (c *course) condense() {
	var e api.Errno
	c.Hot, c.Vent, e = Condense(c.Hot, c.cold, c.Most)
	throw(e)
}

func (c *course) cool() {
	var e api.Errno
	c.Hot, c.Air, e = Tower(c.Hot, c.Target)
	throw(e)
}

func (c *course) run() {
	var e api.Errno
	c.Brine, c.Work, c.Sink, e = Run(c.Cycle, c.Brine)
	throw(e)
}

func (l Line) valid() bool {
	return steam.CheckTable(l.Table) == api.OK &&
		within(l.Level, 0, len(l.Table)-1) &&
		l.Unit.valid() &&
		within(l.Most, 0, api.MaxVent) &&
		within(l.Target, 0, api.MaxEnthalpy) &&
		l.Cycle.valid()
}
