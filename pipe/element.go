package pipe

import "fumarole/steam"

// effect is what an element makes of what comes into it.
type effect struct {
	out  []steam.Stream // of each outlet
	lost Lost
	made int // the mass of steam that its flash makes
}

// doings returns what the elements do, by their kinds.
func doings() [Valve + 1]func(Element, steam.Table, steam.Stream) effect {
	return [...]func(Element, steam.Table, steam.Stream) effect{
		Well:      Element.pass,
		Join:      Element.pass,
		Line:      Element.cool,
		Separator: Element.separate,
		Split:     Element.split,
		Valve:     Element.pass,
	}
}

func (x Element) pass(_ steam.Table, in steam.Stream) effect {
	return effect{out: []steam.Stream{in}}
}

func (x Element) cool(_ steam.Table, in steam.Stream) effect {
	lost := min(x.Amount, in.Heat)
	in.Heat -= lost
	return effect{out: []steam.Stream{in}, lost: Lost{Heat: lost}}
}

func (x Element) separate(t steam.Table, in steam.Stream) effect {
	p, _ := steam.Flash(t, x.Level, in)
	made, lost := p.Steam.Mass, Lost{Scale: p.Scale}
	// Water of which nothing is carried along is not shared at all: without a mass it would lose its gas.
	if x.Amount > 0 {
		shared, loss, _ := steam.Share(p.Water, []int{1000 - x.Amount, x.Amount})
		p.Steam, p.Water = plus(p.Steam, shared[1]), shared[0]
		lost = lost.plus(rounded(loss))
	}
	return effect{[]steam.Stream{p.Steam, p.Water}, lost, made}
}

func (x Element) split(_ steam.Table, in steam.Stream) effect {
	out, loss, _ := steam.Share(in, x.Weights)
	return effect{out: out, lost: rounded(loss)}
}

// rounded returns what a share leaves as what is lost.
func rounded(l steam.Loss) Lost { return Lost{Heat: l.Heat, Silica: l.Silica, Gas: l.Gas} }
