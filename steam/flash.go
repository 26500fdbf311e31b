package steam

import "fumarole/api"

// flash is a stream that boils at the pressure of a row.
type flash struct {
	Row
	feed Stream
}

// Flash returns the steam and the water that the stream becomes at the level.
func Flash(t Table, level int, s Stream) (Parts, api.Errno) {
	if e := checkLevels(t, level); e != api.OK {
		return Parts{}, e
	}
	if e := CheckStream(s); e != api.OK {
		return Parts{}, e
	}
	return flash{t[level], s}.parts(), api.OK
}

// Train returns what a flash makes of the stream at the first level, and of the water that is left at each other one.
func Train(t Table, levels []int, s Stream) ([]Parts, api.Errno) {
	if e := checkLevels(t, levels...); e != api.OK {
		return nil, e
	}
	if !isTrain(levels) {
		return nil, api.ErrRange
	}
	if e := CheckStream(s); e != api.OK {
		return nil, e
	}
	var train []Parts
	for row := range t.rows(levels) {
		p := flash{row, s}.parts()
		train = append(train, p)
		s = p.Water
	}
	return train, api.OK
}

// Deepest returns the least level such that it and all above it are safe for all streams.
func Deepest(t Table, l []Stream) (int, api.Errno) {
	if e := CheckTable(t); e != api.OK {
		return 0, e
	}
	if e := checkStreams(l); e != api.OK {
		return 0, e
	}
	if len(l) == 0 {
		return 0, api.ErrArg
	}
	deepest := len(t)
	for deepest > 0 && every(l, t[deepest-1].safe) {
		deepest--
	}
	if deepest == len(t) {
		return 0, api.ErrNone
	}
	return deepest, api.OK
}

// Bounds returns between what the steam and the scale lie for all streams of the mass and the ranges.
func Bounds(t Table, level, mass int, heat, silica Range) (steam, scale Range, e api.Errno) {
	if e := checkLevels(t, level); e != api.OK {
		return Range{}, Range{}, e
	}
	least := Stream{Mass: mass, Heat: heat.Lo, Silica: silica.Lo}
	most := Stream{Mass: mass, Heat: heat.Hi, Silica: silica.Hi}
	if heat.Lo > heat.Hi || silica.Lo > silica.Hi || !least.valid() || !most.valid() {
		return Range{}, Range{}, api.ErrArg
	}
	// More heat makes more steam, and leaves less water to hold silica: both ends are at the ends of both ranges.
	lo, hi := flash{t[level], least}.parts(), flash{t[level], most}.parts()
	return Range{lo.Steam.Mass, hi.Steam.Mass}, Range{lo.Scale, hi.Scale}, api.OK
}

// isTrain returns whether there are levels, not too many, and each one is below the one before it.
func isTrain(levels []int) bool {
	if !within(len(levels), 1, api.MaxRows) {
		return false
	}
	for i := 1; i < len(levels); i++ {
		if levels[i] >= levels[i-1] {
			return false
		}
	}
	return true
}

// safe returns whether no silica falls out of the stream at the row.
func (r Row) safe(s Stream) bool { return flash{r, s}.parts().Scale == 0 }

// steamMass returns how many kilograms of the feed boil.
func (f flash) steamMass() int {
	mass, heat := f.feed.Mass, f.feed.Heat
	switch {
	case heat <= mass*f.Liquid:
		return 0
	case heat >= mass*f.Vapour:
		return mass
	}
	return (heat - mass*f.Liquid) / (f.Vapour - f.Liquid)
}

func (f flash) parts() Parts {
	var p Parts
	switch mass := f.steamMass(); mass {
	case 0:
		p.Water = f.feed
	case f.feed.Mass:
		p.Steam = f.feed
	default:
		p.Steam = Stream{Mass: mass, Heat: mass * f.Vapour, Gas: f.feed.Gas}
		p.Water = Stream{Mass: f.feed.Mass - mass, Heat: f.feed.Heat - p.Steam.Heat}
	}
	p.Steam.Silica = 0 // no silica goes with steam
	p.Water.Silica = min(f.feed.Silica, p.Water.Mass*f.Silica)
	p.Scale = f.feed.Silica - p.Water.Silica
	p.Rest = max(0, p.Water.Heat-p.Water.Mass*f.Liquid)
	return p
}
