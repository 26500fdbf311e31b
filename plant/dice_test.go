package plant_test

import (
	"slices"

	"fumarole/api"
	"fumarole/plant"
	"fumarole/steam"
)

// dice gives numbers that are the same in each run.
type dice struct{ seed uint64 }

// roll gives a number from lo to hi.
func (d *dice) roll(lo, hi int) int {
	d.seed = d.seed*6364136223846793005 + 1442695040888963407
	return lo + int((d.seed>>20)%uint64(hi-lo+1))
}

// pick gives one of the numbers.
func (d *dice) pick(l ...int) int { return l[d.roll(0, len(l)-1)] }

// rising gives so many numbers from lo to hi, each above the one before it.
func (d *dice) rising(n, lo, hi int) []int {
	var l []int
	for len(l) < n {
		if x := d.roll(lo, hi); !slices.Contains(l, x) {
			l = append(l, x)
		}
	}
	slices.Sort(l)
	return l
}

// table gives a valid table.
func (d *dice) table() steam.Table {
	n := d.roll(2, 6)
	temps, pressures, liquids := d.rising(n, 0, api.MaxTemp), d.rising(n, 1, api.MaxPressure), d.rising(n, 0, 1200)
	var t steam.Table
	silica := 0
	for i := range n {
		silica += d.roll(0, api.MaxSilica/n)
		t = append(t, steam.Row{T: temps[i], P: pressures[i], Liquid: liquids[i], Vapour: d.roll(liquids[i]+1, 3000), Silica: silica})
	}
	return t
}

// stream gives a valid stream of at most so many kilograms.
func (d *dice) stream(mass int) steam.Stream {
	m := d.pick(0, d.roll(0, mass), d.roll(0, mass), mass)
	return steam.Stream{
		Mass:   m,
		Heat:   d.pick(0, d.roll(0, 2000*m), d.roll(0, 2000*m), d.roll(0, api.MaxEnthalpy*m), api.MaxEnthalpy*m),
		Silica: d.pick(0, d.roll(0, 500*m), d.roll(0, api.MaxGrain*m), api.MaxGrain*m),
		Gas:    d.pick(0, d.roll(0, 1000), d.roll(0, api.MaxGas/2)),
	}
}

// unit gives a valid unit whose parts are at most so wide.
func (d *dice) unit(inlet, parts, width, gain int) plant.Unit {
	u := plant.Unit{Inlet: inlet}
	for range d.roll(1, parts) {
		u.Parts = append(u.Parts, plant.Part{Width: d.roll(1, width), Gain: d.roll(0, gain)})
	}
	slices.SortFunc(u.Parts, func(a, b plant.Part) int { return b.Gain - a.Gain })
	return u
}

// cycle gives a valid cycle.
func (d *dice) cycle() plant.Cycle {
	return plant.Cycle{
		Out:   d.pick(0, d.roll(0, 1000), d.roll(0, api.MaxEnthalpy)),
		Yield: d.pick(0, d.roll(0, 1000), d.roll(0, 1000), 1000),
		Most:  d.pick(0, d.roll(0, 100000), d.roll(0, api.MaxHeat), api.MaxHeat),
	}
}

// line gives a valid line.
func (d *dice) line() plant.Line {
	t := d.table()
	return plant.Line{
		Table:  t,
		Level:  d.roll(0, len(t)-1),
		Unit:   d.unit(d.roll(0, api.MaxHeads-1), api.MaxParts, d.pick(9, 1000, api.MaxWidth), d.pick(10, 100, api.MaxGain)),
		Most:   d.pick(0, d.roll(0, 2000), api.MaxVent, api.MaxVent),
		Target: d.pick(0, d.roll(0, 500), d.roll(0, api.MaxEnthalpy)),
		Cycle:  d.cycle(),
	}
}

// amounts gives so many heads with at most so much steam each.
func (d *dice) amounts(heads, most int) []int {
	var l []int
	for range heads {
		l = append(l, d.pick(0, d.roll(0, most), d.roll(0, most), d.roll(0, most), most))
	}
	return l
}

// units gives so many units for so many heads.
func (d *dice) units(heads, units, parts, width, gain int) []plant.Unit {
	var l []plant.Unit
	for range units {
		l = append(l, d.unit(d.roll(0, heads-1), parts, width, gain))
	}
	return l
}

// prices gives a price for each head.
func (d *dice) prices(heads, most int) []int {
	var l []int
	for range heads {
		l = append(l, d.pick(0, d.roll(0, most), d.roll(0, most)))
	}
	return l
}

// sharing gives any sharing.
func (d *dice) sharing(heads []int, units []plant.Unit) []int {
	masses := make([]int, len(units))
	for i, u := range units {
		masses[i] = d.roll(0, capacity(u))
		for !isSharing(heads, units, masses) {
			masses[i] /= 2
		}
	}
	return masses
}

// job gives a valid job with so many hours.
func (d *dice) job(levels, hours, output int) plant.Job {
	j := plant.Job{
		Levels: append([]int{0}, d.rising(levels-1, 1, output)...),
		Ramp:   d.pick(1, 1, 2, d.roll(1, levels), api.MaxOutputs),
		Start:  d.pick(0, d.roll(0, output), d.roll(0, 20*output)),
		First:  d.roll(0, levels-1),
	}
	price := d.pick(1, 3, 20, api.MaxTariff)
	for range hours {
		most := d.pick(output, output, output, j.Levels[d.roll(0, levels-1)], d.roll(0, output))
		j.Hours = append(j.Hours, plant.Hour{Price: d.roll(-price, price), Most: most})
	}
	return j
}

// plan gives a plan, if the walk does not end where nothing may follow.
func (d *dice) plan(j plant.Job) ([]int, bool) {
	var plan []int
	last := j.First
	for hour := range j.Hours {
		var l []int
		for next := range j.Levels {
			if canFollow(j, hour, last, next) {
				l = append(l, next)
			}
		}
		if len(l) == 0 {
			return nil, false
		}
		last = d.pick(l...)
		plan = append(plan, last)
	}
	return plan, true
}
