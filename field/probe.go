package field

import "fumarole/api"

// outlook is what a probe would find: its sum in each model, and how far off its reading may be.
type outlook struct {
	sums []int
	off  int
}

// Worst returns how many models the probe may leave, and the least reading that leaves so many.
func Worst(f Field, models []Model, p Probe) (worst, reading int, e api.Errno) {
	if e := CheckModels(f, models); e != api.OK {
		return 0, 0, e
	}
	if !f.isProbe(p) {
		return 0, 0, api.ErrArg
	}
	worst, reading = f.outlook(models, p).worst()
	return worst, reading, api.OK
}

// Best returns the probe that leaves the fewest models at worst, how many, and the worst reading of each probe.
func Best(f Field, models []Model, probes []Probe) (best, worst int, readings []int, e api.Errno) {
	if e := checkProbing(f, models, probes); e != api.OK {
		return 0, 0, nil, e
	}
	for i, p := range probes {
		most, reading := f.outlook(models, p).worst()
		readings = append(readings, reading)
		if i == 0 || most < worst {
			best, worst = i, most
		}
	}
	return best, worst, readings, api.OK
}

// ProveBest returns whether the readings show that no probe is better than the best one.
func ProveBest(f Field, models []Model, probes []Probe, best, worst int, readings []int) bool {
	if checkProbing(f, models, probes) != api.OK {
		return false
	}
	if !within(best, 0, len(probes)-1) || len(readings) != len(probes) {
		return false
	}
	for i, p := range probes {
		left := f.outlook(models, p).left(readings[i])
		// One more than worst is not computed: worst may be the greatest number there is.
		if left < worst || i < best && left == worst {
			return false
		}
	}
	most, _ := f.outlook(models, probes[best]).worst()
	return most <= worst
}

func checkProbing(f Field, models []Model, probes []Probe) api.Errno {
	if e := CheckModels(f, models); e != api.OK {
		return e
	}
	return f.checkProbes(probes)
}

// measure returns the measure whose sum the probe will read.
func (p Probe) measure() Measure {
	return Measure{Kind: p.Kind, Blocks: p.Blocks, Weights: p.Weights}
}

func (f Field) outlook(models []Model, p Probe) outlook {
	sum := f.gauge(p.measure()).sum
	o := outlook{off: p.Error}
	for _, m := range models {
		o.sums = append(o.sums, sum(m))
	}
	return o
}

// left returns how many models the reading leaves.
func (o outlook) left(reading int) int {
	left := 0
	for _, sum := range o.sums {
		// Nothing is computed with the reading, as any number may be given.
		if within(reading, sum-o.off, sum+o.off) {
			left++
		}
	}
	return left
}

// worst tries the least reading that leaves each model: from any other one, one less leaves no fewer models.
func (o outlook) worst() (worst, reading int) {
	for _, sum := range o.sums {
		least := sum - o.off
		left := o.left(least)
		if left > worst || left == worst && least < reading {
			worst, reading = left, least
		}
	}
	return worst, reading
}
