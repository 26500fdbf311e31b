package plant

import (
	"iter"

	"fumarole/api"
)

// Profit returns the profit of the plan.
func Profit(j Job, plan []int) (int, api.Errno) {
	if !j.valid() || len(plan) != len(j.Hours) {
		return 0, api.ErrArg
	}
	profit, last := 0, j.First
	for hour, next := range plan {
		if !j.mayFollow(hour, last, next) {
			return 0, api.ErrArg
		}
		profit += j.gain(hour, last, next)
		last = next
	}
	return profit, api.OK
}

func (j Job) valid() bool {
	return within(len(j.Levels), 2, api.MaxOutputs) &&
		every(j.Levels, func(n int) bool { return within(n, 0, api.MaxOutput) }) &&
		j.isRising() &&
		within(j.Ramp, 1, api.MaxOutputs) &&
		within(j.Start, 0, api.MaxStartup) &&
		j.hasLevel(j.First) &&
		within(len(j.Hours), 1, api.MaxHours) &&
		every(j.Hours, Hour.valid)
}

// isRising returns whether the levels rise from 0 on.
func (j Job) isRising() bool {
	for i := 1; i < len(j.Levels); i++ {
		if j.Levels[i] <= j.Levels[i-1] {
			return false
		}
	}
	return j.Levels[0] == 0
}

// hasLevel returns whether the number is the index of a level.
func (j Job) hasLevel(n int) bool { return within(n, 0, len(j.Levels)-1) }

// mayFollow returns whether the hour may have the index next after one with the index last.
func (j Job) mayFollow(hour, last, next int) bool {
	return j.hasLevel(next) && within(next, last-j.Ramp, last+j.Ramp) && j.Levels[next] <= j.Hours[hour].Most
}

// gain returns the profit of the hour with the index next after one with the index last.
func (j Job) gain(hour, last, next int) int {
	gain := j.Hours[hour].Price * j.Levels[next]
	if j.Levels[last] == 0 && j.Levels[next] > 0 {
		gain -= j.Start
	}
	return gain
}

// choices yields the indexes that the hour may have after one with the index last, and the hour's profit with each.
func (j Job) choices(hour, last int) iter.Seq2[int, int] {
	return func(yield func(next, gain int) bool) {
		for next := range j.Levels {
			if j.mayFollow(hour, last, next) && !yield(next, j.gain(hour, last, next)) {
				return
			}
		}
	}
}

func (h Hour) valid() bool {
	return within(h.Price, -api.MaxTariff, api.MaxTariff) && within(h.Most, 0, api.MaxOutput)
}
