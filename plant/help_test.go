package plant_test

import (
	"math"
	"slices"

	"fumarole/api"
	"fumarole/plant"
	"fumarole/steam"
)

// The calls of the chapter, with their exact signatures.
var (
	_ func(u plant.Unit) api.Errno                                                              = plant.CheckUnit
	_ func(u plant.Unit, mass int) (int, api.Errno)                                             = plant.Power
	_ func(u plant.Unit, s steam.Stream) (out steam.Stream, work int, e api.Errno)              = plant.Expand
	_ func(hot, cold steam.Stream, most int) (out steam.Stream, vent int, e api.Errno)          = plant.Condense
	_ func(s steam.Stream, target int) (out steam.Stream, air int, e api.Errno)                 = plant.Tower
	_ func(c plant.Cycle, s steam.Stream) (out steam.Stream, work, sink int, e api.Errno)       = plant.Run
	_ func(l plant.Line, brine, cold steam.Stream) (plant.Account, api.Errno)                   = plant.Settle
	_ func(heads []int, units []plant.Unit) (masses []int, work int, prices []int, e api.Errno) = plant.Share
	_ func(heads []int, units []plant.Unit, prices []int) (int, api.Errno)                      = plant.Bound
	_ func(heads []int, units []plant.Unit, masses []int, work int, prices []int) bool          = plant.ProveShare
	_ func(j plant.Job, plan []int) (int, api.Errno)                                            = plant.Profit
	_ func(j plant.Job) (plan []int, profit int, table [][]int, e api.Errno)                    = plant.Dispatch
	_ func(j plant.Job, plan []int, profit int, table [][]int) bool                             = plant.ProveDispatch
	_ struct{ Width, Gain int }                                                                 = plant.Part{}
	_ struct{ Out, Yield, Most int }                                                            = plant.Cycle{}
	_ struct{ Price, Most int }                                                                 = plant.Hour{}
	_ struct {
		Inlet int
		Parts []plant.Part
	} = plant.Unit{}
	_ struct {
		Table  steam.Table
		Level  int
		Unit   plant.Unit
		Most   int
		Target int
		Cycle  plant.Cycle
	} = plant.Line{}
	_ struct {
		Turbine, Vent, Air, Work, Sink, Scale int
		Hot, Brine                            steam.Stream
	} = plant.Account{}
	_ struct {
		Levels             []int
		Ramp, Start, First int
		Hours              []plant.Hour
	} = plant.Job{}
)

// farNumbers are numbers whose products, sums and differences overflow.
var farNumbers = []int{math.MinInt, math.MinInt + 1, -1 << 62, -1 << 42, 1 << 42, 1 << 62, math.MaxInt - 1, math.MaxInt}

// outside gives numbers that are not from lo to hi.
func outside(lo, hi int) []int { return append([]int{lo - 1, hi + 1}, farNumbers...) }

// unit gives a unit whose parts have these widths and gains.
func unit(inlet int, parts ...int) plant.Unit {
	u := plant.Unit{Inlet: inlet}
	for pair := range slices.Chunk(parts, 2) {
		u.Parts = append(u.Parts, plant.Part{Width: pair[0], Gain: pair[1]})
	}
	return u
}

// chapterUnit is the unit of the chapter's examples.
func chapterUnit() plant.Unit { return unit(1, 100, 500, 50, 300) }

// chapterTable is the table of the examples of chapter 1.
func chapterTable() steam.Table {
	return steam.Table{
		{T: 100, P: 101, Liquid: 419, Vapour: 2676, Silica: 150},
		{T: 150, P: 476, Liquid: 632, Vapour: 2746, Silica: 300},
		{T: 200, P: 1555, Liquid: 852, Vapour: 2793, Silica: 600},
	}
}

// chapterJob is the job of the chapter's examples.
func chapterJob() plant.Job {
	return job([]int{0, 50, 100}, 1, 2000, 0, 10, 100, -5, 100, 40, 100, 40, 100)
}

// job gives a job whose hours have these prices and Mosts.
func job(levels []int, ramp, start, first int, hours ...int) plant.Job {
	j := plant.Job{Levels: levels, Ramp: ramp, Start: start, First: first}
	for pair := range slices.Chunk(hours, 2) {
		j.Hours = append(j.Hours, plant.Hour{Price: pair[0], Most: pair[1]})
	}
	return j
}

func stream(mass, heat, silica, gas int) steam.Stream {
	return steam.Stream{Mass: mass, Heat: heat, Silica: silica, Gas: gas}
}

// add gives the sums of the numbers of both streams.
func add(a, b steam.Stream) steam.Stream {
	return stream(a.Mass+b.Mass, a.Heat+b.Heat, a.Silica+b.Silica, a.Gas+b.Gas)
}

// capacity gives the sum of the widths.
func capacity(u plant.Unit) int {
	sum := 0
	for _, p := range u.Parts {
		sum += p.Width
	}
	return sum
}

// trueWork gives the work of a mass, from 0 to the capacity, as the chapter says it.
func trueWork(u plant.Unit, mass int) int {
	work, before := 0, 0
	for _, p := range u.Parts {
		if mass > before {
			work += p.Gain * (min(mass, before+p.Width) - before)
		}
		before += p.Width
	}
	return work
}

// steamFrom gives the sum of the heads from k on.
func steamFrom(heads []int, k int) int {
	sum := 0
	for i, n := range heads {
		if i >= k {
			sum += n
		}
	}
	return sum
}

// isSharing gives whether the masses are a sharing.
func isSharing(heads []int, units []plant.Unit, masses []int) bool {
	if len(masses) != len(units) {
		return false
	}
	for i, m := range masses {
		if m < 0 || m > capacity(units[i]) {
			return false
		}
	}
	for k := range heads {
		used := 0
		for i, m := range masses {
			if units[i].Inlet >= k {
				used += m
			}
		}
		if used > steamFrom(heads, k) {
			return false
		}
	}
	return true
}

// workOf gives the work of a sharing.
func workOf(units []plant.Unit, masses []int) int {
	work := 0
	for i, m := range masses {
		work += trueWork(units[i], m)
	}
	return work
}

// trueBound gives the bound by the prices, as the chapter says it.
func trueBound(heads []int, units []plant.Unit, prices []int) int {
	bound := 0
	for k, p := range prices {
		bound += p * steamFrom(heads, k)
	}
	for _, u := range units {
		paid := 0
		for k, p := range prices {
			if k <= u.Inlet {
				paid += p
			}
		}
		for _, p := range u.Parts {
			if p.Gain > paid {
				bound += p.Width * (p.Gain - paid)
			}
		}
	}
	return bound
}

// arePrices gives whether there is a price for each head.
func arePrices(heads, prices []int) bool {
	return len(prices) == len(heads) && !slices.ContainsFunc(prices, func(p int) bool { return p < 0 || p > api.MaxGain })
}

// canFollow gives whether the hour may have the index next after the index last.
func canFollow(j plant.Job, hour, last, next int) bool {
	if next < 0 || next >= len(j.Levels) || j.Levels[next] > j.Hours[hour].Most {
		return false
	}
	return next-last <= j.Ramp && last-next <= j.Ramp
}

// trueGain gives the profit of an hour.
func trueGain(j plant.Job, hour, last, next int) int {
	gain := j.Hours[hour].Price * j.Levels[next]
	if last == 0 && next != 0 {
		return gain - j.Start
	}
	return gain
}

// trueProfit gives the profit of the list, and whether it is a plan.
func trueProfit(j plant.Job, plan []int) (int, bool) {
	if len(plan) != len(j.Hours) {
		return 0, false
	}
	profit, last := 0, j.First
	for hour, next := range plan {
		if !canFollow(j, hour, last, next) {
			return 0, false
		}
		profit += trueGain(j, hour, last, next)
		last = next
	}
	return profit, true
}

// trueShows gives whether the table is one, and shows that no plan has more than the amount.
func trueShows(j plant.Job, table [][]int, amount int) bool {
	if len(table) != len(j.Hours)+1 {
		return false
	}
	for _, row := range table {
		if len(row) != len(j.Levels) {
			return false
		}
		for _, n := range row {
			if n < -api.MaxProfit || n > api.MaxProfit {
				return false
			}
		}
	}
	for hour := range j.Hours {
		for last, n := range table[hour] {
			for next, behind := range table[hour+1] {
				if canFollow(j, hour, last, next) && n < trueGain(j, hour, last, next)+behind {
					return false
				}
			}
		}
	}
	return slices.Min(table[len(j.Hours)]) >= 0 && table[0][j.First] <= amount
}

// isLeast gives whether the table is one of the job, and no number of it could be one less.
func isLeast(j plant.Job, table [][]int) bool {
	if !trueShows(j, table, api.MaxProfit) {
		return false
	}
	for hour, row := range table {
		for last, n := range row {
			held := n == -api.MaxProfit || hour == len(j.Hours) && n == 0
			for next := range row {
				held = held || hour < len(j.Hours) && canFollow(j, hour, last, next) && n == trueGain(j, hour, last, next)+table[hour+1][next]
			}
			if !held {
				return false
			}
		}
	}
	return true
}

// cloneTable gives a table that shares nothing with the other one.
func cloneTable(table [][]int) [][]int {
	var l [][]int
	for _, row := range table {
		l = append(l, slices.Clone(row))
	}
	return l
}

func sameTable(a, b [][]int) bool {
	return slices.EqualFunc(a, b, func(x, y []int) bool { return slices.Equal(x, y) })
}
