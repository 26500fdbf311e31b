package plant

import "fumarole/api"

// Dispatch returns the best plan, its profit, and the least table.
func Dispatch(j Job) (plan []int, profit int, table [][]int, e api.Errno) {
	if !j.valid() {
		return nil, 0, nil, api.ErrArg
	}
	table = j.leastTable()
	plan, found := j.follow(table)
	if !found {
		return nil, 0, nil, api.ErrNone
	}
	return plan, table[0][j.First], table, api.OK
}

// ProveDispatch returns whether the list is a plan with this profit, and the table shows that none has more.
func ProveDispatch(j Job, plan []int, profit int, table [][]int) bool {
	found, e := Profit(j, plan)
	return e == api.OK && found == profit && j.hasTable(table) && j.shows(table) && table[0][j.First] <= profit
}

// leastTable fills a table from its end on, each row with the least numbers that the one behind it allows.
func (j Job) leastTable() [][]int {
	hours := len(j.Hours)
	table := make([][]int, hours+1)
	fill := func(hour int) {
		for index := range table[hour] {
			table[hour][index] = j.least(hour, index, table[hour+1])
		}
	}
	table[hours] = make([]int, len(j.Levels))
	for hour := hours - 1; hour >= 0; hour-- {
		table[hour] = make([]int, len(j.Levels))
		fill(hour)
	}
	return table
}

// least returns the least number for the index in the hour's row, if next is the row behind it.
func (j Job) least(hour, index int, next []int) int {
	least := -api.MaxProfit
	for k, gain := range j.choices(hour, index) {
		least = max(least, gain+next[k])
	}
	return least
}

// follow returns the first of the plans that have the profit of the least table, and whether there is one.
func (j Job) follow(table [][]int) ([]int, bool) {
	var plan []int
	last := j.First
	for hour := range j.Hours {
		next, found := j.choose(hour, last, table)
		if !found {
			return nil, false
		}
		plan = append(plan, next)
		last = next
	}
	return plan, true
}

// choose returns the first index for the hour from which the least number for the index last comes, and whether there is one.
func (j Job) choose(hour, last int, table [][]int) (next int, found bool) {
	for next, gain := range j.choices(hour, last) {
		if gain+table[hour+1][next] == table[hour][last] {
			return next, true
		}
	}
	return 0, false
}

// hasTable returns whether there is a row more than hours, with a number for each level.
func (j Job) hasTable(table [][]int) bool {
	return len(table) == len(j.Hours)+1 && every(table, func(row []int) bool {
		return len(row) == len(j.Levels) && every(row, isProfit)
	})
}

// shows returns whether each number of the table is at least what it has to be.
func (j Job) shows(table [][]int) bool {
	for hour := range j.Hours {
		for index, n := range table[hour] {
			if n < j.least(hour, index, table[hour+1]) {
				return false
			}
		}
	}
	return every(table[len(j.Hours)], func(n int) bool { return n >= 0 })
}

func isProfit(n int) bool { return within(n, -api.MaxProfit, api.MaxProfit) }
