package matrix

import "venturi/api"

// cost returns the cost from a setting to another one, in both directions.
func cost(p api.Plan, a, b api.Setting) int {
	sum := 0
	for i, f := range p.Factors {
		if a.Levels[i] != b.Levels[i] {
			sum += f.Cost
		}
	}
	return sum
}

// isOrder reports whether a list has each number below n once.
func isOrder(l []int, n int) bool {
	if len(l) != n {
		return false
	}
	seen := make([]bool, n)
	for _, k := range l {
		if k < 0 || k >= n || seen[k] {
			return false
		}
		seen[k] = true
	}
	return true
}

// Changes returns what the changes of an order cost; its errors are those of Order, and then ErrArg if the list is not an order.
func Changes(p api.Plan, settings []api.Setting, order []int) (int, api.Errno) {
	if e := checkSettings(p, settings); e != api.OK {
		return 0, e
	}
	if !isOrder(order, len(settings)) {
		return 0, api.ErrArg
	}
	sum := 0
	for i := 1; i < len(order); i++ {
		sum += cost(p, settings[order[i-1]], settings[order[i]])
	}
	return sum, api.OK
}

// tour knows the costs of all ways through some settings.
type tour struct {
	costs [][]int // from each setting, and at last from the beginning, to each setting
	rest  [][]int // the least cost to take all settings that are not in a set (as bits), if the last one that was taken is so
}

// next returns which setting is taken after the last one, if all in a set were taken, and the least cost of all that are not; of several settings with it the first one. If all were taken, it is -1, at no cost.
func (t tour) next(taken, last int) (setting, least int) {
	setting = -1
	for i, there := range t.costs[last] {
		if taken>>i&1 == 1 {
			continue
		}
		if sum := there + t.rest[taken|1<<i][i]; setting < 0 || sum < least {
			setting, least = i, sum
		}
	}
	return setting, least
}

// tourOf returns the tour of at most MaxCheap valid settings.
func tourOf(p api.Plan, settings []api.Setting) tour {
	n := len(settings)
	t := tour{rest: make([][]int, 1<<n)}
	for _, a := range settings {
		row := make([]int, n)
		for j, b := range settings {
			row[j] = cost(p, a, b)
		}
		t.costs = append(t.costs, row)
	}
	t.costs = append(t.costs, make([]int, n))
	for taken := len(t.rest) - 1; taken >= 0; taken-- { // each set after those that have more
		t.rest[taken] = make([]int, n)
		for last := range n {
			_, t.rest[taken][last] = t.next(taken, last)
		}
	}
	return t
}

// Cheapest returns the order with the least changes, of several the smallest one, and what they cost; its errors are those of Order, and then ErrLong if there are more than MaxCheap settings.
func Cheapest(p api.Plan, settings []api.Setting) ([]int, int, api.Errno) {
	if e := checkSettings(p, settings); e != api.OK {
		return nil, 0, e
	}
	if len(settings) > api.MaxCheap {
		return nil, 0, api.ErrLong
	}
	t := tourOf(p, settings)
	var order []int
	taken, last := 0, len(settings)
	_, least := t.next(taken, last)
	for range settings {
		last, _ = t.next(taken, last)
		taken |= 1 << last
		order = append(order, last)
	}
	return order, least, api.OK
}

// branch is a setting that a tree has not joined, and the least cost to join it.
type branch struct {
	setting api.Setting
	cost    int
}

// leastOf returns the number of a branch with the least cost.
func leastOf(l []branch) int {
	best := 0
	for i, b := range l {
		if b.cost < l[best].cost {
			best = i
		}
	}
	return best
}

// Least returns the least cost of a tree that joins all settings, a bound on the changes of all orders; its errors are those of Order.
func Least(p api.Plan, settings []api.Setting) (int, api.Errno) {
	if e := checkSettings(p, settings); e != api.OK {
		return 0, e
	}
	if len(settings) == 0 {
		return 0, api.OK
	}
	rest := make([]branch, 0, len(settings))
	for _, s := range settings[1:] {
		rest = append(rest, branch{s, cost(p, settings[0], s)})
	}
	sum := 0
	for len(rest) > 0 {
		i, end := leastOf(rest), len(rest)-1
		joined := rest[i]
		rest[i] = rest[end]
		rest = rest[:end]
		sum += joined.cost
		for j, b := range rest {
			rest[j].cost = min(b.cost, cost(p, joined.setting, b.setting))
		}
	}
	return sum, api.OK
}
