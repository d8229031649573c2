package hall

import (
	"cmp"
	"slices"

	"venturi/api"
)

// Cost returns the cost of a plan; ErrAgainst if it does not keep the rules, behind the errors of Check.
func Cost(h api.Hall, l []api.Campaign, plan []int) (int, api.Errno) {
	runs, e := obey(h, l, plan)
	return sum(runs), e
}

// sum returns the cost of runs.
func sum(runs []run) int {
	cost := 0
	for _, r := range runs {
		cost += r.cost()
	}
	return cost
}

// Use returns the energy and the preparations of each hour; its errors are those of Cost.
func Use(h api.Hall, l []api.Campaign, plan []int) (energy, rooms []int, e api.Errno) {
	runs, e := obey(h, l, plan)
	if e != api.OK {
		return nil, nil, e
	}
	energy = make([]int, len(h.Staff))
	for _, r := range runs {
		for k := range r.Hours {
			energy[r.first+k] = r.Energy
		}
	}
	return energy, preparations(h, runs), api.OK
}

// Rooms returns the room of each campaign, -1 if it has no preparation; its errors are those of Cost.
func Rooms(h api.Hall, l []api.Campaign, plan []int) ([]int, api.Errno) {
	runs, e := obey(h, l, plan)
	if e != api.OK {
		return nil, e
	}
	var order []int // of the campaigns with a preparation
	rooms := make([]int, len(runs))
	for i, r := range runs {
		rooms[i] = -1
		if r.Prepare > 0 {
			order = append(order, i)
		}
	}
	slices.SortStableFunc(order, func(i, j int) int { return cmp.Compare(runs[i].begin(), runs[j].begin()) })
	free := make([]int, h.Rooms) // the hour from which on each room is free: preparations come in the order of their first hours
	for _, i := range order {
		room := slices.IndexFunc(free, func(hour int) bool { return hour <= runs[i].begin() })
		rooms[i], free[room] = room, runs[i].first
	}
	return rooms, api.OK
}
