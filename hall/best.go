package hall

import (
	"slices"

	"venturi/api"
)

// starts returns all first hours of a run of c, in ascending order, for which it keeps the rules together with runs; none if these do not keep them.
func starts(h api.Hall, runs []run, c api.Campaign) []int {
	var hours []int
	all := append(slices.Clone(runs), run{Campaign: c})
	for t := range len(h.Staff) {
		all[len(runs)].first = t
		if keep(h, all) {
			hours = append(hours, t)
		}
	}
	return hours
}

// Best returns the plan with the least cost, of several the smallest list, and its cost; ErrArg if the hall or the campaigns are not valid, ErrLong if there are more than MaxBest campaigns, ErrNoPlan if there is no plan.
func Best(h api.Hall, l []api.Campaign) (plan []int, cost int, e api.Errno) {
	runs, e := place(h, l, make([]int, len(l)))
	if e != api.OK {
		return nil, 0, e
	}
	all := func(run) bool { return true }
	return arrange(h, runs, all, 0)
}

// Bound returns a cost that no plan is below; ErrArg if the hall or the campaigns are not valid, ErrNoPlan if there is a campaign that has no place even alone.
func Bound(h api.Hall, l []api.Campaign) (int, api.Errno) {
	if e := CheckCampaigns(h, l); e != api.OK {
		return 0, e
	}
	bound := 0
	for _, c := range l {
		hours := starts(h, nil, c)
		if len(hours) == 0 {
			return 0, api.ErrNoPlan
		}
		bound += run{Campaign: c, first: hours[0]}.cost()
	}
	return bound, api.OK
}

// Crowded returns the first hours for which more is wanted than there is, and true, or zero and false; ErrArg if the hall or the campaigns are not valid.
func Crowded(h api.Hall, l []api.Campaign) (api.Crowd, bool, api.Errno) {
	if e := CheckCampaigns(h, l); e != api.OK {
		return api.Crowd{}, false, e
	}
	for from := range len(h.Staff) {
		have := 0
		for to := from + 1; to <= len(h.Staff); to++ {
			if h.Staff[to-1] != 0 {
				have++
			}
			if need := needed(l, from, to); need > have {
				return api.Crowd{From: from, To: to, Need: need, Have: have}, true, api.OK
			}
		}
	}
	return api.Crowd{}, false, api.OK
}

// needed returns the hours of all campaigns that can have their runs between two hours alone.
func needed(l []api.Campaign, from, to int) int {
	need := 0
	for _, c := range l {
		if c.Early+c.Prepare >= from && c.Late <= to {
			need += c.Hours
		}
	}
	return need
}
