package hall

import (
	"slices"

	"venturi/api"
)

// Fit returns the first place for one more campaign; ErrArg if the hall or the campaigns are not valid, ErrLong unless the plan has a number for each of them, ErrAgainst if it does not keep the rules, ErrArg if the campaigns with c are not valid, ErrNoPlace if there is none.
func Fit(h api.Hall, l []api.Campaign, plan []int, c api.Campaign) (int, api.Errno) {
	runs, e := obey(h, l, plan)
	if e != api.OK {
		return 0, e
	}
	if e := CheckCampaigns(h, append(slices.Clone(l), c)); e != api.OK {
		return 0, e
	}
	hours := starts(h, runs, c)
	if len(hours) == 0 {
		return 0, api.ErrNoPlace
	}
	return hours[0], api.OK
}

// Replan returns the best plan that keeps what has begun, and its cost; ErrArg if the hall or the campaigns are not valid, ErrLong unless the plan has a number for each of them, ErrRange unless now is from 0 to the number of hours, ErrLong if more than MaxBest campaigns have not begun, ErrNoPlan if there is no plan.
func Replan(h api.Hall, l []api.Campaign, plan []int, now int) ([]int, int, api.Errno) {
	runs, e := place(h, l, plan)
	if e != api.OK {
		return nil, 0, e
	}
	if !within(0, now, len(h.Staff)) {
		return nil, 0, api.ErrRange
	}
	// The hours of the plan may be any integers, so that nothing is taken from them.
	waits := func(r run) bool { return r.first >= now+r.Prepare }
	return arrange(h, runs, waits, now)
}
