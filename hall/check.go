package hall

import (
	"slices"

	"venturi/api"
)

// run is a campaign with the first hour of its run.
type run struct {
	api.Campaign
	first int
}

// end returns the hour behind the last one of the run.
func (r run) end() int { return r.first + r.Hours }

// begin returns the first hour of the preparation, or of the run if there is none.
func (r run) begin() int { return r.first - r.Prepare }

// cost returns what the run adds to the cost of a plan.
func (r run) cost() int { return r.Weight * r.end() }

// late reports whether a run breaks rule 1. Its first hour may be any integer, so that nothing is added to it.
func late(r run) bool {
	return r.first < r.Early+r.Prepare || r.first > r.Late-r.Hours
}

// clash reports whether two runs break rule 4.
func clash(h api.Hall, a, b run) bool {
	between := 0
	if a.Customer != b.Customer {
		between = h.Clean
	}
	return a.first < b.end()+between && b.first < a.end()+between
}

// place returns campaigns with their first hours in a plan; ErrArg if the hall or the campaigns are not valid, ErrLong unless the plan has a number for each of them.
func place(h api.Hall, l []api.Campaign, plan []int) ([]run, api.Errno) {
	if e := CheckCampaigns(h, l); e != api.OK {
		return nil, e
	}
	if len(plan) != len(l) {
		return nil, api.ErrLong
	}
	runs := make([]run, len(l))
	for i, c := range l {
		runs[i] = run{Campaign: c, first: plan[i]}
	}
	return runs, api.OK
}

// obey returns the runs of a plan that keeps the rules; its errors are those of place, and ErrAgainst.
func obey(h api.Hall, l []api.Campaign, plan []int) ([]run, api.Errno) {
	runs, e := place(h, l, plan)
	if e != api.OK {
		return nil, e
	}
	if !keep(h, runs) {
		return nil, api.ErrAgainst
	}
	return runs, api.OK
}

// keep reports whether runs keep the rules.
func keep(h api.Hall, runs []run) bool { return breach(h, runs).Rule == 0 }

// breach returns what breaks the first rule that is broken, or zero.
func breach(h api.Hall, runs []run) api.Breach {
	nobody := func(r run, hour int) bool { return h.Staff[hour] == 0 }
	weak := func(r run, hour int) bool { return h.Energy[hour] < r.Energy }
	rules := []func() api.Breach{
		func() api.Breach { return timeBreach(runs) },
		func() api.Breach { return hourBreach(runs, api.RuleStaff, nobody) },
		func() api.Breach { return hourBreach(runs, api.RuleEnergy, weak) },
		func() api.Breach { return tunnelBreach(h, runs) },
		func() api.Breach { return roomBreach(h, runs) },
	}
	for _, broken := range rules {
		// A rule can be asked only if those before are kept: they keep the runs in the hall's hours.
		if b := broken(); b.Rule != 0 {
			return b
		}
	}
	return api.Breach{}
}

// timeBreach returns what breaks rule 1.
func timeBreach(runs []run) api.Breach {
	if i := slices.IndexFunc(runs, late); i >= 0 {
		return api.Breach{Rule: api.RuleTime, A: i}
	}
	return api.Breach{}
}

// hourBreach returns what breaks a rule for each hour of each run.
func hourBreach(runs []run, rule api.Rule, wrong func(r run, hour int) bool) api.Breach {
	for i, r := range runs {
		for k := range r.Hours {
			if hour := r.first + k; wrong(r, hour) {
				return api.Breach{Rule: rule, A: i, Hour: hour}
			}
		}
	}
	return api.Breach{}
}

// tunnelBreach returns what breaks rule 4.
func tunnelBreach(h api.Hall, runs []run) api.Breach {
	for i, a := range runs {
		for j := i + 1; j < len(runs); j++ {
			if clash(h, a, runs[j]) {
				return api.Breach{Rule: api.RuleTunnel, A: i, B: j}
			}
		}
	}
	return api.Breach{}
}

// roomBreach returns what breaks rule 5.
func roomBreach(h api.Hall, runs []run) api.Breach {
	many := func(count int) bool { return count > h.Rooms }
	if hour := slices.IndexFunc(preparations(h, runs), many); hour >= 0 {
		return api.Breach{Rule: api.RuleRooms, Hour: hour}
	}
	return api.Breach{}
}

// preparations returns how many preparations there are in each hour.
func preparations(h api.Hall, runs []run) []int {
	counts := make([]int, len(h.Staff))
	for _, r := range runs {
		count(counts, r, 1)
	}
	return counts
}

// count adds a number in each hour of a run's preparation.
func count(counts []int, r run, add int) {
	for hour := r.begin(); hour < r.first; hour++ {
		counts[hour] += add
	}
}

// Check returns what breaks the rules in a plan, with ErrAgainst; ErrArg if the hall or the campaigns are not valid, ErrLong unless the plan has a number for each campaign.
func Check(h api.Hall, l []api.Campaign, plan []int) (api.Breach, api.Errno) {
	runs, e := place(h, l, plan)
	if e != api.OK {
		return api.Breach{}, e
	}
	if b := breach(h, runs); b.Rule != 0 {
		return b, api.ErrAgainst
	}
	return api.Breach{}, api.OK
}
