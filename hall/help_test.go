package hall_test

import (
	"math/rand/v2"
	"reflect"
	"slices"
	"testing"

	"venturi/api"
	"venturi/hall"
)

// is compares a result without error with the value that it should have.
func is[T comparable](t *testing.T, what string, got T, e api.Errno, want T) {
	t.Helper()
	if e != api.OK || got != want {
		t.Errorf("%s: %v, error %d, instead of %v", what, got, e, want)
	}
}

// isList compares a list without error with what it should have.
func isList[T comparable](t *testing.T, what string, got []T, e api.Errno, want ...T) {
	t.Helper()
	if e != api.OK || !slices.Equal(got, want) {
		t.Errorf("%s: %v, error %d, instead of %v", what, got, e, want)
	}
}

// isError checks an error, and that the results beside it are zero values.
func isError(t *testing.T, what string, e, want api.Errno, results ...any) {
	t.Helper()
	if e != want {
		t.Errorf("%s: error %d instead of %d", what, e, want)
	}
	for _, r := range results {
		if x := reflect.ValueOf(r); x.Kind() == reflect.Slice && x.Len() > 0 || x.Kind() != reflect.Slice && !x.IsZero() {
			t.Errorf("%s: result %v beside an error", what, r)
		}
	}
}

// isPlan compares a plan and its cost with what they should be; no plan is ErrNoPlan.
func isPlan(t *testing.T, what string, plan []int, cost int, e api.Errno, want []int, wantCost int, some bool) {
	t.Helper()
	if !some {
		isError(t, what, e, api.ErrNoPlan, plan, cost)
		return
	}
	isList(t, what, plan, e, want...)
	is(t, what, cost, e, wantCost)
}

// isBreach checks what Check tells of a plan.
func isBreach(t *testing.T, what string, h api.Hall, l []api.Campaign, plan []int, want api.Breach) {
	t.Helper()
	b, e := hall.Check(h, l, plan)
	wantError := api.OK
	if want.Rule != 0 {
		wantError = api.ErrAgainst
	}
	if b != want || e != wantError {
		t.Errorf("%s: the plan %v has %v, error %d, instead of %v", what, plan, b, e, want)
	}
}

// all returns a list of one number.
func all(count, x int) []int { return slices.Repeat([]int{x}, count) }

// open returns a hall of so many hours in which everything goes.
func open(hours int) api.Hall {
	return api.Hall{Rooms: 4, Staff: all(hours, 1), Energy: all(hours, 10)}
}

// example returns the hall and the campaigns of the document's example 1.
func example() (api.Hall, []api.Campaign) {
	h := open(6)
	h.Rooms, h.Clean = 1, 1
	return h, []api.Campaign{
		{Customer: 0, Prepare: 1, Hours: 2, Energy: 5, Late: 6, Weight: 1},
		{Customer: 1, Prepare: 1, Hours: 1, Energy: 5, Late: 6, Weight: 3},
	}
}

// call is a function of the package with its other arguments: the error and the results.
type call struct {
	name string
	do   func(h api.Hall, l []api.Campaign, plan []int) (api.Errno, []any)
}

// withoutPlan returns the functions that have no plan as an argument.
func withoutPlan() []call {
	return []call{
		{"CheckCampaigns", func(h api.Hall, l []api.Campaign, _ []int) (api.Errno, []any) {
			return hall.CheckCampaigns(h, l), nil
		}},
		{"Best", func(h api.Hall, l []api.Campaign, _ []int) (api.Errno, []any) {
			plan, cost, e := hall.Best(h, l)
			return e, []any{plan, cost}
		}},
		{"Bound", func(h api.Hall, l []api.Campaign, _ []int) (api.Errno, []any) {
			x, e := hall.Bound(h, l)
			return e, []any{x}
		}},
		{"Crowded", func(h api.Hall, l []api.Campaign, _ []int) (api.Errno, []any) {
			x, found, e := hall.Crowded(h, l)
			return e, []any{x, found}
		}},
	}
}

// keepers returns the functions that want a plan that keeps the rules.
func keepers(c api.Campaign, customer int) []call {
	return []call{
		{"Cost", func(h api.Hall, l []api.Campaign, plan []int) (api.Errno, []any) {
			x, e := hall.Cost(h, l, plan)
			return e, []any{x}
		}},
		{"Use", func(h api.Hall, l []api.Campaign, plan []int) (api.Errno, []any) {
			energy, rooms, e := hall.Use(h, l, plan)
			return e, []any{energy, rooms}
		}},
		{"Rooms", func(h api.Hall, l []api.Campaign, plan []int) (api.Errno, []any) {
			x, e := hall.Rooms(h, l, plan)
			return e, []any{x}
		}},
		{"Fit", func(h api.Hall, l []api.Campaign, plan []int) (api.Errno, []any) {
			x, e := hall.Fit(h, l, plan, c)
			return e, []any{x}
		}},
		{"View", func(h api.Hall, l []api.Campaign, plan []int) (api.Errno, []any) {
			x, e := hall.View(h, l, plan, customer)
			return e, []any{x}
		}},
	}
}

// withPlan returns the functions that have a plan as an argument; their other arguments are wrong.
func withPlan() []call {
	return append(keepers(api.Campaign{}, -1),
		call{"Check", func(h api.Hall, l []api.Campaign, plan []int) (api.Errno, []any) {
			x, e := hall.Check(h, l, plan)
			return e, []any{x}
		}},
		call{"Replan", func(h api.Hall, l []api.Campaign, plan []int) (api.Errno, []any) {
			x, cost, e := hall.Replan(h, l, plan, -1)
			return e, []any{x, cost}
		}})
}

// runHours and prepareHours return the hours of a campaign with a first hour.
func runHours(c api.Campaign, first int) []int {
	var hours []int
	for k := range c.Hours {
		hours = append(hours, first+k)
	}
	return hours
}

func prepareHours(c api.Campaign, first int) []int {
	var hours []int
	for k := c.Prepare; k > 0; k-- {
		hours = append(hours, first-k)
	}
	return hours
}

// distance returns the least distance between an hour of one list and one of another, 1000 if there is none.
func distance(a, b []int) int {
	least := 1000
	for _, x := range a {
		for _, y := range b {
			least = min(least, max(x-y, y-x))
		}
	}
	return least
}

// broken returns what breaks the rules, told by lists of all hours.
func broken(h api.Hall, l []api.Campaign, plan []int) api.Breach {
	for i, c := range l {
		hours := append(prepareHours(c, plan[i]), runHours(c, plan[i])...)
		if slices.Min(hours) < c.Early || slices.Max(hours) >= c.Late {
			return api.Breach{Rule: api.RuleTime, A: i}
		}
	}
	for i, c := range l {
		for _, hour := range runHours(c, plan[i]) {
			if h.Staff[hour] == 0 {
				return api.Breach{Rule: api.RuleStaff, A: i, Hour: hour}
			}
		}
	}
	for i, c := range l {
		for _, hour := range runHours(c, plan[i]) {
			if c.Energy > h.Energy[hour] {
				return api.Breach{Rule: api.RuleEnergy, A: i, Hour: hour}
			}
		}
	}
	for i, c := range l {
		for j := range l {
			near := distance(runHours(c, plan[i]), runHours(l[j], plan[j]))
			if i < j && (near == 0 || c.Customer != l[j].Customer && near <= h.Clean) {
				return api.Breach{Rule: api.RuleTunnel, A: i, B: j}
			}
		}
	}
	for hour := range h.Staff {
		count := 0
		for i, c := range l {
			if slices.Contains(prepareHours(c, plan[i]), hour) {
				count++
			}
		}
		if count > h.Rooms {
			return api.Breach{Rule: api.RuleRooms, Hour: hour}
		}
	}
	return api.Breach{}
}

// price returns the cost of a plan.
func price(l []api.Campaign, plan []int) int {
	cost := 0
	for i, c := range l {
		cost += c.Weight * (1 + slices.Max(runHours(c, plan[i])))
	}
	return cost
}

// cheapest tries all plans in ascending order that may be, and returns the first one with the least cost.
func cheapest(h api.Hall, l []api.Campaign, may func(campaign, first int) bool) (best []int, cost int, some bool) {
	plans := [][]int{nil}
	for i, c := range l {
		var more [][]int
		for _, plan := range plans {
			for first := c.Early + c.Prepare; first < len(h.Staff); first++ {
				longer := append(slices.Clone(plan), first)
				if may(i, first) && broken(h, l[:i+1], longer).Rule == 0 {
					more = append(more, longer)
				}
			}
		}
		plans = more
	}
	for _, plan := range plans {
		if x := price(l, plan); !some || x < cost {
			best, cost, some = plan, x, true
		}
	}
	return best, cost, some
}

// anyOf returns one of some values.
func anyOf[T any](r *rand.Rand, l ...T) T { return l[r.IntN(len(l))] }

// anyHall returns a hall of at most so many hours.
func anyHall(r *rand.Rand, most int) api.Hall {
	h := api.Hall{Rooms: 1 + r.IntN(3), Clean: r.IntN(3)}
	for range 1 + r.IntN(most) {
		h.Staff = append(h.Staff, anyOf(r, 0, 1, 1, 2, 3, 1, 1, 1, 1))
		h.Energy = append(h.Energy, anyOf(r, 1, 2, 2, 3, 3, 3, 3))
	}
	return h
}

// anyCampaign returns a campaign that is valid for a hall, with a short run.
func anyCampaign(r *rand.Rand, h api.Hall) api.Campaign {
	hours := len(h.Staff)
	c := api.Campaign{Customer: r.IntN(3), Prepare: anyOf(r, 0, 1, 2, 3, 5), Hours: 1 + r.IntN(2), Energy: r.IntN(4), Late: hours, Weight: r.IntN(4)}
	if r.IntN(3) == 0 {
		c.Early = r.IntN(hours)
	}
	if r.IntN(3) == 0 {
		c.Late = c.Early + r.IntN(hours-c.Early+1)
	}
	return c
}

// anyCampaigns returns at most so many campaigns.
func anyCampaigns(r *rand.Rand, h api.Hall, most int) []api.Campaign {
	var l []api.Campaign
	for range r.IntN(most + 1) {
		l = append(l, anyCampaign(r, h))
	}
	return l
}

// anyPlan returns a plan whose runs are mostly in the hall's hours.
func anyPlan(r *rand.Rand, h api.Hall, l []api.Campaign) []int {
	var plan []int
	for _, c := range l {
		plan = append(plan, min(c.Early+c.Prepare, len(h.Staff))+r.IntN(len(h.Staff)+1)-r.IntN(2))
	}
	return plan
}

// anyKept returns a hall with campaigns and a plan that keeps the rules.
func anyKept(r *rand.Rand, most, campaigns int) (api.Hall, []api.Campaign, []int) {
	h := anyHall(r, most)
	var l []api.Campaign
	var plan []int
	for range 8 * campaigns {
		more := append(slices.Clone(l), anyCampaign(r, h))
		longer := append(slices.Clone(plan), r.IntN(len(h.Staff)))
		if len(l) < campaigns && broken(h, more, longer).Rule == 0 {
			l, plan = more, longer
		}
	}
	return h, l, plan
}

// cases yields as many random sources.
func cases(count int) func(yield func(*rand.Rand) bool) {
	return func(yield func(*rand.Rand) bool) {
		r := rand.New(rand.NewPCG(10, 10))
		for range count {
			if !yield(r) {
				return
			}
		}
	}
}
