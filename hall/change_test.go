package hall_test

import (
	"math"
	"slices"
	"testing"

	"venturi/api"
	"venturi/hall"
)

// isFit checks where one more campaign fits in.
func isFit(t *testing.T, what string, h api.Hall, l []api.Campaign, plan []int, c api.Campaign, want int) {
	t.Helper()
	first, e := hall.Fit(h, l, plan, c)
	is(t, what, first, e, want)
}

// isNoFit checks the error of Fit.
func isNoFit(t *testing.T, what string, h api.Hall, l []api.Campaign, plan []int, c api.Campaign, want api.Errno) {
	t.Helper()
	first, e := hall.Fit(h, l, plan, c)
	isError(t, what, e, want, first)
}

// P10.7
func TestFitOfFew(t *testing.T) {
	h, l := example()
	plan := []int{3, 1}
	c := api.Campaign{Customer: 1, Hours: 1, Late: 6}
	isFit(t, "before all", h, l, plan, c, 0)
	c.Prepare = 1
	isNoFit(t, "the room is taken in the hours 0 and 2", h, l, plan, c, api.ErrNoPlace)
	c.Customer = 0
	isFit(t, "behind the own one", h, l, plan, c, 5)
	c.Late = 5
	isNoFit(t, "too late", h, l, plan, c, api.ErrNoPlace)
	isFit(t, "the first one", h, nil, nil, c, 1)
	h.Staff[1], h.Staff[5], h.Energy[3] = 0, 0, 4
	c.Energy = 5
	isFit(t, "where there are staff and energy", h, nil, nil, c, 2)
	c.Early = 2
	isFit(t, "where there are staff and energy", h, nil, nil, c, 4)
	c.Energy = 11
	isNoFit(t, "more energy than there is", h, nil, nil, c, api.ErrNoPlace)
}

// P10.7, R1: what breaks the rules comes before what is not valid, and that before what has no place.
func TestErrorsOfFit(t *testing.T) {
	h := open(40)
	good := api.Campaign{Hours: 1, Late: 40}
	never := api.Campaign{Hours: 2, Early: 39, Late: 40}
	var l []api.Campaign
	var plan []int
	for i := range 16 {
		if i == 15 {
			isFit(t, "the last one", h, l, plan, good, 15)
			isNoFit(t, "no place", h, l, plan, never, api.ErrNoPlace)
		}
		l, plan = append(l, good), append(plan, i)
	}
	isNoFit(t, "17", h, l, plan, good, api.ErrArg)
	isNoFit(t, "17 without a place", h, l, plan, never, api.ErrArg)
	for what, bad := range badCampaigns() {
		if len(bad) == 3 {
			isNoFit(t, what, h, l[:3], plan[:3], bad[1], api.ErrArg)
			isNoFit(t, what, h, l[:3], []int{0, 1, 1}, bad[1], api.ErrAgainst)
		}
	}
	plan[0] = 1
	isNoFit(t, "17 against the rules", h, l, plan, good, api.ErrAgainst)
}

// P10.7, P10.12: the hour keeps the rules, and no smaller one does.
func TestFit(t *testing.T) {
	none := 0
	for r := range cases(5000) {
		h, l, plan := anyKept(r, 14, 6)
		c := anyCampaign(r, h)
		more := append(slices.Clone(l), c)
		want := -1
		for first := len(h.Staff) - 1; first >= 0; first-- {
			if broken(h, more, append(slices.Clone(plan), first)).Rule == 0 {
				want = first
			}
		}
		if want < 0 {
			isNoFit(t, "random", h, l, plan, c, api.ErrNoPlace)
			none++
			continue
		}
		isFit(t, "random", h, l, plan, c, want)
		isBreach(t, "random", h, more, append(slices.Clone(plan), want), api.Breach{})
	}
	if none < 500 || none > 4500 {
		t.Error("cases that prove little", none)
	}
}

// isReplan checks what Replan returns; no plan is ErrNoPlan.
func isReplan(t *testing.T, what string, h api.Hall, l []api.Campaign, plan []int, now int, want []int, cost int, some bool) {
	t.Helper()
	got, gotCost, e := hall.Replan(h, l, plan, now)
	isPlan(t, what, got, gotCost, e, want, cost, some)
}

// P10.8
func TestReplanOfFew(t *testing.T) {
	h, l := example()
	isReplan(t, "nothing has begun", h, l, []int{1, 4}, 0, []int{3, 1}, 11, true)
	isReplan(t, "the first one has begun", h, l, []int{1, 5}, 1, []int{1, 4}, 18, true)
	isReplan(t, "both have begun", h, l, []int{1, 5}, 5, []int{1, 5}, 21, true)
	isReplan(t, "all is over", h, l, []int{1, 4}, 6, []int{1, 4}, 18, true)
	isReplan(t, "the second one has begun", h, l, []int{4, 1}, 1, []int{3, 1}, 11, true)
	isReplan(t, "a place now", h, l, []int{4, 1}, 2, []int{3, 1}, 11, true)
	isReplan(t, "a place an hour later", h, l, []int{4, 1}, 3, []int{4, 1}, 12, true)
	isReplan(t, "both have begun", h, l, []int{4, 1}, 4, []int{4, 1}, 12, true)
	isReplan(t, "too late for the first one", h, l, []int{5, 1}, 4, nil, 0, false)
	h.Staff[4] = 0
	isReplan(t, "nobody in the hour 4", h, l, []int{1, 4}, 2, []int{1, 5}, 21, true)
	h.Staff[2] = 0
	isReplan(t, "what has begun can not go on", h, l, []int{1, 4}, 2, nil, 0, false)
	isReplan(t, "none", h, nil, nil, 3, nil, 0, true)
}

// P10.8: what has no preparation begins with its run.
func TestBegin(t *testing.T) {
	h := open(9)
	l := []api.Campaign{{Hours: 1, Late: 9, Weight: 1}, {Prepare: 2, Hours: 1, Late: 9, Weight: 1}}
	isReplan(t, "both wait", h, l, []int{4, 6}, 4, []int{4, 6}, 12, true)
	isReplan(t, "both have begun", h, l, []int{4, 7}, 6, []int{4, 7}, 13, true)
	isReplan(t, "both wait, now", h, l, []int{8, 8}, 3, []int{3, 5}, 10, true)
	isReplan(t, "the second one has begun", h, l, []int{5, 6}, 5, []int{5, 6}, 13, true)
	isReplan(t, "the second one has begun", h, l, []int{8, 6}, 5, []int{5, 6}, 13, true)
	isReplan(t, "the first one has begun", h, l, []int{4, 8}, 5, []int{4, 7}, 13, true)
}

// P10.8: errors, in their order.
func TestErrorsOfReplan(t *testing.T) {
	h := open(8)
	c := api.Campaign{Hours: 1, Late: 8, Weight: 1}
	l := slices.Repeat([]api.Campaign{c}, 6)
	fails := func(what string, plan []int, now int, want api.Errno) {
		t.Helper()
		got, cost, e := hall.Replan(h, l, plan, now)
		isError(t, what, e, want, got, cost)
	}
	waiting := []int{1, 2, 3, 4, 5, 6}
	for _, now := range []int{-1, 9, math.MinInt, math.MaxInt} {
		fails("no hour", waiting, now, api.ErrRange)
		fails("no hour, no plan", []int{1}, now, api.ErrLong)
	}
	fails("6 wait", waiting, 0, api.ErrLong)
	fails("6 wait", waiting, 1, api.ErrLong)
	fails("5 wait", waiting, 2, api.ErrLong)
	isReplan(t, "4 wait", h, l, waiting, 3, waiting, 27, true)
	fails("5 wait, and there is no plan", []int{9, 9, 9, 9, 1, 9}, 8, api.ErrLong)
	fails("4 wait, and the others are at one place", []int{9, 9, 9, 9, 1, 1}, 2, api.ErrNoPlan)
	fails("what has begun is at no place", []int{-1, 1, 2, 3, 4, 5}, 8, api.ErrNoPlan)
	fails("what has begun is at no place", []int{math.MinInt, 1, 2, 3, 4, 5}, 2, api.ErrNoPlan)
	isReplan(t, "what waits was at no place", h, l, []int{0, 1, 2, math.MaxInt, 1000, 8}, 3, []int{0, 1, 2, 3, 4, 5}, 21, true)
	l[3].Prepare = 24
	fails("what has begun is at no place", []int{0, 1, 2, math.MinInt, 1000, 8}, 3, api.ErrNoPlan)
	fails("what waits has no place", []int{0, 1, 2, math.MaxInt, 1000, 8}, 3, api.ErrNoPlan)
}

// P10.8: what waits takes the rooms, the tunnel and the hours that what has begun leaves.
func TestBesideOthers(t *testing.T) {
	h := open(20)
	h.Rooms, h.Clean = 2, 2
	l := []api.Campaign{
		{Customer: 1, Prepare: 6, Hours: 2, Late: 20, Weight: 1},
		{Customer: 1, Prepare: 1, Hours: 3, Late: 20, Weight: 9},
		{Customer: 2, Prepare: 3, Hours: 1, Late: 20, Weight: 1},
		{Customer: 1, Prepare: 3, Hours: 1, Late: 20, Weight: 1},
	}
	isReplan(t, "0 and 1 have begun", h, l, []int{7, 2, 15, 19}, 2, []int{7, 2, 11, 5}, 9+45+12+6, true)
}

// P10.8, P10.12: all plans of random campaigns that keep what has begun, tried one by one.
func TestReplan(t *testing.T) {
	kinds := map[api.Errno]int{}
	for r := range cases(4000) {
		h, l, plan := anyKept(r, 10, 7)
		switch r.IntN(4) {
		case 0: // the hall has changed
			h.Staff[r.IntN(len(h.Staff))], h.Energy[r.IntN(len(h.Staff))] = 0, 1
		case 1: // the campaigns have changed
			if len(l) > 0 {
				l[r.IntN(len(l))] = anyCampaign(r, h)
			}
		case 2: // the plan is another one
			plan = anyPlan(r, h, l)
		}
		now := r.IntN(len(h.Staff) + 1)
		begun := func(i int) bool { return plan[i]-l[i].Prepare < now }
		waiting := 0
		for i := range l {
			if !begun(i) {
				waiting++
			}
		}
		got, cost, e := hall.Replan(h, l, plan, now)
		kinds[e]++
		if waiting > api.MaxBest {
			isError(t, "too many", e, api.ErrLong, got, cost)
			continue
		}
		want, wantCost, some := cheapest(h, l, func(i, first int) bool {
			return begun(i) && first == plan[i] || !begun(i) && first-l[i].Prepare >= now
		})
		isPlan(t, "random", got, cost, e, want, wantCost, some)
		for i := range got {
			if begun(i) && got[i] != plan[i] {
				t.Error("what had begun has moved", h, l, plan, now, got)
			}
		}
	}
	if kinds[api.OK] < 500 || kinds[api.ErrNoPlan] < 500 || kinds[api.ErrLong] < 50 {
		t.Error("cases that prove little", kinds)
	}
}

// P10.12: at the hour 0, a plan that keeps the rules becomes the best one.
func TestReplanAtFirst(t *testing.T) {
	for r := range cases(2000) {
		h, l, plan := anyKept(r, 30, 5)
		best, cost, e := hall.Best(h, l)
		got, gotCost, e2 := hall.Replan(h, l, plan, 0)
		if len(l) > api.MaxBest {
			isError(t, "Best of 5", e, api.ErrLong, best, cost)
			isError(t, "Replan of 5", e2, api.ErrLong, got, gotCost)
			continue
		}
		isError(t, "Best", e, api.OK)
		isPlan(t, "random", got, gotCost, e2, best, cost, true)
	}
}
