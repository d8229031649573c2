package hall_test

import (
	"math/rand/v2"
	"slices"
	"testing"

	"venturi/api"
	"venturi/hall"
)

// isBest checks the best plan; none is ErrNoPlan.
func isBest(t *testing.T, what string, h api.Hall, l []api.Campaign, want []int, cost int, some bool) {
	t.Helper()
	plan, got, e := hall.Best(h, l)
	isPlan(t, what, plan, got, e, want, cost, some)
}

// anyPlace lets all runs be anywhere.
func anyPlace(campaign, first int) bool { return true }

// P10.4: the document's example 1.
func TestExampleOfBest(t *testing.T) {
	h, l := example()
	isBest(t, "example 1", h, l, []int{3, 1}, 11, true)
	bound, e := hall.Bound(h, l)
	is(t, "Bound", bound, e, 3+6)
}

// P10.4
func TestBestOfFew(t *testing.T) {
	h, l := example()
	isBest(t, "no campaigns", h, nil, nil, 0, true)
	isBest(t, "one campaign", h, l[:1], []int{1}, 3, true)
	l[0].Weight = 0
	isBest(t, "the smallest list of the same cost", h, l, []int{3, 1}, 6, true)
	l[1].Weight = 0
	isBest(t, "the smallest list of all", h, l, []int{1, 4}, 0, true)
	l[1].Early = 5
	isBest(t, "no time", h, l, nil, 0, false)
	for _, c := range []int{5, 16} {
		plan, cost, e := hall.Best(h, make([]api.Campaign, c))
		isError(t, "not valid", e, api.ErrArg, plan, cost)
		plan, cost, e = hall.Best(h, slices.Repeat(l, 8)[:c])
		isError(t, "too many, of which no plan is either", e, api.ErrLong, plan, cost)
	}
}

// P10.4: the first one of several with the least cost is the smallest list, not the one with the first runs.
func TestSmallestList(t *testing.T) {
	h := open(4)
	h.Staff[1] = 0
	c := api.Campaign{Hours: 1, Late: 4, Weight: 2}
	isBest(t, "all alike", h, []api.Campaign{c, c, c}, []int{0, 2, 3}, 2*(1+3+4), true)
	late := c
	late.Early = 2
	isBest(t, "the last one is bound", h, []api.Campaign{c, late, c}, []int{0, 2, 3}, 2*(1+3+4), true)
	c.Weight = 1
	isBest(t, "heavier ones first", h, []api.Campaign{c, late, late}, []int{0, 2, 3}, 1+2*(3+4), true)
}

// P10.4, P10.10: all plans of random campaigns, tried one by one.
func TestBest(t *testing.T) {
	none, above := 0, 0
	for r := range cases(2500) {
		h := anyHall(r, 9)
		l := anyCampaigns(r, h, 4)
		if r.IntN(2) == 0 {
			h, l, _ = anyKept(r, 9, 4) // there is a plan
		}
		want, cost, some := cheapest(h, l, anyPlace)
		isBest(t, "random", h, l, want, cost, some)
		if !some {
			none++
			continue
		}
		bound, e := hall.Bound(h, l)
		if e != api.OK || bound > cost {
			t.Error("no bound", h, l, bound, e)
		}
		if bound < cost {
			above++
		}
	}
	if none < 300 || above < 300 {
		t.Error("cases that prove little", none, above)
	}
}

// P10.10: no plan that keeps the rules costs less than the best one, nor than the bound.
func TestNoBetter(t *testing.T) {
	for r := range cases(3000) {
		h, l, plan := anyKept(r, 40, 4)
		cost, e := hall.Cost(h, l, plan)
		best, least, e2 := hall.Best(h, l)
		bound, e3 := hall.Bound(h, l)
		if e != api.OK || e2 != api.OK || e3 != api.OK || cost < least || least < bound {
			t.Error("better than the best", h, l, plan, cost, best, least, bound, e, e2, e3)
		}
		isBreach(t, "the best one", h, l, best, api.Breach{})
		if x := slices.Compare(best, plan); cost == least && x > 0 {
			t.Error("a smaller list", h, l, plan, best)
		}
	}
}

// P10.5
func TestBound(t *testing.T) {
	for r := range cases(5000) {
		h := anyHall(r, 12)
		l := anyCampaigns(r, h, 16)
		want, some := 0, true
		for _, c := range l {
			_, cost, alone := cheapest(h, []api.Campaign{c}, anyPlace)
			want += cost
			some = some && alone
		}
		bound, e := hall.Bound(h, l)
		if !some {
			isError(t, "a campaign without a place", e, api.ErrNoPlan, bound)
			continue
		}
		is(t, "random", bound, e, want)
	}
	h := open(30)
	h.Rooms, h.Energy[2], h.Staff[5] = 1, 9, 0
	c := api.Campaign{Prepare: 1, Hours: 3, Energy: 10, Late: 30, Weight: 3}
	bound, e := hall.Bound(h, []api.Campaign{c, c})
	is(t, "each one alone", bound, e, 3*9*2)
	bound, e = hall.Bound(h, slices.Repeat([]api.Campaign{c}, 16))
	is(t, "16 of them", bound, e, 3*9*16)
	bound, e = hall.Bound(h, nil)
	is(t, "none", bound, e, 0)
	c.Energy = 11
	bound, e = hall.Bound(h, []api.Campaign{{Hours: 1, Late: 30}, c})
	isError(t, "more energy than there is", e, api.ErrNoPlan, bound)
}

// crowded goes through all ranges of hours.
func crowded(h api.Hall, l []api.Campaign) (api.Crowd, bool) {
	for a := 0; a < len(h.Staff); a++ {
		for b := a + 1; b <= len(h.Staff); b++ {
			x := api.Crowd{From: a, To: b, Have: b - a}
			for _, staff := range h.Staff[a:b] {
				if staff == 0 {
					x.Have--
				}
			}
			for _, c := range l {
				if a <= c.Early+c.Prepare && c.Late <= b {
					x.Need += c.Hours
				}
			}
			if x.Need > x.Have {
				return x, true
			}
		}
	}
	return api.Crowd{}, false
}

// isCrowded checks what Crowded finds.
func isCrowded(t *testing.T, what string, h api.Hall, l []api.Campaign, want api.Crowd, some bool) {
	t.Helper()
	x, found, e := hall.Crowded(h, l)
	is(t, what, x, e, want)
	is(t, what, found, e, some)
}

// P10.6: the document's example 4.
func TestExampleOfCrowded(t *testing.T) {
	for _, hour := range []int{1, 2, 3} {
		h, l := example()
		l[1].Late, l[0].Late = 3, 4
		isCrowded(t, "example 4", h, l, api.Crowd{}, false)
		h.Staff[hour] = 0
		isCrowded(t, "one hour less", h, l, api.Crowd{From: 1, To: 4, Need: 3, Have: 2}, true)
	}
}

// P10.6
func TestCrowdedHours(t *testing.T) {
	h := open(10)
	isCrowded(t, "none", h, nil, api.Crowd{}, false)
	c := api.Campaign{Hours: 2, Late: 10}
	isCrowded(t, "just enough", h, slices.Repeat([]api.Campaign{c}, 5), api.Crowd{}, false)
	isCrowded(t, "too many", h, slices.Repeat([]api.Campaign{c}, 6), api.Crowd{From: 0, To: 10, Need: 12, Have: 10}, true)
	c.Prepare, c.Early, c.Late = 3, 2, 7
	isCrowded(t, "just enough from 5 to 7", h, []api.Campaign{c}, api.Crowd{}, false)
	isCrowded(t, "too many from 4 to 7", h, []api.Campaign{c, c}, api.Crowd{From: 4, To: 7, Need: 4, Have: 3}, true)
}

// P10.6, P10.10: the first hours that are too few, and no plan where there are some.
func TestCrowded(t *testing.T) {
	some := 0
	for r := range cases(5000) {
		h := anyHall(r, 10)
		l := anyCampaigns(r, h, anyOf(r, 2, 4, 16))
		want, found := crowded(h, l)
		isCrowded(t, "random", h, l, want, found)
		if !found || len(l) > api.MaxBest {
			continue
		}
		some++
		isBest(t, "too few hours", h, l, nil, 0, false)
	}
	if some < 500 {
		t.Error("too few without a plan", some)
	}
}

// P10.4: the greatest halls, in a short time.
func TestGreatest(t *testing.T) {
	h := open(96)
	h.Rooms, h.Clean = 1, 6
	var l []api.Campaign
	for i := range 4 {
		l = append(l, api.Campaign{Customer: i, Prepare: 18, Hours: 24 - i, Energy: 10, Late: 96, Weight: 100})
	}
	isBest(t, "too long", h, l, nil, 0, false)
	for i := range l {
		l[i].Hours, l[i].Weight = 1, i%2
	}
	isBest(t, "one room", h, l, []int{54, 18, 72, 36}, 19+37, true)
	r := rand.New(rand.NewPCG(1, 1))
	for range 200 {
		for i := range l {
			l[i].Prepare, l[i].Hours, l[i].Weight = anyOf(r, 0, 1, 8, 20), anyOf(r, 1, 2, 8), anyOf(r, 0, 1, 99, 100)
		}
		plan, cost, e := hall.Best(h, l)
		isBreach(t, "great", h, l, plan, api.Breach{})
		is(t, "great", cost, e, price(l, plan))
	}
}
