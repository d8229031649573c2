package hall_test

import (
	"math"
	"slices"
	"testing"

	"venturi/api"
	"venturi/hall"
)

// P10.2: the document's examples 1 and 2.
func TestExamplesOfCheck(t *testing.T) {
	h, l := example()
	isBreach(t, "example 1", h, l, []int{1, 4}, api.Breach{})
	isBreach(t, "example 1", h, l, []int{3, 1}, api.Breach{})
	isBreach(t, "example 2", h, l, []int{1, 3}, api.Breach{Rule: api.RuleTunnel, A: 0, B: 1})
	isBreach(t, "example 2", h, l, []int{0, 4}, api.Breach{Rule: api.RuleTime, A: 0})
	h.Staff[2] = 0
	isBreach(t, "example 2", h, l, []int{1, 4}, api.Breach{Rule: api.RuleStaff, A: 0, Hour: 2})
}

// P10.2: rule 1, to the hour.
func TestTimes(t *testing.T) {
	h := open(12)
	l := []api.Campaign{{Hours: 1, Late: 12}, {Customer: 1, Prepare: 3, Hours: 2, Early: 2, Late: 9}}
	for first := -3; first < 20; first++ {
		want := api.Breach{}
		if first < 5 || first > 7 {
			want = api.Breach{Rule: api.RuleTime, A: 1}
		}
		isBreach(t, "times", h, l, []int{11, first}, want)
	}
	isBreach(t, "the first one", h, l, []int{-1, -1}, api.Breach{Rule: api.RuleTime})
	l[1].Early = 8
	isBreach(t, "no time", h, l, []int{0, 8}, api.Breach{Rule: api.RuleTime, A: 1})
	isBreach(t, "no time", h, l, []int{0, 11}, api.Breach{Rule: api.RuleTime, A: 1})
}

// P10.2, P1: a plan can have any integers.
func TestAnyIntegers(t *testing.T) {
	h, l := example()
	for _, x := range []int{math.MinInt, math.MinInt + 1, math.MaxInt, math.MaxInt - 1, math.MaxInt - 2, -1, 7, 1 << 32, -1 << 32} {
		isBreach(t, "any integer", h, l, []int{x, 4}, api.Breach{Rule: api.RuleTime})
		isBreach(t, "any integer", h, l, []int{1, x}, api.Breach{Rule: api.RuleTime, A: 1})
		isBreach(t, "any integers", h, l, []int{x, x}, api.Breach{Rule: api.RuleTime})
		for _, c := range keepers(api.Campaign{}, -1) {
			e, results := c.do(h, l, []int{1, x})
			isError(t, c.name, e, api.ErrAgainst, results...)
		}
	}
}

// P10.2: rules 2 and 3 are about the hours of runs alone.
func TestStaffAndEnergy(t *testing.T) {
	h := open(8)
	l := []api.Campaign{{Prepare: 2, Hours: 2, Energy: 10, Late: 8}, {Prepare: 1, Hours: 2, Energy: 4, Late: 8}}
	plan := []int{2, 5}
	for _, hour := range []int{0, 1, 4, 7} {
		h.Staff[hour], h.Energy[hour] = 0, 0
	}
	isBreach(t, "preparations need nothing", h, l, plan, api.Breach{})
	h.Staff[3] = 1000
	h.Energy[5], h.Energy[6] = 4, 3
	isBreach(t, "energy", h, l, plan, api.Breach{Rule: api.RuleEnergy, A: 1, Hour: 6})
	h.Energy[5] = 3
	isBreach(t, "energy of the first hour", h, l, plan, api.Breach{Rule: api.RuleEnergy, A: 1, Hour: 5})
	h.Energy[3] = 9
	isBreach(t, "energy of the first campaign", h, l, plan, api.Breach{Rule: api.RuleEnergy, A: 0, Hour: 3})
	h.Staff[6] = 0
	isBreach(t, "staff before energy", h, l, plan, api.Breach{Rule: api.RuleStaff, A: 1, Hour: 6})
	h.Staff[5] = 0
	isBreach(t, "staff of the first hour", h, l, plan, api.Breach{Rule: api.RuleStaff, A: 1, Hour: 5})
	h.Staff[3] = 0
	isBreach(t, "staff of the first campaign", h, l, plan, api.Breach{Rule: api.RuleStaff, A: 0, Hour: 3})
	isBreach(t, "the time before the staff", h, l, []int{2, 7}, api.Breach{Rule: api.RuleTime, A: 1})
}

// P10.2: rule 4, to the hour.
func TestTunnel(t *testing.T) {
	for clean := range 7 {
		h := open(60)
		h.Clean = clean
		for first := range 58 {
			l := []api.Campaign{{Hours: 5, Late: 60}, {Hours: 3, Late: 60}}
			want := api.Breach{}
			if 30-3 < first && first < 30+5 {
				want = api.Breach{Rule: api.RuleTunnel, B: 1}
			}
			isBreach(t, "one customer", h, l, []int{30, first}, want)
			l[1].Customer = 20
			if 30-3-clean < first && first < 30+5+clean {
				want = api.Breach{Rule: api.RuleTunnel, B: 1}
			}
			isBreach(t, "two customers", h, l, []int{30, first}, want)
		}
	}
}

// P10.2: of rule 4 the first pair.
func TestPairs(t *testing.T) {
	h := open(20)
	h.Clean = 2
	c := api.Campaign{Hours: 1, Late: 20}
	other := c
	other.Customer = 3
	l := []api.Campaign{c, c, other, c}
	isBreach(t, "two pairs", h, l, []int{9, 2, 11, 2}, api.Breach{Rule: api.RuleTunnel, A: 0, B: 2})
	isBreach(t, "two pairs", h, l, []int{9, 2, 12, 2}, api.Breach{Rule: api.RuleTunnel, A: 1, B: 3})
	isBreach(t, "of one campaign", h, l, []int{5, 7, 6, 7}, api.Breach{Rule: api.RuleTunnel, A: 0, B: 2})
	isBreach(t, "a run of the same customer between", h, l, []int{5, 6, 8, 10}, api.Breach{Rule: api.RuleTunnel, A: 1, B: 2})
	isBreach(t, "far enough", h, l, []int{5, 6, 9, 12}, api.Breach{})
	h.Rooms = 1
	l[0].Prepare, l[3].Prepare = 1, 1
	isBreach(t, "the tunnel before the rooms", h, l, []int{5, 6, 8, 5}, api.Breach{Rule: api.RuleTunnel, A: 0, B: 3})
}

// P10.2: of rule 5 the first hour.
func TestPreparations(t *testing.T) {
	var l []api.Campaign
	var plan []int
	for i := range 5 {
		l = append(l, api.Campaign{Customer: i, Prepare: 10 - i, Hours: 1, Late: 20})
		plan = append(plan, 10+i)
	}
	// In the hours 0, 2, 4, 6, 8 one more preparation begins; the first one ends in the hour 9.
	for rooms := 1; rooms <= 4; rooms++ {
		h := open(20)
		h.Rooms = rooms
		isBreach(t, "rooms", h, l, plan, api.Breach{Rule: api.RuleRooms, Hour: 2 * rooms})
		isBreach(t, "as many as rooms", h, l[:rooms], plan[:rooms], api.Breach{})
	}
	h := open(20)
	h.Rooms = 1
	l = []api.Campaign{{Prepare: 3, Hours: 1, Late: 20}, {Prepare: 3, Hours: 3, Late: 20}}
	isBreach(t, "one behind the other", h, l, []int{3, 6}, api.Breach{})
	isBreach(t, "one hour in common", h, l, []int{3, 5}, api.Breach{Rule: api.RuleRooms, Hour: 2})
	isBreach(t, "one hour in common", h, l, []int{8, 5}, api.Breach{})
	isBreach(t, "a preparation in the run of another one", h, l, []int{6, 3}, api.Breach{})
}

// P10.2: the plans of random campaigns, told by lists of their hours.
func TestCheck(t *testing.T) {
	found := map[api.Rule]int{}
	for r := range cases(20000) {
		h := anyHall(r, 12)
		l := anyCampaigns(r, h, 5)
		plan := anyPlan(r, h, l)
		if r.IntN(3) == 0 {
			h, l, plan = anyKept(r, 12, 5)
			h.Rooms = 1
		}
		want := broken(h, l, plan)
		found[want.Rule]++
		isBreach(t, "random", h, l, plan, want)
	}
	for rule := range api.RuleRooms + 1 {
		if found[rule] < 50 {
			t.Error("too few plans break the rule", rule, found[rule])
		}
	}
}

// P10.3: a plan that breaks the rules has no cost, no use, no rooms and no views.
func TestAgainst(t *testing.T) {
	for r := range cases(5000) {
		h := anyHall(r, 12)
		l := anyCampaigns(r, h, 4)
		plan := anyPlan(r, h, l)
		want := api.OK
		if broken(h, l, plan).Rule != 0 {
			want = api.ErrAgainst
		}
		late := api.Campaign{Prepare: 1, Hours: 1, Late: len(h.Staff), Early: len(h.Staff)}
		for _, c := range keepers(late, 0) {
			e, results := c.do(h, l, plan)
			if want == api.OK && e == api.ErrNoPlace {
				continue // of Fit
			}
			if e != want {
				t.Errorf("%s: error %d instead of %d", c.name, e, want)
			}
			if e != api.OK {
				isError(t, c.name, e, want, results...)
			}
		}
	}
}

// P10.2: no campaigns keep all rules.
func TestNoCampaigns(t *testing.T) {
	h := open(96)
	for i := range h.Staff {
		h.Staff[i] = 0
	}
	isBreach(t, "none", h, nil, nil, api.Breach{})
	isBreach(t, "none", h, []api.Campaign{}, []int{}, api.Breach{})
	x, e := hall.Cost(h, nil, nil)
	is(t, "Cost", x, e, 0)
}

// P10.2: as many campaigns and hours as there can be.
func TestFull(t *testing.T) {
	h := open(96)
	h.Clean, h.Rooms = 6, 1
	var l []api.Campaign
	var plan []int
	for i := range 16 {
		l = append(l, api.Campaign{Customer: i % 2, Prepare: 1, Hours: 1, Energy: 10, Late: 96, Weight: 100})
		plan = append(plan, 1+6*i)
	}
	isBreach(t, "too near", h, l, plan, api.Breach{Rule: api.RuleTunnel, A: 0, B: 1})
	h.Clean = 5
	isBreach(t, "all", h, l, plan, api.Breach{})
	slices.Reverse(plan)
	isBreach(t, "all backwards", h, l, plan, api.Breach{})
	cost, e := hall.Cost(h, l, plan)
	is(t, "the cost of all", cost, e, price(l, plan))
}
