package hall_test

import (
	"math"
	"strconv"
	"testing"

	"venturi/api"
	"venturi/hall"
)

// extremes returns integers that are outside of all limits.
func extremes() []int { return []int{-1, math.MinInt, math.MaxInt, 1001} }

// badHalls returns halls that are not valid, by what is wrong.
func badHalls() map[string]api.Hall {
	bad := map[string]api.Hall{"zero": {}, "no hours": {Rooms: 1}, "97 hours": open(97), "100000 hours": open(100000)}
	change := func(what string, by func(h *api.Hall)) {
		h := open(3)
		by(&h)
		bad[what] = h
	}
	change("less energies", func(h *api.Hall) { h.Energy = h.Energy[:2] })
	change("more energies", func(h *api.Hall) { h.Energy = append(h.Energy, 1) })
	change("no energies", func(h *api.Hall) { h.Energy = nil })
	change("energies alone", func(h *api.Hall) { h.Staff = nil })
	change("no rooms", func(h *api.Hall) { h.Rooms = 0 })
	change("5 rooms", func(h *api.Hall) { h.Rooms = 5 })
	change("7 hours to sweep", func(h *api.Hall) { h.Clean = 7 })
	for _, x := range extremes() {
		change("staff "+strconv.Itoa(x), func(h *api.Hall) { h.Staff[0] = x })
		change("staff of the last hour "+strconv.Itoa(x), func(h *api.Hall) { h.Staff[2] = x })
		change("energy "+strconv.Itoa(x), func(h *api.Hall) { h.Energy[0] = x })
		change("energy of the last hour "+strconv.Itoa(x), func(h *api.Hall) { h.Energy[2] = x })
		change("rooms "+strconv.Itoa(x), func(h *api.Hall) { h.Rooms = x })
		change("clean "+strconv.Itoa(x), func(h *api.Hall) { h.Clean = x })
	}
	return bad
}

// P10.1
func TestCheckHall(t *testing.T) {
	for what, h := range badHalls() {
		isError(t, what, hall.CheckHall(h), api.ErrArg)
	}
	h := open(96)
	h.Clean = 6
	for i := range h.Staff {
		h.Staff[i], h.Energy[i] = 1000*(i%2), 1000*(i/2%2)
	}
	isError(t, "96 hours", hall.CheckHall(h), api.OK)
	isError(t, "one hour", hall.CheckHall(api.Hall{Rooms: 1, Staff: []int{0}, Energy: []int{0}}), api.OK)
	for rooms := range 6 {
		h := open(2)
		h.Rooms = rooms
		is(t, "rooms", hall.CheckHall(h) == api.OK, api.OK, 1 <= rooms && rooms <= 4)
	}
	for clean := range 8 {
		h := open(2)
		h.Clean = clean
		is(t, "clean", hall.CheckHall(h) == api.OK, api.OK, clean <= 6)
	}
}

// badCampaigns returns campaigns that are not valid for a hall of 40 hours, by what is wrong.
func badCampaigns() map[string][]api.Campaign {
	bad := map[string][]api.Campaign{"zero": {{}}, "17": make([]api.Campaign, 17), "100000": make([]api.Campaign, 100000)}
	for i := range bad["17"] {
		bad["17"][i] = api.Campaign{Hours: 1, Late: 40}
	}
	good := api.Campaign{Hours: 1, Early: 1, Late: 40}
	change := func(what string, by func(c *api.Campaign)) {
		c := good
		by(&c)
		bad[what] = []api.Campaign{good, c, good}
	}
	change("customer 21", func(c *api.Campaign) { c.Customer = 21 })
	change("25 hours of preparation", func(c *api.Campaign) { c.Prepare = 25 })
	change("no hours", func(c *api.Campaign) { c.Hours = 0 })
	change("25 hours", func(c *api.Campaign) { c.Hours = 25 })
	change("weight 101", func(c *api.Campaign) { c.Weight = 101 })
	change("late before early", func(c *api.Campaign) { c.Early, c.Late = 3, 2 })
	change("late 41", func(c *api.Campaign) { c.Late = 41 })
	change("early 41", func(c *api.Campaign) { c.Early, c.Late = 41, 41 })
	for _, x := range extremes() {
		change("customer "+strconv.Itoa(x), func(c *api.Campaign) { c.Customer = x })
		change("prepare "+strconv.Itoa(x), func(c *api.Campaign) { c.Prepare = x })
		change("hours "+strconv.Itoa(x), func(c *api.Campaign) { c.Hours = x })
		change("energy "+strconv.Itoa(x), func(c *api.Campaign) { c.Energy = x })
		change("early "+strconv.Itoa(x), func(c *api.Campaign) { c.Early = x })
		change("late "+strconv.Itoa(x), func(c *api.Campaign) { c.Late = x })
		change("both "+strconv.Itoa(x), func(c *api.Campaign) { c.Early, c.Late = x, x })
		change("weight "+strconv.Itoa(x), func(c *api.Campaign) { c.Weight = x })
	}
	return bad
}

// P10.1
func TestCheckCampaigns(t *testing.T) {
	for what, l := range badCampaigns() {
		isError(t, what, hall.CheckCampaigns(open(40), l), api.ErrArg)
	}
	least := api.Campaign{Hours: 1}
	most := api.Campaign{Customer: 20, Prepare: 24, Hours: 24, Energy: 1000, Early: 40, Late: 40, Weight: 100}
	var l []api.Campaign
	for range 8 {
		l = append(l, least, most)
	}
	isError(t, "16", hall.CheckCampaigns(open(40), l), api.OK)
	isError(t, "none", hall.CheckCampaigns(open(40), nil), api.OK)
	isError(t, "of a longer hall", hall.CheckCampaigns(open(39), l), api.ErrArg)
}

// P10.1, R1: what is valid comes before all other errors.
func TestFirstErrors(t *testing.T) {
	good := []api.Campaign{{Hours: 1, Late: 3}}
	for _, c := range append(withoutPlan(), withPlan()...) {
		for what, h := range badHalls() {
			for _, l := range [][]api.Campaign{nil, good, {{}}} {
				e, results := c.do(h, l, []int{-1, 0})
				isError(t, c.name+" in a hall with "+what, e, api.ErrArg, results...)
			}
		}
		for what, l := range badCampaigns() {
			for _, plan := range [][]int{nil, all(len(l), -1), {2, 2}} {
				e, results := c.do(open(40), l, plan)
				isError(t, c.name+" of campaigns with "+what, e, api.ErrArg, results...)
			}
		}
	}
}

// R1: the length of a plan comes before all that is asked of it.
func TestLengthOfPlan(t *testing.T) {
	h, l := example()
	for _, c := range withPlan() {
		for _, plan := range [][]int{nil, {1}, {9}, {1, 4, 1}, {-9, -9, -9}, all(100000, 1)} {
			e, results := c.do(h, l, plan)
			isError(t, c.name, e, api.ErrLong, results...)
		}
		e, results := c.do(h, nil, []int{0})
		isError(t, c.name+" without campaigns", e, api.ErrLong, results...)
	}
}
