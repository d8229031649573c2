package hall_test

import (
	"math"
	"math/rand/v2"
	"slices"
	"testing"

	"venturi/api"
	"venturi/hall"
)

// shown writes what a customer sees of each hour: f free, o own, p prepare, c closed.
func shown(t *testing.T, h api.Hall, l []api.Campaign, plan []int, customer int) string {
	t.Helper()
	seen, e := hall.View(h, l, plan, customer)
	if e != api.OK {
		t.Error("View", h, l, plan, customer, e)
	}
	text := ""
	for _, x := range seen {
		text += "fopc"[x : x+1]
	}
	return text
}

// isShown checks what a customer sees.
func isShown(t *testing.T, what string, h api.Hall, l []api.Campaign, plan []int, customer int, want string) {
	t.Helper()
	is(t, what, shown(t, h, l, plan, customer), api.OK, want)
}

// P10.9: the document's example 3.
func TestExampleOfView(t *testing.T) {
	h, l := example()
	isShown(t, "customer 0", h, l, []int{3, 1}, 0, "ccpoof")
	isShown(t, "customer 1", h, l, []int{3, 1}, 1, "pocccc")
}

// P10.9
func TestViewOfFew(t *testing.T) {
	h := open(20)
	l := []api.Campaign{{Customer: 3, Prepare: 4, Hours: 2, Late: 20}, {Customer: 5, Prepare: 4, Hours: 3, Late: 20}, {Customer: 3, Prepare: 1, Hours: 1, Late: 20}}
	plan := []int{10, 4, 13}
	isShown(t, "no hours to sweep", h, l, plan, 3, "ffffccppppoopoffffff")
	isShown(t, "no hours to sweep", h, l, plan, 5, "ppppooofffccfcffffff")
	isShown(t, "neither", h, l, plan, 20, "ffffcccfffccfcffffff")
	h.Clean = 3
	isShown(t, "the own preparation where others sweep", h, l, plan, 3, "fcccccppppoopoffffff")
	isShown(t, "the own run at the edge", h, l, plan, 5, "ppppoooccccccccccfff")
	isShown(t, "neither", h, l, plan, 0, "fccccccccccccccccfff")
	h.Staff[0], h.Staff[8], h.Staff[19] = 0, 0, 0
	isShown(t, "nobody in an own preparation", h, l, plan, 3, "ccccccppppoopofffffc")
	isShown(t, "nobody", h, l, plan, 0, "cccccccccccccccccffc")
	isShown(t, "nobody, no campaigns", h, nil, nil, 0, "cfffffffcffffffffffc")
	isShown(t, "to the ends of the hall", open(3), l[:0], nil, 0, "fff")
}

// P10.9: the hours to sweep end with the hall.
func TestViewAtEnds(t *testing.T) {
	h := open(5)
	h.Clean = 6
	l := []api.Campaign{{Customer: 1, Hours: 1, Late: 5}}
	for first := range 5 {
		isShown(t, "another one", h, l, []int{first}, 0, "ccccc")
		isShown(t, "the own one", h, l, []int{first}, 1, "fffff"[:first]+"o"+"fffff"[first+1:])
	}
}

// P10.9: what is wrong with the plan comes before the customer.
func TestErrorsOfView(t *testing.T) {
	h, l := example()
	for _, customer := range []int{-1, 21, math.MinInt, math.MaxInt} {
		seen, e := hall.View(h, l, []int{3, 1}, customer)
		isError(t, "no customer", e, api.ErrRange, seen)
		seen, e = hall.View(h, l, []int{1, 1}, customer)
		isError(t, "no customer, against the rules", e, api.ErrAgainst, seen)
	}
	seen, e := hall.View(h, l, []int{1, 1}, 0)
	isError(t, "against the rules", e, api.ErrAgainst, seen)
	isShown(t, "customer 20", h, l, []int{3, 1}, 20, "cccccc")
}

// seenAt returns what a customer sees of an hour, told by lists of hours.
func seenAt(h api.Hall, l []api.Campaign, plan []int, customer, hour int) string {
	own, prepare, closed := false, false, h.Staff[hour] == 0
	for i, c := range l {
		near := distance(runHours(c, plan[i]), []int{hour})
		if c.Customer != customer {
			closed = closed || near <= h.Clean
			continue
		}
		own = own || near == 0
		prepare = prepare || distance(prepareHours(c, plan[i]), []int{hour}) == 0
	}
	switch {
	case own:
		return "o"
	case prepare:
		return "p"
	case closed:
		return "c"
	}
	return "f"
}

// P10.9
func TestView(t *testing.T) {
	for r := range cases(2000) {
		h, l, plan := anyKept(r, 20, 6)
		for customer := range 4 {
			want := ""
			for hour := range h.Staff {
				want += seenAt(h, l, plan, customer, hour)
			}
			isShown(t, "random", h, l, plan, customer, want)
		}
	}
}

// disguise changes all about other customers' campaigns but the hours of their runs, and returns the new campaigns and their plan.
func disguise(r *rand.Rand, l []api.Campaign, plan []int, customer int) ([]api.Campaign, []int) {
	var other []api.Campaign
	var places []int
	for i, c := range l {
		first := plan[i]
		if c.Customer == customer {
			other, places = append(other, c), append(places, first)
			continue
		}
		c.Energy, c.Weight = r.IntN(c.Energy+1), r.IntN(101)
		c.Prepare = r.IntN(min(first, api.MaxTime) + 1)
		c.Early = r.IntN(first - c.Prepare + 1)
		c.Late = first + c.Hours + r.IntN(c.Late-first-c.Hours+1)
		if r.IntN(3) == 0 && c.Hours > 1 {
			part := c
			part.Hours = 1 + r.IntN(c.Hours-1)
			other, places = append(other, part), append(places, first)
			c.Prepare, c.Hours, first = 0, c.Hours-part.Hours, first+part.Hours
		}
		other, places = append(other, c), append(places, first)
	}
	return other, places
}

// rename gives other numbers to all customers but one.
func rename(r *rand.Rand, l []api.Campaign, customer int) []api.Campaign {
	l = slices.Clone(l)
	names := r.Perm(api.MaxCustomer + 1)
	names = slices.DeleteFunc(names, func(x int) bool { return x == customer })
	one := r.IntN(2) == 0
	for i := range l {
		if l[i].Customer == customer {
			continue
		}
		l[i].Customer = names[l[i].Customer]
		if one {
			l[i].Customer = names[0]
		}
	}
	return l
}

// P10.13
func TestSecrecy(t *testing.T) {
	changed := 0
	for r := range cases(4000) {
		h, l, plan := anyKept(r, 24, 6)
		for i := range l {
			longer := slices.Clone(l)
			longer[i].Hours, longer[i].Late = 1+r.IntN(8), len(h.Staff)
			if broken(h, longer, plan).Rule == 0 {
				l = longer
			}
		}
		customer := r.IntN(4)
		before := shown(t, h, l, plan, customer)
		other, places := disguise(r, l, plan, customer)
		other = rename(r, other, customer)
		if len(other) > api.MaxCampaigns || broken(h, other, places).Rule != 0 {
			continue
		}
		if len(other) > len(l) {
			changed++
		}
		isShown(t, "random", h, other, places, customer, before)
	}
	if changed < 200 {
		t.Error("too few runs in the place of two", changed)
	}
}
