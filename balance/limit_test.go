package balance_test

import (
	"math/rand/v2"
	"slices"
	"testing"

	"venturi/api"
	"venturi/balance"
	"venturi/exact"
)

// limit returns the limit of a row.
func limit(most string, row ...string) balance.Limit {
	return balance.Limit{Row: nums(row...), Most: num(most)}
}

// corner returns the limits x + y <= 10 and -x <= 0.
func corner() []balance.Limit {
	return []balance.Limit{limit("10", "1", "1"), limit("0", "-1", "0")}
}

// never returns the limit that no loads keep, for n loads.
func never(n int) balance.Limit {
	return balance.Limit{Row: make([]exact.Num, n), Most: num("-1")}
}

// wrongLimits returns limits that are not valid for two loads.
func wrongLimits() map[string][]balance.Limit {
	return map[string][]balance.Limit{
		"61 limits":      slices.Repeat(corner()[:1], 61),
		"no row":         {{}},
		"a short row":    {limit("1", "1")},
		"a long row":     {limit("1", "1", "2", "3")},
		"the last limit": append(corner(), limit("1", "1")),
	}
}

// P5.8
func TestAllowed(t *testing.T) {
	for _, c := range []struct {
		x, y exact.Box
		want int
	}{
		{span("0", "4"), span("2", "6"), -1},
		{span("0", "5"), span("2", "6"), 0},
		{span("0", "4.001"), span("2", "6"), 0},
		{span("-1", "4"), span("2", "6"), 1},
		{span("-0.001", "4"), span("2", "6"), 1},
		{span("-1", "5"), span("2", "6"), 0},
		{span("0", "0"), span("-99", "10"), -1},
		{only("11"), only("-1"), -1},
	} {
		n, e := balance.Allowed(corner(), []exact.Box{c.x, c.y})
		is(t, "Allowed", n, e, c.want)
	}
	n, e := balance.Allowed(slices.Repeat(corner()[:1], 60), boxes(2, span("0", "5")))
	is(t, "60 limits", n, e, -1)
	n, e = balance.Allowed(append(slices.Repeat(corner()[:1], 59), never(2)), boxes(2, span("0", "5")))
	is(t, "the last one of 60", n, e, 59)
	for _, l := range [][]balance.Limit{nil, {}} {
		n, e = balance.Allowed(l, boxes(6, span("0", "5")))
		is(t, "no limits", n, e, -1)
		n, e = balance.Allowed(l, nil)
		is(t, "no limits and loads", n, e, -1)
	}
	n, e = balance.Allowed([]balance.Limit{limit("0"), limit("-0.1"), limit("1")}, nil)
	is(t, "no loads", n, e, 1)
}

// P5.8
func TestSweep(t *testing.T) {
	for _, c := range []struct {
		from, to []exact.Num
		want     int
	}{
		{nums("0", "0"), nums("5", "5"), -1},
		{nums("0", "0"), nums("-1", "5"), 1},
		{nums("-1", "5"), nums("0", "0"), 1},
		{nums("0", "0"), nums("5", "5.001"), 0},
		{nums("5", "5.001"), nums("0", "0"), 0},
		{nums("0", "11"), nums("-1", "0"), 0},
		{nums("-1", "0"), nums("0", "11"), 0},
		{nums("3", "4"), nums("3", "4"), -1},
	} {
		n, e := balance.Sweep(corner(), c.from, c.to)
		is(t, "Sweep", n, e, c.want)
	}
	n, e := balance.Sweep(nil, nums("0", "0"), nums("5", "5"))
	is(t, "no limits", n, e, -1)
	n, e = balance.Sweep([]balance.Limit{limit("0"), limit("-0.1")}, nil, nil)
	is(t, "no loads", n, e, 1)
}

// P5.8
func TestRoom(t *testing.T) {
	for _, c := range []struct {
		what             string
		limits           []balance.Limit
		loads, direction []exact.Num
		want             string
		some             bool
	}{
		{"the example", corner(), nums("2", "3"), nums("1", "1"), "2.5", true},
		{"along a limit", corner(), nums("2", "3"), nums("1", "-1"), "0", false},
		{"the other limit", corner(), nums("2", "3"), nums("-4", "0"), "0.5", true},
		{"away from both", corner(), nums("2", "3"), nums("0", "-1"), "0", false},
		{"no direction", corner(), nums("2", "3"), nums("0", "0"), "0", false},
		{"at the limit", corner(), nums("5", "5"), nums("1", "0"), "0", true},
		{"away from the limit", corner(), nums("5", "5"), nums("-1", "0"), "5", true},
		{"the nearer one first", []balance.Limit{limit("6", "0", "1"), corner()[0]}, nums("2", "3"), nums("1/3", "1"), "3", true},
		{"the nearer one last", []balance.Limit{corner()[0], limit("6", "0", "1")}, nums("2", "3"), nums("1/3", "1"), "3", true},
		{"no limits", nil, nums("2", "3"), nums("1", "1"), "0", false},
		{"no loads", []balance.Limit{limit("0")}, nil, nil, "0", false},
		{"a third", []balance.Limit{limit("1", "3")}, nums("0"), nums("1"), "1/3", true},
	} {
		f, some, e := balance.Room(c.limits, c.loads, c.direction)
		isNum(t, c.what, f, e, c.want)
		is(t, c.what, some, e, c.some)
	}
}

// P5.8
func TestLimitErrors(t *testing.T) {
	for what, l := range wrongLimits() {
		n, e := balance.Allowed(append(l, never(2)), boxes(2, only("99")))
		isError(t, "Allowed with "+what, e, api.ErrArg, n)
		n, e = balance.Sweep(l, nums("99", "99"), nums("99", "99"))
		isError(t, "Sweep with "+what, e, api.ErrArg, n)
		f, some, e := balance.Room(l, nums("99", "99"), nums("99", "99"))
		isError(t, "Room with "+what, e, api.ErrArg, f, some)
	}
	seven := make([]exact.Num, 7)
	for _, l := range [][]balance.Limit{nil, {never(7)}} {
		n, e := balance.Allowed(l, boxes(7, only("0")))
		isError(t, "Allowed of seven loads", e, api.ErrArg, n)
		n, e = balance.Sweep(l, seven, seven)
		isError(t, "Sweep of seven loads", e, api.ErrArg, n)
		f, some, e := balance.Room(l, seven, seven)
		isError(t, "Room of seven loads", e, api.ErrArg, f, some)
	}
	for _, other := range [][]exact.Num{nil, nums("1"), nums("1", "2", "3"), seven} {
		for _, l := range [][]balance.Limit{nil, corner(), {never(2)}} {
			n, e := balance.Sweep(l, nums("1", "2"), other)
			isError(t, "Sweep to another length", e, api.ErrArg, n)
			f, some, e := balance.Room(l, nums("1", "2"), other)
			isError(t, "Room in a direction of another length", e, api.ErrArg, f, some)
		}
	}
	for _, loads := range [][]exact.Num{nums("20", "3"), nums("5", "5.001"), nums("-1", "0")} {
		for _, direction := range [][]exact.Num{nums("0", "0"), nums("1", "-1"), nums("-1", "-1"), nums("1", "1")} {
			f, some, e := balance.Room(corner(), loads, direction)
			isError(t, "loads that are over", e, api.ErrOver, f, some)
		}
	}
	f, some, e := balance.Room([]balance.Limit{limit("-1")}, nil, nil)
	isError(t, "no loads, but over", e, api.ErrOver, f, some)
	for _, l := range [][]exact.Box{nil, boxes(1, only("1")), boxes(3, only("1"))} {
		n, e := balance.Allowed(corner(), l)
		isError(t, "other loads", e, api.ErrArg, n)
	}
}

// firstBroken returns the first limit that some of the lists of loads do not keep, or -1.
func firstBroken(limits []balance.Limit, lists ...[]exact.Num) int {
	return slices.IndexFunc(limits, func(l balance.Limit) bool {
		return slices.ContainsFunc(lists, func(loads []exact.Num) bool { return sum(l.Row, loads).Cmp(l.Most) > 0 })
	})
}

// corners returns all lists of ends of boxes.
func corners(l []exact.Box) [][]exact.Num {
	if len(l) == 0 {
		return [][]exact.Num{nil}
	}
	var out [][]exact.Num
	for _, rest := range corners(l[1:]) {
		for _, x := range [2]exact.Num{l[0].Lo(), l[0].Hi()} {
			out = append(out, slices.Concat([]exact.Num{x}, rest))
		}
	}
	return out
}

// anyLimits returns up to four limits for n loads.
func anyLimits(r *rand.Rand, n int) []balance.Limit {
	var l []balance.Limit
	for range r.IntN(5) {
		l = append(l, balance.Limit{Row: anyNums(r, n), Most: anyNum(r).Abs().Mul(whole(r.IntN(9)))})
	}
	return l
}

// P5.8, P5.13
func TestLimitsHold(t *testing.T) {
	r := rand.New(rand.NewPCG(5, 8))
	counts := map[string]int{}
	for range 500 {
		n := r.IntN(5)
		limits, within := anyLimits(r, n), anyBoxes(r, n)
		allowed, e := balance.Allowed(limits, within)
		is(t, "Allowed by corners", allowed, e, firstBroken(limits, corners(within)...))
		from, to := inAll(r, within), inAll(r, within)
		step := plus(to, num("-1"), from)
		swept, e := balance.Sweep(limits, from, to)
		is(t, "Sweep by steps", swept, e, firstBroken(limits, from, plus(from, num("1/4"), step), plus(from, num("1/2"), step), to))
		if len(limits) > 0 && allowed == -1 {
			counts["allowed"]++
			is(t, "Sweep where all is allowed", swept, e, -1)
		}
		f, some, e := balance.Room(limits, from, step)
		switch {
		case firstBroken(limits, from) >= 0:
			counts["over"]++
			isError(t, "Room", e, api.ErrOver, f, some)
		case some:
			counts["some"]++
			is(t, "limits that the room does not keep", firstBroken(limits, plus(from, f, step)), e, -1)
			if f.Sign() < 0 || firstBroken(limits, plus(from, f.Add(num("1/1000000")), step)) == -1 {
				t.Fatalf("Room of %v at %v to %v: %v", limits, from, to, f)
			}
		default:
			counts["none"]++
			is(t, "limits far away", firstBroken(limits, plus(from, num("1000000"), step)), e, -1)
		}
	}
	if counts["allowed"] < 50 || counts["over"] < 50 || counts["some"] < 50 || counts["none"] < 50 {
		t.Error("not all cases have come:", counts)
	}
}
