package probe_test

import (
	"math/rand/v2"
	"testing"

	"venturi/api"
	"venturi/exact"
	"venturi/probe"
)

// P4.1
func TestCheckPort(t *testing.T) {
	for what, p := range map[string]probe.Port{
		"example":      port("0"),
		"with error":   port("100"),
		"gain 1":       {Gain: only("1")},
		"gain up to 1": {Gain: span("1/1000", "1"), Error: num("1/9")},
	} {
		isError(t, what, probe.CheckPort(p), api.OK)
	}
	for what, p := range wrongPorts() {
		isError(t, what, probe.CheckPort(p), api.ErrArg)
	}
}

// P4.2
func TestFollow(t *testing.T) {
	full := func(tap string, n int) []exact.Box {
		var l []exact.Box
		for range n {
			l = append(l, only(tap))
		}
		return l
	}
	for _, c := range []struct {
		what      string
		p         probe.Port
		start     exact.Box
		pressures []exact.Box
		want      [][2]string
	}{
		{"example 1", port("0"), only("0"), full("8", 2), [][2]string{{"4", "6"}, {"6", "7.5"}}},
		{"the error plays no part", port("5"), only("0"), full("8", 2), [][2]string{{"4", "6"}, {"6", "7.5"}}},
		{"no pressure", port("0"), only("3"), nil, nil},
		{"the tube falls", port("0"), only("8"), full("0", 1), [][2]string{{"2", "4"}}},
		{"it stays", port("0"), only("1/3"), full("1/3", 2), [][2]string{{"1/3", "1/3"}, {"1/3", "1/3"}}},
		{"boxes", port("0"), span("-1", "1"), []exact.Box{span("-4", "2")}, [][2]string{{"-3.25", "1.75"}}},
		{"no lag", probe.Port{Gain: only("1")}, span("-9", "9"), []exact.Box{span("2", "3"), only("7")}, [][2]string{{"2", "3"}, {"7", "7"}}},
		{"a pressure that changes", port("0"), only("0"), []exact.Box{only("8"), only("0")}, [][2]string{{"4", "6"}, {"1", "3"}}},
	} {
		l, e := probe.Follow(c.p, c.start, c.pressures)
		if len(l) != len(c.want) {
			t.Errorf("%s: %v", c.what, l)
			continue
		}
		for i, w := range c.want {
			isBox(t, c.what, l[i], e, w[0], w[1])
		}
	}
	l, e := probe.Follow(port("0"), only("1"), full("0", api.MaxRecord))
	if e != api.OK || len(l) != api.MaxRecord || !l[api.MaxRecord-1].Equal(span("1/"+power2(2*api.MaxRecord), "1/"+power2(api.MaxRecord))) {
		t.Error("the longest one", len(l), e)
	}
	l, e = probe.Follow(port("0"), only("0"), full("8", api.MaxRecord+1))
	isError(t, "too long", e, api.ErrLong, l)
	for what, p := range wrongPorts() {
		l, e := probe.Follow(p, only("0"), full("8", api.MaxRecord+1))
		isError(t, what, e, api.ErrArg, l)
	}
}

// P4.2: the box of a step has all numbers that the rule gives, and its ends are two of them.
func TestFollowIsLeast(t *testing.T) {
	random := rand.New(rand.NewPCG(4, 2))
	for range 500 {
		p, start := anyPort(random), anyBox(random)
		taps := []exact.Box{anyBox(random), anyBox(random)}
		l, e := probe.Follow(p, start, taps)
		if e != api.OK || len(l) != 2 {
			t.Fatal(p, start, taps, l, e)
		}
		before := start
		for i, tap := range taps {
			var found []exact.Num
			for _, y := range ends(before) {
				for _, x := range ends(tap) {
					for _, g := range ends(p.Gain) {
						found = append(found, y.Add(g.Mul(x.Sub(y))))
					}
				}
			}
			for range 5 {
				y := within(random, before)
				found = append(found, y.Add(within(random, p.Gain).Mul(within(random, tap).Sub(y))))
			}
			if want := hull(found...); !want.Equal(l[i]) {
				t.Fatalf("%v from %v with %v: %v instead of %v", p, before, tap, l[i], want)
			}
			before = l[i]
		}
	}
}

// P4.3
func TestSettled(t *testing.T) {
	slow := probe.Port{Gain: span("1/100", "1"), Error: num("3")}
	for _, c := range []struct {
		what              string
		p                 probe.Port
		spread, tolerance string
		want              int
	}{
		{"example 1", port("0"), "8", "1", 3},
		{"the error plays no part", port("9"), "8", "1", 3},
		{"just above", port("0"), "8", "1.01", 3},
		{"just below", port("0"), "8", "0.99", 4},
		{"at once", port("0"), "8", "8", 0},
		{"no spread", port("0"), "0", "0", 0},
		{"no tolerance, but no lag", probe.Port{Gain: only("1")}, "8", "0", 1},
		{"the slowest gain counts", slow, "1", "0.99", 1},
		{"two slow steps", slow, "1", "0.9801", 2},
		{"nearly the longest", port("0"), "1", "1/" + power2(api.MaxSettle-1), api.MaxSettle - 1},
		{"the longest", port("0"), "1", "1/" + power2(api.MaxSettle), api.MaxSettle},
	} {
		k, e := probe.Settled(c.p, num(c.spread), num(c.tolerance))
		is(t, c.what, k, e, c.want)
	}
	for _, c := range []struct {
		what              string
		p                 probe.Port
		spread, tolerance string
		want              api.Errno
	}{
		{"one step too many", port("0"), "1", "1/" + power2(api.MaxSettle+1), api.ErrNever},
		{"no tolerance", port("0"), "1/9", "0", api.ErrNever},
		{"spread below 0", port("0"), "-1/9", "1", api.ErrRange},
		{"tolerance below 0", port("0"), "0", "-1/9", api.ErrRange},
		{"a tolerance that is never reached either", port("0"), "1", "-1", api.ErrRange},
	} {
		k, e := probe.Settled(c.p, num(c.spread), num(c.tolerance))
		isError(t, c.what, e, c.want, k)
	}
	for what, p := range wrongPorts() {
		k, e := probe.Settled(p, num("-1"), num("-1"))
		isError(t, what, e, api.ErrArg, k)
	}
}

// power2 returns the text of the power n of 2.
func power2(n int) string {
	x := whole(1)
	for range n {
		x = x.Add(x)
	}
	return x.String()
}

// P4.3: the number is the least one.
func TestSettledIsLeast(t *testing.T) {
	random := rand.New(rand.NewPCG(4, 3))
	for range 300 {
		p := anyPort(random)
		spread, tolerance := anyNum(random).Abs(), anyNum(random).Abs().Add(num("1/50"))
		k, e := probe.Settled(p, spread, tolerance)
		left, n := spread, 0
		for left.Cmp(tolerance) > 0 {
			left, n = left.Sub(left.Mul(p.Gain.Lo())), n+1
		}
		if e != api.OK || k != n {
			t.Fatalf("%v from %v to %v: %d instead of %d, error %d", p, spread, tolerance, k, n, e)
		}
	}
}
