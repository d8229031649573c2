package probe_test

import (
	"math/rand/v2"
	"testing"

	"venturi/api"
	"venturi/exact"
	"venturi/probe"
)

// long returns a record of so many equal readings.
func long(reading string, n int) []exact.Num {
	var l []exact.Num
	for range n {
		l = append(l, num(reading))
	}
	return l
}

// P4.4
func TestAgrees(t *testing.T) {
	for _, c := range []struct {
		what   string
		p      probe.Port
		record []exact.Num
		x      string
		want   bool
	}{
		{"example 2", port("0"), nums("4", "6"), "8", true},
		{"example 2", port("0"), nums("4", "6"), "7", true},
		{"example 2", port("0"), nums("4", "6"), "9", false},
		{"the other end", port("0"), nums("4", "6"), "20/3", true},
		{"below it", port("0"), nums("4", "6"), "6.6", false},
		{"no reading", port("0"), nil, "5", true},
		{"an empty record", port("0"), []exact.Num{}, "5", true},
		{"one reading", port("0"), nums("77"), "5", true},
		{"it stays, though it must not", port("0"), nums("4", "4"), "8", false},
		{"it stays there", port("0"), nums("4", "4", "4"), "4", true},
		{"it stays, which the error explains", port("1"), nums("4", "4"), "4.5", true},
		{"another gain in each step", port("0"), nums("0", "4", "7"), "8", true},
		{"a gain too low", port("0"), nums("0", "3.9"), "8", false},
		{"a gain too high", port("0"), nums("0", "6.1"), "8", false},
		{"a gain too high, or a wrong reading", port("0.1"), nums("0", "6.1"), "8", true},
		{"two readings of three", port("1"), nums("4", "3"), "0", true},
		{"the other two", port("1"), nums("3", "2.4"), "0", true},
		{"all three: 5 at most, 2.5 at most, 1.25 at most", port("1"), nums("4", "3", "2.4"), "0", false},
		{"no lag", probe.Port{Gain: only("1")}, nums("4", "8", "8"), "8", true},
		{"no lag, but another reading", probe.Port{Gain: only("1")}, nums("4", "8", "7"), "8", false},
	} {
		ok, e := probe.Agrees(c.p, c.record, num(c.x))
		is(t, c.what, ok, e, c.want)
	}
	ok, e := probe.Agrees(port("0"), long("5", api.MaxRecord), num("5"))
	is(t, "the longest record", ok, e, true)
	ok, e = probe.Agrees(port("0"), long("5", api.MaxRecord+1), num("5"))
	isError(t, "too long", e, api.ErrLong, ok)
	for what, p := range wrongPorts() {
		ok, e := probe.Agrees(p, long("5", api.MaxRecord+1), num("5"))
		isError(t, what, e, api.ErrArg, ok)
	}
}

// above reports whether a tube that is never below x can be the cause of a record. Each step leaves a part of its difference from x, so that some steps leave a product of parts: the readings must fit two by two, and then they fit all together.
func above(p probe.Port, record []exact.Num, x exact.Num) bool {
	least, most := whole(1).Sub(p.Gain.Hi()), whole(1).Sub(p.Gain.Lo())
	for i, reading := range record {
		lo, hi := reading.Sub(p.Error).Sub(x), reading.Add(p.Error).Sub(x)
		if lo.Sign() < 0 {
			lo = exact.Num{}
		}
		if hi.Sign() < 0 {
			return false
		}
		for _, later := range record[i+1:] {
			lo, hi = lo.Mul(least), hi.Mul(most)
			if lo.Cmp(later.Add(p.Error).Sub(x)) > 0 || hi.Cmp(later.Sub(p.Error).Sub(x)) < 0 {
				return false
			}
		}
	}
	return true
}

// negative returns a record with the other sign.
func negative(record []exact.Num) []exact.Num {
	var l []exact.Num
	for _, x := range record {
		l = append(l, x.Neg())
	}
	return l
}

// P4.4
func TestAgreesByPairs(t *testing.T) {
	random := rand.New(rand.NewPCG(4, 4))
	agreed := map[bool]int{}
	for range 3000 {
		p := anyPort(random)
		record, x := anyRecord(random, p)
		record = spoilt(random, record)
		if random.IntN(4) == 0 {
			x = x.Add(anyOf(random, nums("1/7", "-1/5", "1", "-3")...))
		}
		want := above(p, record, x) || above(p, negative(record), x.Neg())
		if ok, e := probe.Agrees(p, record, x); e != api.OK || ok != want {
			t.Fatalf("%v %v of %v: %t instead of %t, error %d", p, record, x, ok, want, e)
		}
		if len(record) > 2 {
			agreed[want]++
		}
	}
	if agreed[true] < 300 || agreed[false] < 300 {
		t.Error("too few records of a kind", agreed)
	}
}

// P4.5
func TestPressure(t *testing.T) {
	for _, c := range []struct {
		what   string
		p      probe.Port
		record []exact.Num
		lo, hi string
	}{
		{"example 2", port("0"), nums("4", "6"), "20/3", "8"},
		{"with an error", port("1"), nums("4", "6"), "5", "11"},
		{"it falls", port("0"), nums("6", "4"), "2", "10/3"},
		{"it stays", port("0"), nums("6", "6", "6"), "6", "6"},
		{"it stays, with an error", port("1"), nums("6", "6"), "3", "9"},
		{"two pairs", port("0"), nums("4", "6", "7"), "22/3", "8"},
		{"one number", port("0"), nums("4", "6", "6.5", "6.875"), "7", "7"},
		{"no lag", probe.Port{Gain: only("1"), Error: num("1/2")}, nums("4", "6", "6.5"), "6", "6.5"},
		{"a pair box may have what the tube can not do", port("1"), nums("4", "3", "2.4"), "-1", "4.8"},
	} {
		b, e := probe.Pressure(c.p, c.record)
		isBox(t, c.what, b, e, c.lo, c.hi)
	}
	b, e := probe.Pressure(port("0"), long("5", api.MaxRecord))
	isBox(t, "the longest record", b, e, "5", "5")
	for _, c := range []struct {
		what   string
		record []exact.Num
		want   api.Errno
	}{
		{"no reading", nil, api.ErrNone},
		{"one reading", nums("4"), api.ErrNone},
		{"it goes back", nums("4", "6", "5"), api.ErrMoved},
		{"it goes on", nums("4", "6", "8.1"), api.ErrMoved},
		{"the last one moved", append(long("5", api.MaxRecord-1), num("6")), api.ErrMoved},
		{"too long, and it moved", append(long("5", api.MaxRecord), num("6")), api.ErrLong},
	} {
		b, e := probe.Pressure(port("0"), c.record)
		isError(t, c.what, e, c.want, b)
	}
	for what, p := range wrongPorts() {
		for _, n := range []int{0, 2, api.MaxRecord + 1} {
			b, e := probe.Pressure(p, long("5", n))
			isError(t, what, e, api.ErrArg, b)
		}
	}
}

// P4.5: the result is the box of what all least boxes of the pairs' numbers have.
func TestPressureByPairs(t *testing.T) {
	random := rand.New(rand.NewPCG(4, 5))
	moved := 0
	for range 1000 {
		p := anyPort(random)
		record, _ := anyRecord(random, p)
		record = spoilt(random, record)
		if len(record) < 2 {
			continue
		}
		all := span("-1000000", "1000000")
		ok := true
		for i, b := range record[1:] {
			var found []exact.Num
			cause := func(u, v, g exact.Num) { found = append(found, u.Add(quotient(v.Sub(u), g))) }
			us, vs := between(record[i].Sub(p.Error), record[i].Add(p.Error)), between(b.Sub(p.Error), b.Add(p.Error))
			for _, u := range ends(us) {
				for _, v := range ends(vs) {
					for _, g := range ends(p.Gain) {
						cause(u, v, g)
						cause(within(random, us), within(random, vs), within(random, p.Gain))
					}
				}
			}
			both, has := all.Meet(hull(found...))
			all, ok = both, ok && has
		}
		b, e := probe.Pressure(p, record)
		if ok && (e != api.OK || !b.Equal(all)) || !ok && e != api.ErrMoved {
			t.Fatalf("%v %v: %v, error %d, instead of %v", p, record, b, e, all)
		}
		if !ok {
			moved++
		}
	}
	if moved < 100 || moved > 900 {
		t.Error("too few records of a kind", moved)
	}
}

// P4.6
func TestStill(t *testing.T) {
	few := probe.Port{Gain: span("1/3", "1"), Error: num("1/4")}
	for _, c := range []struct {
		what      string
		p         probe.Port
		record    []exact.Num
		tolerance string
		want      int
	}{
		{"example 2", port("0"), nums("4", "6"), "2", 1},
		{"the second one", port("0"), nums("4", "6", "7"), "1", 2},
		{"just below", port("0"), nums("4", "6", "7"), "1.99", 2},
		{"it falls", port("0"), nums("6", "4"), "2", 1},
		{"the first one of several", port("0"), nums("9", "4", "3", "3", "9", "9"), "1", 2},
		{"no tolerance, and it stays", port("0"), nums("4", "5", "5"), "0", 2},
		{"no lag", probe.Port{Gain: only("1"), Error: num("3")}, nums("4", "50"), "3", 1},
		{"an error counts halved before and once after", few, nums("4", "5"), "3.25", 1},
	} {
		k, e := probe.Still(c.p, c.record, num(c.tolerance))
		is(t, c.what, k, e, c.want)
	}
	var apart []exact.Num
	for n := range api.MaxRecord {
		apart = append(apart, whole(2*n))
	}
	apart[api.MaxRecord-1] = apart[api.MaxRecord-2].Add(num("1"))
	k, e := probe.Still(port("0"), apart, num("1"))
	is(t, "the last one of the longest record", k, e, api.MaxRecord-1)
	for _, c := range []struct {
		what      string
		p         probe.Port
		record    []exact.Num
		tolerance string
		want      api.Errno
	}{
		{"none is near", port("0"), nums("4", "6", "7"), "0.99", api.ErrNever},
		{"just too far", few, nums("4", "5"), "3.24", api.ErrNever},
		{"the first reading has none before it", port("0"), nums("4"), "100", api.ErrNever},
		{"no reading", port("0"), nil, "100", api.ErrNever},
		{"an error that is greater", port("1"), nums("4", "4"), "0.9", api.ErrNever},
		{"tolerance below 0", port("0"), nums("4", "4"), "-1/9", api.ErrRange},
		{"tolerance below 0, no reading", port("0"), nil, "-1", api.ErrRange},
		{"too long", port("0"), long("5", api.MaxRecord+1), "-1", api.ErrLong},
	} {
		k, e := probe.Still(c.p, c.record, num(c.tolerance))
		isError(t, c.what, e, c.want, k)
	}
	for what, p := range wrongPorts() {
		k, e := probe.Still(p, long("5", api.MaxRecord+1), num("-1"))
		isError(t, what, e, api.ErrArg, k)
	}
}

// P4.7
func TestTight(t *testing.T) {
	record := nums("16", "12", "9")
	halved := append(long("1", 1), long("0", api.MaxRecord-2)...)
	halved = append(halved, num("1/"+power2(api.MaxRecord-1)))
	for _, c := range []struct {
		what           string
		p              probe.Port
		record         []exact.Num
		ambient, limit string
		want           api.Ruling
	}{
		{"example 3", port("0"), record, "0", "1/4", api.Yes},
		{"example 3", port("0"), record, "0", "1/5", api.No},
		{"example 3", port("1"), record, "0", "1/4", api.Unsure},
		{"example 3", port("1"), record, "0", "1/5", api.Unsure},
		{"just no more", port("0"), record, "0", "0.2499", api.No},
		{"no leak is allowed", port("0"), record, "0", "0", api.No},
		{"no leak", port("0"), nums("16", "16"), "0", "0", api.Yes},
		{"no leak, but an error", port("1"), nums("16", "16"), "0", "0", api.Unsure},
		{"another ambient pressure", port("0"), nums("17", "13", "10"), "1", "1/4", api.Yes},
		{"a pressure below the ambient one", port("0"), nums("-16", "-12", "-9"), "0", "1/4", api.Yes},
		{"below, and the air comes in", port("0"), nums("-16", "-12", "-9"), "0", "1/5", api.No},
		{"below, with an error", port("1"), nums("-16", "-12", "-9"), "0", "1/4", api.Unsure},
		{"an error, and surely tight", port("1"), nums("16", "15"), "0", "1/2", api.Yes},
		{"an error, and surely not tight", port("1"), nums("16", "4"), "0", "1/2", api.No},
		{"what is between plays no part", port("0"), nums("16", "1000", "9"), "0", "1/4", api.Yes},
		{"through the ambient pressure", port("0"), nums("16", "-1"), "0", "9/10", api.No},
		{"nothing is left", port("0"), nums("16", "0"), "0", "99/100", api.No},
		{"the gain plays no part", probe.Port{Gain: only("1")}, record, "0", "1/4", api.Yes},
		{"Lo of R is f with an error", port("1"), nums("3", "3"), "0", "1/2", api.Yes},
		{"Lo of R is just below f", port("1"), nums("3", "3"), "0", "0.4999", api.Unsure},
		{"Hi of R is f with an error", port("1"), nums("5", "1"), "0", "1/2", api.Unsure},
		{"Hi of R is just below f", port("1"), nums("5", "1"), "0", "0.4999", api.No},
		{"the longest record", port("0"), halved, "0", "1/2", api.Yes},
		{"the longest record, just not", port("0"), halved, "0", "0.4999", api.No},
	} {
		a, e := probe.Tight(c.p, c.record, num(c.ambient), num(c.limit))
		is(t, c.what, a, e, c.want)
	}
}

// P4.7
func TestTightErrors(t *testing.T) {
	record := nums("16", "12", "9")
	for _, c := range []struct {
		what           string
		p              probe.Port
		record         []exact.Num
		ambient, limit string
		want           api.Errno
	}{
		{"the ambient pressure at first", port("0"), record, "16", "1/4", api.ErrClose},
		{"near the ambient pressure", port("1"), record, "15", "1/4", api.ErrClose},
		{"near it from below", port("1"), record, "17", "1/4", api.ErrClose},
		{"limit below 0", port("0"), record, "0", "-1/9", api.ErrRange},
		{"limit 1", port("0"), record, "0", "1", api.ErrRange},
		{"limit above 1", port("0"), record, "0", "2", api.ErrRange},
		{"limit 1, near the ambient pressure", port("0"), record, "16", "1", api.ErrRange},
		{"one reading, limit 1", port("0"), nums("16"), "16", "1", api.ErrNone},
		{"no reading", port("0"), nil, "0", "0", api.ErrNone},
		{"too long, limit 1", port("0"), long("16", api.MaxRecord+1), "16", "1", api.ErrLong},
	} {
		a, e := probe.Tight(c.p, c.record, num(c.ambient), num(c.limit))
		isError(t, c.what, e, c.want, a)
	}
	for what, p := range wrongPorts() {
		for _, n := range []int{0, 2, api.MaxRecord + 1} {
			a, e := probe.Tight(p, long("16", n), num("16"), num("1"))
			isError(t, what, e, api.ErrArg, a)
		}
	}
}
