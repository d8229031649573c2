package probe_test

import (
	"math/rand/v2"
	"testing"

	"venturi/api"
	"venturi/exact"
	"venturi/probe"
)

// P4.8
func TestCheckTable(t *testing.T) {
	for what, l := range map[string][]probe.Knot{
		"example":      waves(),
		"two knots":    rising(2),
		"longest":      rising(api.MaxTable),
		"equal values": table([2]string{"-1", "3"}, [2]string{"-1/2", "3"}),
	} {
		isError(t, what, probe.CheckTable(l), api.OK)
	}
	for what, l := range wrongTables() {
		isError(t, what, probe.CheckTable(l), api.ErrArg)
	}
}

// P4.8
func TestLook(t *testing.T) {
	for _, c := range []struct {
		what   string
		b      exact.Box
		lo, hi string
	}{
		{"example 4", span("1/2", "5/2"), "2", "4"},
		{"all of it", span("0", "3"), "0", "6"},
		{"the first Read", only("0"), "0", "0"},
		{"the last Read", only("3"), "6", "6"},
		{"another Read", only("1"), "4", "4"},
		{"one reading", only("1.5"), "3", "3"},
		{"where it rises", span("1/4", "1/2"), "1", "2"},
		{"where it falls", span("4/3", "5/3"), "8/3", "10/3"},
		{"from a Read to another one", span("1", "2"), "2", "4"},
		{"over a Read", span("3/4", "5/4"), "3", "4"},
		{"up to a Read", span("3/2", "2"), "2", "3"},
	} {
		b, e := probe.Look(waves(), c.b)
		isBox(t, c.what, b, e, c.lo, c.hi)
	}
	b, e := probe.Look(rising(api.MaxTable), span("1/2", "38.5"))
	isBox(t, "longest table", b, e, "1", "77")
	b, e = probe.Look(table([2]string{"0", "0"}, [2]string{"1/3", "5"}, [2]string{"2", "-5"}), span("1/6", "7/6"))
	isBox(t, "Reads that are not equally far", b, e, "0", "5")
	for what, b := range map[string]exact.Box{
		"above the last Read":      span("2", "3.01"),
		"below the first Read":     span("-0.01", "3"),
		"wider than the table":     span("-1", "4"),
		"all above the last Read":  only("4"),
		"all below the first Read": only("-1"),
	} {
		b, e := probe.Look(waves(), b)
		isError(t, what, e, api.ErrKnots, b)
	}
	for what, l := range wrongTables() {
		b, e := probe.Look(l, only("-5"))
		isError(t, what, e, api.ErrArg, b)
	}
}

// value returns what a table gives to a reading: the knot's value, or the mean of two knots' values, weighed by how near they are.
func value(t []probe.Knot, x exact.Num) exact.Num {
	for i, k := range t {
		if k.Read.Cmp(x) == 0 {
			return k.Value
		}
		if k.Read.Cmp(x) > 0 {
			before := t[i-1]
			sum := before.Value.Mul(k.Read.Sub(x)).Add(k.Value.Mul(x.Sub(before.Read)))
			return quotient(sum, k.Read.Sub(before.Read))
		}
	}
	panic("no value")
}

// P4.8: the box has the values of all readings, and its ends are two of them.
func TestLookIsLeast(t *testing.T) {
	random := rand.New(rand.NewPCG(4, 8))
	for range 1000 {
		l := anyTable(random, false)
		b := smaller(random, reads(l))
		found := []exact.Num{value(l, b.Lo()), value(l, b.Hi())}
		for _, k := range l {
			if b.Lo().Cmp(k.Read) < 0 && k.Read.Cmp(b.Hi()) < 0 {
				found = append(found, k.Value)
			}
			found = append(found, value(l, within(random, b)))
		}
		got, e := probe.Look(l, b)
		if want := hull(found...); e != api.OK || !got.Equal(want) {
			t.Fatalf("%v at %v: %v, error %d, instead of %v", l, b, got, e, want)
		}
	}
}

// P4.9
func TestBack(t *testing.T) {
	l := table([2]string{"0", "-4"}, [2]string{"1", "0"}, [2]string{"4", "2"})
	for _, c := range []struct {
		what   string
		b      exact.Box
		lo, hi string
	}{
		{"all of it", span("-4", "2"), "0", "4"},
		{"the first Value", only("-4"), "0", "0"},
		{"the last Value", only("2"), "4", "4"},
		{"another Value", only("0"), "1", "1"},
		{"over a Value", span("-1", "1"), "0.75", "2.5"},
		{"between two Values", span("1/3", "2/3"), "1.5", "2"},
	} {
		b, e := probe.Back(l, c.b)
		isBox(t, c.what, b, e, c.lo, c.hi)
	}
	b, e := probe.Back(rising(api.MaxTable), span("1", "77"))
	isBox(t, "longest table", b, e, "0.5", "38.5")
	for what, b := range map[string]exact.Box{
		"above the last Value":  span("0", "2.01"),
		"below the first Value": span("-4.01", "0"),
		"a Read that is none":   only("4"),
		"all below":             only("-5"),
	} {
		b, e := probe.Back(l, b)
		isError(t, what, e, api.ErrKnots, b)
	}
	wrong := wrongTables()
	wrong["example 4"] = waves()
	wrong["equal values"] = table([2]string{"0", "1"}, [2]string{"1", "1"})
	wrong["equal values at the end"] = table([2]string{"0", "0"}, [2]string{"1", "1"}, [2]string{"2", "1"})
	wrong["it falls"] = table([2]string{"0", "1"}, [2]string{"1", "0"})
	wrong["Reads that fall while Values rise"] = table([2]string{"1", "0"}, [2]string{"0", "1"})
	for what, l := range wrong {
		b, e := probe.Back(l, only("-5"))
		isError(t, what, e, api.ErrArg, b)
	}
}

// P4.10
func TestCoefficient(t *testing.T) {
	for _, c := range []struct {
		what               string
		front, left, right exact.Box
		lo, hi             string
	}{
		{"example 5", only("10"), span("4", "6"), only("4"), "0", "0.4"},
		{"three numbers", only("5"), only("3"), only("1"), "2/3", "2/3"},
		{"the sides exchanged", only("5"), only("1"), only("3"), "-2/3", "-2/3"},
		{"equal sides", span("10", "12"), only("4"), only("4"), "0", "0"},
		{"a front that is wide", span("6", "8"), only("4"), only("2"), "0.4", "2/3"},
		{"a front below the sides", only("0"), span("1", "2"), only("4"), "2/3", "1.2"},
		{"boxes", span("10", "11"), span("1", "2"), span("1", "3"), "-0.25", "2/17"},
	} {
		b, e := probe.Coefficient(c.front, c.left, c.right)
		isBox(t, c.what, b, e, c.lo, c.hi)
	}
	for _, c := range []struct {
		what               string
		front, left, right exact.Box
	}{
		{"all equal", only("4"), only("4"), only("4")},
		{"the divisor is 0 at an end", span("5", "10"), span("4", "6"), only("4")},
		{"and at the other one", span("-10", "4"), span("4", "6"), only("4")},
		{"within the boxes alone", span("3", "5"), only("4"), only("4")},
		{"with some sides", only("5"), span("4", "8"), span("3", "7")},
	} {
		b, e := probe.Coefficient(c.front, c.left, c.right)
		isError(t, c.what, e, api.ErrClose, b)
	}
}

// P4.10: the box has the coefficients of all pressures, and its ends are two of them.
func TestCoefficientIsLeast(t *testing.T) {
	random := rand.New(rand.NewPCG(4, 10))
	near := 0
	for range 2000 {
		front, left, right := anyBox(random), anyBox(random), anyBox(random)
		var found []exact.Num
		signs := map[int]bool{}
		add := func(f, l, r exact.Num) {
			divisor := f.Add(f).Sub(l).Sub(r)
			signs[divisor.Sign()] = true
			if divisor.Sign() != 0 {
				found = append(found, quotient(l.Sub(r).Mul(num("2")), divisor))
			}
		}
		for _, f := range ends(front) {
			for _, l := range ends(left) {
				for _, r := range ends(right) {
					add(f, l, r)
					add(within(random, front), within(random, left), within(random, right))
				}
			}
		}
		b, e := probe.Coefficient(front, left, right)
		if len(signs) > 1 || signs[0] {
			isError(t, "near 0", e, api.ErrClose, b)
			near++
		} else if want := hull(found...); e != api.OK || !b.Equal(want) {
			t.Fatalf("%v, %v, %v: %v, error %d, instead of %v", front, left, right, b, e, want)
		}
	}
	if near < 200 || near > 1800 {
		t.Error("too few boxes of a kind", near)
	}
}

// P4.10
func TestAngle(t *testing.T) {
	b, e := probe.Angle(waves(), only("10"), span("4", "6"), only("4"))
	isBox(t, "the coefficients of example 5", b, e, "0", "1.6")
	b, e = probe.Angle(waves(), only("10"), span("4", "10"), only("0"))
	isBox(t, "over a knot", b, e, "2", "4") // the coefficients are from 1/2 to 2
	for _, c := range []struct {
		what        string
		front, left exact.Box
		want        api.Errno
	}{
		{"no coefficient", only("4"), only("4"), api.ErrClose},
		{"above the table", only("10"), only("15"), api.ErrKnots},
		{"below the table", only("10"), span("3", "6"), api.ErrKnots},
	} {
		b, e := probe.Angle(waves(), c.front, c.left, only("4"))
		isError(t, c.what, e, c.want, b)
	}
	for what, l := range wrongTables() {
		b, e := probe.Angle(l, only("4"), only("4"), only("4"))
		isError(t, what, e, api.ErrArg, b)
	}
}
