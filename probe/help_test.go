package probe_test

import (
	"math/rand/v2"
	"reflect"
	"slices"
	"testing"

	"venturi/api"
	"venturi/exact"
	"venturi/probe"
)

// num returns the value of a numeral that the test has written.
func num(s string) exact.Num {
	x, e := exact.Parse(s)
	if e != api.OK {
		panic("no numeral: " + s)
	}
	return x
}

// nums returns the values of numerals.
func nums(l ...string) []exact.Num {
	var out []exact.Num
	for _, s := range l {
		out = append(out, num(s))
	}
	return out
}

func whole(n int) exact.Num { return exact.Whole(int64(n)) }

// quotient returns a / b.
func quotient(a, b exact.Num) exact.Num {
	x, e := a.Div(b)
	if e != api.OK {
		panic("divided by 0")
	}
	return x
}

// span returns the box between two numerals.
func span(lo, hi string) exact.Box { return between(num(lo), num(hi)) }

// between returns the box between two numbers.
func between(lo, hi exact.Num) exact.Box {
	b, e := exact.Span(lo, hi)
	if e != api.OK {
		panic("no box: " + lo.String() + ", " + hi.String())
	}
	return b
}

func only(s string) exact.Box { return exact.Point(num(s)) }

// hull returns the least box that has some numbers.
func hull(l ...exact.Num) exact.Box {
	return between(slices.MinFunc(l, exact.Num.Cmp), slices.MaxFunc(l, exact.Num.Cmp))
}

// ends returns both ends of a box.
func ends(b exact.Box) []exact.Num { return []exact.Num{b.Lo(), b.Hi()} }

// port returns the port of the document's examples with an error.
func port(e string) probe.Port {
	return probe.Port{Gain: span("1/2", "3/4"), Error: num(e)}
}

// wrongPorts returns ports that are not valid.
func wrongPorts() map[string]probe.Port {
	return map[string]probe.Port{
		"zero value":       {},
		"gain from 0":      {Gain: span("0", "1/2")},
		"gain from below":  {Gain: span("-1/9", "1")},
		"gain all below 0": {Gain: span("-1", "-1/2")},
		"gain above 1":     {Gain: span("1/2", "10/9")},
		"gain of 2":        {Gain: only("2")},
		"error below 0":    port("-1/9"),
	}
}

// table returns a table of knots that are written as their reading and their value.
func table(knots ...[2]string) []probe.Knot {
	var t []probe.Knot
	for _, k := range knots {
		t = append(t, probe.Knot{Read: num(k[0]), Value: num(k[1])})
	}
	return t
}

// waves returns the table of the document's example 4.
func waves() []probe.Knot {
	return table([2]string{"0", "0"}, [2]string{"1", "4"}, [2]string{"2", "2"}, [2]string{"3", "6"})
}

// rising returns a table that rises, with n knots.
func rising(n int) []probe.Knot {
	var t []probe.Knot
	for i := range n {
		t = append(t, probe.Knot{Read: whole(i), Value: whole(2 * i)})
	}
	return t
}

// wrongTables returns tables that are not valid.
func wrongTables() map[string][]probe.Knot {
	return map[string][]probe.Knot{
		"nil":            nil,
		"empty":          {},
		"one knot":       rising(1),
		"too many knots": rising(api.MaxTable + 1),
		"equal reads":    table([2]string{"0", "0"}, [2]string{"1", "1"}, [2]string{"1", "2"}),
		"falling reads":  table([2]string{"1", "0"}, [2]string{"0", "1"}),
	}
}

// isBox compares a result without error with the texts of its ends.
func isBox(t *testing.T, what string, b exact.Box, e api.Errno, lo, hi string) {
	t.Helper()
	if e != api.OK || b.Lo().String() != lo || b.Hi().String() != hi {
		t.Errorf("%s: from %v to %v, error %d, instead of from %s to %s", what, b.Lo(), b.Hi(), e, lo, hi)
	}
}

// is compares a result without error with the value that it should have.
func is[T comparable](t *testing.T, what string, got T, e api.Errno, want T) {
	t.Helper()
	if e != api.OK || got != want {
		t.Errorf("%s: %v, error %d, instead of %v", what, got, e, want)
	}
}

// isError checks an error, and that the results beside it are zero values.
func isError(t *testing.T, what string, e, want api.Errno, results ...any) {
	t.Helper()
	if e != want {
		t.Errorf("%s: error %d instead of %d", what, e, want)
	}
	for _, r := range results {
		if !isNothing(reflect.ValueOf(r)) {
			t.Errorf("%s: result %v beside an error", what, r)
		}
	}
}

// isNothing reports whether a value is the zero value, for which an empty list counts too (R3).
func isNothing(v reflect.Value) bool {
	switch v.Kind() {
	case reflect.Slice:
		return v.Len() == 0
	case reflect.Struct:
		for i := range v.NumField() {
			if !isNothing(v.Field(i)) {
				return false
			}
		}
		return true
	}
	return v.IsZero()
}

// anyOf returns one of some values.
func anyOf[T any](r *rand.Rand, l ...T) T {
	return l[r.IntN(len(l))]
}

// anyNum returns a number from -6 to 6 with a small denominator.
func anyNum(r *rand.Rand) exact.Num {
	return quotient(whole(r.IntN(25)-12), whole(2+r.IntN(3)))
}

// anyBox returns a box around such a number, or this number alone.
func anyBox(r *rand.Rand) exact.Box {
	lo := anyNum(r)
	return between(lo, lo.Add(anyOf(r, nums("0", "1/3", "1", "5/2")...)))
}

// anyPort returns a valid port.
func anyPort(r *rand.Rand) probe.Port {
	gains := anyOf(r, span("1/2", "3/4"), span("1/3", "1"), only("1"), only("2/5"), span("1/9", "1/8"))
	return probe.Port{Gain: gains, Error: anyOf(r, nums("0", "0", "1/3", "1")...)}
}

// within returns a number of a box: an end, or one between them.
func within(r *rand.Rand, b exact.Box) exact.Num {
	return b.Lo().Add(b.Width().Mul(quotient(whole(r.IntN(5)), whole(4))))
}

// smaller returns a box inside another one.
func smaller(r *rand.Rand, b exact.Box) exact.Box {
	return hull(within(r, b), within(r, b))
}

// read returns a reading that differs from a pressure by at most the error of a port.
func read(r *rand.Rand, p probe.Port, pressure exact.Num) exact.Num {
	return within(r, between(pressure.Sub(p.Error), pressure.Add(p.Error)))
}

// lag returns the pressures that a tube has at the moments 0, 1, .., with any gains that its port allows.
func lag(r *rand.Rand, p probe.Port, first exact.Num, taps ...exact.Num) []exact.Num {
	tube := []exact.Num{first}
	for i, x := range taps {
		tube = append(tube, tube[i].Add(within(r, p.Gain).Mul(x.Sub(tube[i]))))
	}
	return tube
}

// anyRecord returns a record of up to six readings: mostly one of which a pressure that stays the same is the cause, which it returns too.
func anyRecord(r *rand.Rand, p probe.Port) (record []exact.Num, cause exact.Num) {
	cause = anyNum(r)
	var taps []exact.Num
	for range r.IntN(6) {
		taps = append(taps, cause)
	}
	for _, pressure := range lag(r, p, anyNum(r), taps...) {
		record = append(record, read(r, p, pressure))
	}
	return record, cause
}

// spoilt returns a record of which some readings are others.
func spoilt(r *rand.Rand, record []exact.Num) []exact.Num {
	other := slices.Clone(record)
	for i := range other {
		if r.IntN(4) == 0 {
			other[i] = other[i].Add(anyNum(r))
		}
	}
	return other
}

// anyTable returns a table of up to six knots, which rises if it is asked to.
func anyTable(r *rand.Rand, rises bool) []probe.Knot {
	t := []probe.Knot{{Read: anyNum(r), Value: anyNum(r)}}
	for range 1 + r.IntN(5) {
		k := t[len(t)-1]
		k.Read = k.Read.Add(anyOf(r, nums("1/3", "1", "5/2")...))
		if rises {
			k.Value = k.Value.Add(anyOf(r, nums("1/2", "1", "7/3")...))
		} else {
			k.Value = anyNum(r)
		}
		t = append(t, k)
	}
	return t
}

// reads and values return the boxes of all Reads and of all Values of a table.
func reads(t []probe.Knot) exact.Box {
	var l []exact.Num
	for _, k := range t {
		l = append(l, k.Read)
	}
	return hull(l...)
}

func values(t []probe.Knot) exact.Box {
	var l []exact.Num
	for _, k := range t {
		l = append(l, k.Value)
	}
	return hull(l...)
}
