package correct_test

import (
	"math/rand/v2"
	"testing"

	"venturi/api"
	"venturi/correct"
	"venturi/exact"
)

// P7.3
func TestCheckEnv(t *testing.T) {
	tiny := num("1/1000000000000000000000")
	for what, e := range map[string]correct.Env{
		"nothing but a grid": {Grid: tiny},
		"the longest":        {Values: values(api.MaxNamed), Tables: tables(api.MaxTables), Grid: num("1")},
		"the longest table":  {Tables: []correct.Table{straight(api.MaxKnots)}, Grid: tiny},
		"two knots":          {Tables: []correct.Table{straight(2)}, Grid: tiny},
		"one name for both":  {Values: []correct.Named{named("wall", "0", "1")}, Tables: []correct.Table{wall()}, Grid: tiny},
	} {
		isError(t, what, correct.CheckEnv(e), api.OK)
	}
	for what, e := range wrongEnvs() {
		isError(t, what, correct.CheckEnv(e), api.ErrArg)
	}
	for _, name := range rightNames() {
		table := wall()
		table.Name = name
		e := correct.Env{Values: []correct.Named{named(name, "0", "1")}, Tables: []correct.Table{table}, Grid: tiny}
		isError(t, name, correct.CheckEnv(e), api.OK)
	}
}

// P7.3
func TestLook(t *testing.T) {
	for _, c := range []struct {
		what   string
		x      exact.Box
		lo, hi string
	}{
		{"example 3", span("1/2", "3"), "1", "2"},
		{"all of it", span("0", "3"), "0", "2"},
		{"the first X", only("0"), "0", "0"},
		{"the last X", only("3"), "1", "1"},
		{"another X", only("1"), "2", "2"},
		{"where it rises", span("1/4", "1/3"), "0.5", "2/3"},
		{"where it falls", span("1.5", "2"), "1.5", "1.75"},
		{"over an X", span("3/4", "5/4"), "1.5", "2"},
		{"up to an X", span("3/4", "1"), "1.5", "2"},
		{"from an X", span("1", "7/3"), "4/3", "2"},
		{"one number", only("2.5"), "1.25", "1.25"},
	} {
		b, e := correct.Look(wall(), c.x)
		isBox(t, c.what, b, e, c.lo, c.hi)
	}
	b, e := correct.Look(straight(api.MaxKnots), span("1/2", "38.5"))
	isBox(t, "the longest table", b, e, "1", "77")
	for what, x := range map[string]exact.Box{
		"above":       span("2", "3.01"),
		"below":       span("-0.01", "2"),
		"both":        span("-1", "4"),
		"all above":   only("4"),
		"all below":   only("-1"),
		"far from it": span("100", "200"),
	} {
		b, e := correct.Look(wall(), x)
		isError(t, what, e, api.ErrDomain, b)
	}
	for what, l := range wrongTables() {
		for _, x := range []exact.Box{{}, only("-1000")} {
			b, e := correct.Look(l, x)
			isError(t, what, e, api.ErrArg, b)
		}
	}
}

// value returns what a table has for a number: the Y of a knot, or the mean of two of them, weighed by how near they are.
func value(t correct.Table, x exact.Num) exact.Num {
	for i, knot := range t.X {
		if knot.Cmp(x) == 0 {
			return t.Y[i]
		}
		if knot.Cmp(x) > 0 {
			sum := t.Y[i-1].Mul(knot.Sub(x)).Add(t.Y[i].Mul(x.Sub(t.X[i-1])))
			return quotient(sum, knot.Sub(t.X[i-1]))
		}
	}
	panic("no value")
}

// P7.3: the box has the values of all numbers, and its ends are two of them.
func TestLookIsLeast(t *testing.T) {
	random := rand.New(rand.NewPCG(7, 3))
	for range 1000 {
		l := anyTable(random, "t")
		x := smaller(random, between(l.X[0], l.X[len(l.X)-1]))
		want := exact.Point(value(l, x.Lo())).Hull(exact.Point(value(l, x.Hi())))
		for i, knot := range l.X {
			if x.Has(knot) {
				want = want.Hull(exact.Point(l.Y[i]))
			}
		}
		got, e := correct.Look(l, x)
		if e != api.OK || !got.Equal(want) || !got.Has(value(l, within(random, x))) {
			t.Fatalf("%v at %v: %v, error %d, instead of %v", l, x, got, e, want)
		}
	}
}
