package correct_test

import (
	"math/rand/v2"
	"reflect"
	"slices"
	"strconv"
	"strings"
	"testing"

	"venturi/api"
	"venturi/correct"
	"venturi/exact"
)

// num returns the value of a numeral that the test has written.
func num(s string) exact.Num {
	x, e := exact.Parse(s)
	if e != api.OK {
		panic("no numeral: " + s)
	}
	return x
}

// nums returns the values of numerals.
func nums(l ...string) []exact.Num {
	var out []exact.Num
	for _, s := range l {
		out = append(out, num(s))
	}
	return out
}

func whole(n int) exact.Num { return exact.Whole(int64(n)) }

// quotient returns a / b.
func quotient(a, b exact.Num) exact.Num {
	x, e := a.Div(b)
	if e != api.OK {
		panic("divided by 0")
	}
	return x
}

// between returns the box between two numbers.
func between(lo, hi exact.Num) exact.Box {
	b, e := exact.Span(lo, hi)
	if e != api.OK {
		panic("no box: " + lo.String() + ", " + hi.String())
	}
	return b
}

// span returns the box between two numerals.
func span(lo, hi string) exact.Box { return between(num(lo), num(hi)) }

func only(s string) exact.Box { return exact.Point(num(s)) }

// formula returns the formula of a text that the test has written.
func formula(s string) correct.Formula {
	f, e := correct.Parse(s)
	if e != api.OK {
		panic("no formula: " + s)
	}
	return f
}

// named returns a value.
func named(name, lo, hi string) correct.Named {
	return correct.Named{Name: name, Box: span(lo, hi)}
}

// env returns an environment with the grid 1/10 and the table of example 3.
func env(values ...correct.Named) correct.Env {
	return correct.Env{Values: values, Tables: []correct.Table{wall()}, Grid: num("0.1")}
}

// wall returns the table of example 3.
func wall() correct.Table {
	return correct.Table{Name: "wall", X: nums("0", "1", "3"), Y: nums("0", "2", "1")}
}

// names returns n names: n0, n1, ..
func names(n int) []string {
	var l []string
	for i := range n {
		l = append(l, "n"+strconv.Itoa(i))
	}
	return l
}

// values returns n values of names.
func values(n int) []correct.Named {
	var l []correct.Named
	for i, name := range names(n) {
		l = append(l, correct.Named{Name: name, Box: exact.Point(whole(i))})
	}
	return l
}

// tables returns n tables of names.
func tables(n int) []correct.Table {
	var l []correct.Table
	for _, name := range names(n) {
		t := wall()
		t.Name = name
		l = append(l, t)
	}
	return l
}

// straight returns the table with n knots (0, 0), (1, 2), (2, 4), ..
func straight(n int) correct.Table {
	t := correct.Table{Name: "straight"}
	for i := range n {
		t.X, t.Y = append(t.X, whole(i)), append(t.Y, whole(2*i))
	}
	return t
}

// wrongNames returns texts that are no names.
func wrongNames() []string {
	return []string{"", "sqrt", "abs", "2", "2x", "_", "_x", "X", "aB", "a b", " a", "a ", "a.b", "a-b", "a(b", "é", "aé", "a\x00", "a\xff", strings.Repeat("a", 21)}
}

// rightNames returns names.
func rightNames() []string {
	return []string{"a", "z", "a0", "a9", "x_", "a_z", "sqrt2", "sqrtx", "ab", "abs_", "a" + strings.Repeat("_", 19)}
}

// wrongTables returns tables that are not valid.
func wrongTables() map[string]correct.Table {
	l := map[string]correct.Table{
		"zero value":       {},
		"no knots":         {Name: "t"},
		"one knot":         {Name: "t", X: nums("0"), Y: nums("0")},
		"too many knots":   straight(api.MaxKnots + 1),
		"more Y":           {Name: "t", X: nums("0", "1"), Y: nums("0", "1", "2")},
		"fewer Y":          {Name: "t", X: nums("0", "1", "2"), Y: nums("0", "1")},
		"no Y":             {Name: "t", X: nums("0", "1")},
		"equal X":          {Name: "t", X: nums("1", "1"), Y: nums("0", "1")},
		"falling X":        {Name: "t", X: nums("1", "0"), Y: nums("0", "1")},
		"equal X later":    {Name: "t", X: nums("0", "1", "2", "2"), Y: nums("0", "1", "2", "3")},
		"falling X later":  {Name: "t", X: nums("0", "1", "2", "1.5"), Y: nums("0", "1", "2", "3")},
		"equal X at first": {Name: "t", X: nums("0", "0", "2"), Y: nums("0", "1", "2")},
	}
	for _, name := range wrongNames() {
		l["the name "+strconv.Quote(name)] = correct.Table{Name: name, X: nums("0", "1"), Y: nums("0", "1")}
	}
	return l
}

// wrongEnvs returns environments that are not valid. Those of the same values as the formulas in tests would be known, if they were valid.
func wrongEnvs() map[string]correct.Env {
	one := num("1")
	l := map[string]correct.Env{
		"zero value":       {},
		"negative grid":    {Grid: num("-0.1")},
		"no grid":          {Values: values(2), Tables: tables(2)},
		"too many values":  {Values: values(api.MaxNamed + 1), Grid: one},
		"equal names":      {Values: append(values(3), values(2)[1]), Grid: one},
		"too many tables":  {Tables: tables(api.MaxTables + 1), Grid: one},
		"equal tables":     {Tables: append(tables(3), tables(2)[1]), Grid: one},
		"all of it at all": {Values: values(41), Tables: tables(11)},
	}
	for what, t := range wrongTables() {
		l["a table: "+what] = correct.Env{Values: values(2), Tables: append(tables(2), t), Grid: one}
	}
	for _, name := range wrongNames() {
		l["a value with the name "+strconv.Quote(name)] = correct.Env{Values: append(values(2), named(name, "0", "1")), Grid: one}
	}
	return l
}

// isBox compares a box without error with the texts of its ends.
func isBox(t *testing.T, what string, b exact.Box, e api.Errno, lo, hi string) {
	t.Helper()
	if e != api.OK || b.Lo().String() != lo || b.Hi().String() != hi {
		t.Errorf("%s: from %v to %v, error %d, instead of from %s to %s", what, b.Lo(), b.Hi(), e, lo, hi)
	}
}

// areNamed compares values without error with what they should be: names and the texts of both ends by turns.
func areNamed(t *testing.T, what string, l []correct.Named, e api.Errno, want ...string) {
	t.Helper()
	var got []string
	for _, v := range l {
		got = append(got, v.Name, v.Box.Lo().String(), v.Box.Hi().String())
	}
	if e != api.OK || !slices.Equal(got, want) {
		t.Errorf("%s: %v, error %d, instead of %v", what, got, e, want)
	}
}

// isError checks an error, and that the results beside it are zero values.
func isError(t *testing.T, what string, e, want api.Errno, results ...any) {
	t.Helper()
	if e != want {
		t.Errorf("%s: error %d instead of %d", what, e, want)
	}
	for _, r := range results {
		if !isNothing(reflect.ValueOf(r)) {
			t.Errorf("%s: result %v beside an error", what, r)
		}
	}
}

// isNothing reports whether a value is the zero value, for which an empty list counts too (R3).
func isNothing(v reflect.Value) bool {
	switch v.Kind() {
	case reflect.Slice:
		return v.Len() == 0
	case reflect.Struct:
		for i := range v.NumField() {
			if !isNothing(v.Field(i)) {
				return false
			}
		}
		return true
	}
	return v.IsZero()
}

// anyOf returns one of some values.
func anyOf[T any](r *rand.Rand, l ...T) T {
	return l[r.IntN(len(l))]
}

// anyNum returns a number from -6 to 6 with a small denominator.
func anyNum(r *rand.Rand) exact.Num {
	return quotient(whole(r.IntN(25)-12), whole(2+r.IntN(3)))
}

// anyBox returns a box around such a number, or this number alone.
func anyBox(r *rand.Rand) exact.Box {
	lo := anyNum(r)
	return between(lo, lo.Add(anyOf(r, nums("0", "1/3", "1", "5/2")...)))
}

// within returns a number of a box: an end, or one between them.
func within(r *rand.Rand, b exact.Box) exact.Num {
	return b.Lo().Add(b.Width().Mul(quotient(whole(r.IntN(5)), whole(4))))
}

// smaller returns a box inside a box.
func smaller(r *rand.Rand, b exact.Box) exact.Box {
	x, y := within(r, b), within(r, b)
	if x.Cmp(y) > 0 {
		x, y = y, x
	}
	return between(x, y)
}

// anyTable returns a valid table whose domain is not narrow.
func anyTable(r *rand.Rand, name string) correct.Table {
	t := correct.Table{Name: name}
	x := anyOf(r, nums("-100", "-10", "0")...)
	for range 2 + r.IntN(5) {
		t.X, t.Y = append(t.X, x), append(t.Y, anyNum(r))
		x = x.Add(anyOf(r, nums("1/3", "2", "20", "60")...))
	}
	return t
}

// anyEnv returns an environment with the values x, y and z and the tables t and x.
func anyEnv(r *rand.Rand) correct.Env {
	e := correct.Env{Grid: anyOf(r, nums("1/7", "0.5", "2")...)}
	for _, name := range []string{"x", "y", "z"} {
		e.Values = append(e.Values, correct.Named{Name: name, Box: anyBox(r)})
	}
	e.Tables = []correct.Table{anyTable(r, "t"), anyTable(r, "x")}
	return e
}

// replaced returns the same environment with other boxes.
func replaced(e correct.Env, box func(b exact.Box) exact.Box) correct.Env {
	e.Values = slices.Clone(e.Values)
	for i, v := range e.Values {
		e.Values[i].Box = box(v.Box)
	}
	return e
}
