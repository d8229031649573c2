package balance_test

import (
	"math/rand/v2"
	"reflect"
	"slices"
	"testing"

	"venturi/api"
	"venturi/balance"
	"venturi/exact"
	"venturi/fit"
)

// num returns the value of a numeral that the test has written.
func num(s string) exact.Num {
	x, e := exact.Parse(s)
	if e != api.OK {
		panic("no numeral: " + s)
	}
	return x
}

// nums returns the values of numerals.
func nums(l ...string) []exact.Num {
	var out []exact.Num
	for _, s := range l {
		out = append(out, num(s))
	}
	return out
}

func whole(n int) exact.Num { return exact.Whole(int64(n)) }

// quotient returns a / b.
func quotient(a, b exact.Num) exact.Num {
	x, e := a.Div(b)
	if e != api.OK {
		panic("divided by 0")
	}
	return x
}

// span returns the box between two numerals.
func span(lo, hi string) exact.Box { return between(num(lo), num(hi)) }

// between returns the box between two numbers.
func between(lo, hi exact.Num) exact.Box {
	b, e := exact.Span(lo, hi)
	if e != api.OK {
		panic("no box: " + lo.String() + ", " + hi.String())
	}
	return b
}

func only(s string) exact.Box { return exact.Point(num(s)) }

// points returns the boxes of numbers alone.
func points(l []exact.Num) []exact.Box {
	var out []exact.Box
	for _, x := range l {
		out = append(out, exact.Point(x))
	}
	return out
}

// boxes returns a list of n equal boxes.
func boxes(n int, b exact.Box) []exact.Box { return slices.Repeat([]exact.Box{b}, n) }

// vector returns a vector of numerals.
func vector(x, y, z string) balance.Vector { return balance.Vector{num(x), num(y), num(z)} }

// form returns a form of terms.
func form(inputs int, terms ...[]int) fit.Form { return fit.Form{Inputs: inputs, Terms: terms} }

// bent returns the calibration with the reading a * x + b * x * x.
func bent(a, b string) balance.Calibration {
	return balance.Calibration{Form: form(1, []int{1}, []int{2}), Coefs: [][]exact.Num{nums(a, b)}}
}

// linked returns the calibration with the readings 3 + y + x * x * y / 10 and 2 * x - y / 2 - x * x * y / 5: its linear terms are not in the order of the loads.
func linked() balance.Calibration {
	return balance.Calibration{
		Form:  form(2, []int{0, 1}, []int{0, 0}, []int{2, 1}, []int{1, 0}),
		Coefs: [][]exact.Num{nums("1", "3", "0.1", "0"), nums("-0.5", "0", "-0.2", "2")},
	}
}

// wrongCalibrations returns calibrations that are not valid.
func wrongCalibrations() map[string]balance.Calibration {
	one, two := nums("1"), nums("1", "1")
	seven := balance.Calibration{Form: fit.Form{Inputs: 7}}
	for k := range 7 {
		term := make([]int, 7)
		term[k] = 1
		seven.Form.Terms = append(seven.Form.Terms, term)
		seven.Coefs = append(seven.Coefs, make([]exact.Num, 7))
	}
	return map[string]balance.Calibration{
		"zero value":       {},
		"no inputs":        {Form: form(0, []int{})},
		"negative inputs":  {Form: form(-1)},
		"seven inputs":     seven,
		"equal terms":      {Form: form(1, []int{1}, []int{1}), Coefs: [][]exact.Num{two}},
		"high exponent":    {Form: form(1, []int{1}, []int{9}), Coefs: [][]exact.Num{two}},
		"short term":       {Form: form(2, []int{1, 0}, []int{0, 1}, []int{1}), Coefs: [][]exact.Num{two, two}},
		"no term":          {Form: form(1), Coefs: [][]exact.Num{nil}},
		"no linear term":   {Form: form(1, []int{2}), Coefs: [][]exact.Num{one}},
		"a product alone":  {Form: form(2, []int{1, 0}, []int{1, 1}), Coefs: [][]exact.Num{two, two}},
		"one linear term":  {Form: form(2, []int{1, 0}, []int{0, 2}), Coefs: [][]exact.Num{two, two}},
		"no coefs":         {Form: form(1, []int{1})},
		"too few readings": {Form: form(2, []int{1, 0}, []int{0, 1}), Coefs: [][]exact.Num{two}},
		"too many":         {Form: form(1, []int{1}), Coefs: [][]exact.Num{one, one}},
		"too few coefs":    {Form: form(1, []int{1}, []int{2}), Coefs: [][]exact.Num{one}},
		"too many coefs":   {Form: form(1, []int{1}), Coefs: [][]exact.Num{two}},
		"later coefs":      {Form: form(2, []int{1, 0}, []int{0, 1}), Coefs: [][]exact.Num{two, one}},
	}
}

// is compares a result without error with the value that it should have.
func is[T comparable](t *testing.T, what string, got T, e api.Errno, want T) {
	t.Helper()
	if e != api.OK || got != want {
		t.Errorf("%s: %v, error %d, instead of %v", what, got, e, want)
	}
}

// isNum compares a result without error with its text.
func isNum(t *testing.T, what string, x exact.Num, e api.Errno, want string) {
	t.Helper()
	is(t, what, x.String(), e, want)
}

// areNums compares a list without error with the texts of its numbers.
func areNums(t *testing.T, what string, l []exact.Num, e api.Errno, want ...string) {
	t.Helper()
	if e != api.OK || !slices.EqualFunc(l, want, func(x exact.Num, s string) bool { return x.String() == s }) {
		t.Errorf("%s: %v, error %d, instead of %v", what, l, e, want)
	}
}

// isVector compares a vector without error with the texts of its numbers.
func isVector(t *testing.T, what string, v balance.Vector, e api.Errno, x, y, z string) {
	t.Helper()
	areNums(t, what, v[:], e, x, y, z)
}

// isBox compares a box with the texts of its ends.
func isBox(t *testing.T, what string, b exact.Box, lo, hi string) {
	t.Helper()
	if b.Lo().String() != lo || b.Hi().String() != hi {
		t.Errorf("%s: from %v to %v instead of from %s to %s", what, b.Lo(), b.Hi(), lo, hi)
	}
}

// isError checks an error, and that the results beside it are zero values.
func isError(t *testing.T, what string, e, want api.Errno, results ...any) {
	t.Helper()
	if e != want {
		t.Errorf("%s: error %d instead of %d", what, e, want)
	}
	for _, r := range results {
		if !isNothing(reflect.ValueOf(r)) {
			t.Errorf("%s: result %v beside an error", what, r)
		}
	}
}

// isNothing reports whether a value is the zero value, for which an empty list counts too (R3).
func isNothing(v reflect.Value) bool {
	switch v.Kind() {
	case reflect.Slice:
		return v.Len() == 0
	case reflect.Struct:
		for i := range v.NumField() {
			if !isNothing(v.Field(i)) {
				return false
			}
		}
		return true
	case reflect.Array:
		for i := range v.Len() {
			if !isNothing(v.Index(i)) {
				return false
			}
		}
		return true
	}
	return v.IsZero()
}

func sameNum(x, y exact.Num) bool { return x.Cmp(y) == 0 }

// sameNums reports whether two lists have the same numbers.
func sameNums(a, b []exact.Num) bool { return slices.EqualFunc(a, b, sameNum) }

// sameBoxes reports whether two lists have the same boxes.
func sameBoxes(a, b []exact.Box) bool { return slices.EqualFunc(a, b, exact.Box.Equal) }

// sum returns the sum of the products of two lists.
func sum(a, b []exact.Num) exact.Num {
	s, e := exact.Dot(a, b)
	if e != api.OK {
		panic("lists of different lengths")
	}
	return s
}

// plus returns the numbers of a plus those of b, each times a factor.
func plus(a []exact.Num, factor exact.Num, b []exact.Num) []exact.Num {
	out := slices.Clone(a)
	for i, x := range b {
		out[i] = out[i].Add(factor.Mul(x))
	}
	return out
}

// anyOf returns one of some values.
func anyOf[T any](r *rand.Rand, l ...T) T {
	return l[r.IntN(len(l))]
}

// anyNum returns a number from -6 to 6 with a small denominator.
func anyNum(r *rand.Rand) exact.Num {
	return quotient(whole(r.IntN(25)-12), whole(2+r.IntN(3)))
}

func anyNums(r *rand.Rand, n int) []exact.Num {
	l := make([]exact.Num, n)
	for i := range l {
		l[i] = anyNum(r)
	}
	return l
}

// anyBox returns a box around such a number, or this number alone.
func anyBox(r *rand.Rand) exact.Box {
	lo := anyNum(r)
	return between(lo, lo.Add(anyOf(r, nums("0", "1/3", "1", "5/2")...)))
}

func anyBoxes(r *rand.Rand, n int) []exact.Box {
	l := make([]exact.Box, n)
	for i := range l {
		l[i] = anyBox(r)
	}
	return l
}

// within returns a number of a box: an end, or one between them.
func within(r *rand.Rand, b exact.Box) exact.Num {
	return b.Lo().Add(b.Width().Mul(quotient(whole(r.IntN(5)), whole(4))))
}

// inAll returns a number of each box.
func inAll(r *rand.Rand, l []exact.Box) []exact.Num {
	out := make([]exact.Num, len(l))
	for i, b := range l {
		out[i] = within(r, b)
	}
	return out
}

func anyVector(r *rand.Rand) balance.Vector { return balance.Vector(anyNums(r, 3)) }

// anyAttitude returns a valid attitude.
func anyAttitude(r *rand.Rand) []balance.Turn {
	var a []balance.Turn
	for range r.IntN(api.MaxTurns + 1) {
		a = append(a, balance.Turn{Axis: r.IntN(3), T: anyNum(r)})
	}
	return a
}

// anyForm returns the form of a calibration with n components: its linear terms, and up to five others, in any order.
func anyForm(r *rand.Rand, n int) fit.Form {
	f := fit.Form{Inputs: n}
	for k := range n {
		term := make([]int, n)
		term[k] = 1
		f.Terms = append(f.Terms, term)
	}
	for range r.IntN(6) {
		term := make([]int, n)
		for range r.IntN(4) {
			term[r.IntN(n)]++
		}
		if !slices.ContainsFunc(f.Terms, func(other []int) bool { return slices.Equal(other, term) }) {
			f.Terms = append(f.Terms, term)
		}
	}
	r.Shuffle(len(f.Terms), func(i, j int) { f.Terms[i], f.Terms[j] = f.Terms[j], f.Terms[i] })
	return f
}

// degree returns the sum of the exponents of a term.
func degree(term []int) int {
	sum := 0
	for _, exponent := range term {
		sum += exponent
	}
	return sum
}

// anyCalibration returns a calibration with n components, of which each reading depends on one load most of all: the readings follow the loads in any order.
func anyCalibration(r *rand.Rand, n int) balance.Calibration {
	c := balance.Calibration{Form: anyForm(r, n)}
	for _, own := range r.Perm(n) {
		var coefs []exact.Num
		for _, term := range c.Form.Terms {
			x := quotient(anyNum(r), anyOf(r, whole(60), whole(300)))
			if degree(term) == 1 && term[own] == 1 {
				x = anyOf(r, nums("1", "-2", "3/2")...)
			}
			coefs = append(coefs, x)
		}
		c.Coefs = append(c.Coefs, coefs)
	}
	return c
}

// reading returns the readings of a valid calibration.
func reading(c balance.Calibration, loads []exact.Num) []exact.Num {
	l, e := balance.Read(c, loads)
	if e != api.OK {
		panic("no readings")
	}
	return l
}

// around returns a box around each number.
func around(l []exact.Num, distance exact.Num) []exact.Box {
	out := make([]exact.Box, len(l))
	for i, x := range l {
		out[i] = between(x.Sub(distance), x.Add(distance))
	}
	return out
}
