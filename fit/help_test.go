package fit_test

import (
	"math/big"
	"math/rand/v2"
	"reflect"
	"testing"

	"venturi/api"
	"venturi/exact"
	"venturi/fit"
)

// num returns the value of a numeral.
func num(t *testing.T, s string) exact.Num {
	t.Helper()
	x, e := exact.Parse(s)
	if e != api.OK {
		t.Fatalf("Parse(%q): error %d", s, e)
	}
	return x
}

// nums returns the values of numerals.
func nums(t *testing.T, l ...string) []exact.Num {
	t.Helper()
	var out []exact.Num
	for _, s := range l {
		out = append(out, num(t, s))
	}
	return out
}

// span returns the box between two numerals.
func span(t *testing.T, lo, hi string) exact.Box {
	t.Helper()
	b, e := exact.Span(num(t, lo), num(t, hi))
	if e != api.OK {
		t.Fatalf("Span of %s and %s: error %d", lo, hi, e)
	}
	return b
}

// at returns points of which each list has the inputs, and the reading as the last one.
func at(t *testing.T, lists ...[]string) []fit.Point {
	t.Helper()
	var data []fit.Point
	for _, l := range lists {
		all := nums(t, l...)
		data = append(data, fit.Point{X: all[:len(all)-1], Y: all[len(all)-1]})
	}
	return data
}

// isNum compares a result without error with the text that it should have.
func isNum(t *testing.T, what string, got exact.Num, e api.Errno, want string) {
	t.Helper()
	if e != api.OK || got.String() != want {
		t.Errorf("%s: %v, error %d, instead of %s", what, got, e, want)
	}
}

// areNums compares a list without error with the texts that its numbers should have.
func areNums(t *testing.T, what string, got []exact.Num, e api.Errno, want ...string) {
	t.Helper()
	same := e == api.OK && len(got) == len(want)
	for i := 0; same && i < len(got); i++ {
		same = got[i].String() == want[i]
	}
	if !same {
		t.Errorf("%s: %v, error %d, instead of %v", what, got, e, want)
	}
}

// isBox compares a result without error with the texts of its ends.
func isBox(t *testing.T, what string, b exact.Box, e api.Errno, lo, hi string) {
	t.Helper()
	if e != api.OK || b.Lo().String() != lo || b.Hi().String() != hi {
		t.Errorf("%s: from %v to %v, error %d, instead of from %s to %s", what, b.Lo(), b.Hi(), e, lo, hi)
	}
}

// isError checks an error, and that the result beside it is the zero value.
func isError(t *testing.T, what string, got any, e, want api.Errno) {
	t.Helper()
	if e != want {
		t.Errorf("%s: error %d instead of %d", what, e, want)
	}
	if !isNothing(reflect.ValueOf(got)) {
		t.Errorf("%s: result %v beside an error", what, got)
	}
}

// isNothing reports whether a value is the zero value, for which an empty list counts too (R3).
func isNothing(v reflect.Value) bool {
	switch v.Kind() {
	case reflect.Slice:
		return v.Len() == 0
	case reflect.Struct:
		for i := range v.NumField() {
			if !isNothing(v.Field(i)) {
				return false
			}
		}
		return true
	}
	return v.IsZero()
}

// sameNums reports whether two lists have the same numbers.
func sameNums(a, b []exact.Num) bool {
	if len(a) != len(b) {
		return false
	}
	for i := range a {
		if a[i].Cmp(b[i]) != 0 {
			return false
		}
	}
	return true
}

// anyNum returns a small number, now and then 0 or a fraction.
func anyNum(r *rand.Rand) exact.Num {
	x, _ := exact.Ratio(int64(r.IntN(21)-10), int64(1+r.IntN(4)))
	return x
}

func anyNums(r *rand.Rand, n int) []exact.Num {
	l := make([]exact.Num, n)
	for i := range l {
		l[i] = anyNum(r)
	}
	return l
}

// anyForm returns a valid form with up to so many inputs and terms.
func anyForm(r *rand.Rand, inputs, terms int) fit.Form {
	f := fit.Form{Inputs: r.IntN(inputs + 1)}
	for range r.IntN(terms + 1) {
		term := make([]int, f.Inputs)
		for k := range term {
			term[k] = r.IntN(4)
		}
		more := fit.Form{Inputs: f.Inputs, Terms: append(f.Terms[:len(f.Terms):len(f.Terms)], term)}
		if fit.CheckForm(more) == api.OK {
			f = more
		}
	}
	return f
}

// anyData returns up to so many points; their inputs are often equal, so that forms are often not told.
func anyData(r *rand.Rand, inputs, points int) []fit.Point {
	var data []fit.Point
	few := 2 + r.IntN(20)
	for range r.IntN(points + 1) {
		p := fit.Point{Y: anyNum(r)}
		for range inputs {
			x, _ := exact.Ratio(int64(r.IntN(few)-few/2), int64(1+r.IntN(2)))
			p.X = append(p.X, x)
		}
		data = append(data, p)
	}
	return data
}

// anyTold returns a form that is told by the data beside it, and more than once by most of them.
func anyTold(r *rand.Rand) (fit.Form, []fit.Point) {
	for {
		f := anyForm(r, 3, 6)
		data := anyData(r, f.Inputs, 12)
		if _, e := fit.Solve(f, data); e == api.OK && len(data) > 0 {
			return f, data
		}
	}
}

// with returns data with other readings.
func with(data []fit.Point, ys []exact.Num) []fit.Point {
	out := make([]fit.Point, len(data))
	for i, p := range data {
		out[i] = fit.Point{X: p.X, Y: ys[i]}
	}
	return out
}

func readings(data []fit.Point) []exact.Num {
	var ys []exact.Num
	for _, p := range data {
		ys = append(ys, p.Y)
	}
	return ys
}

// rat returns the number of the standard library that has the text of x.
func rat(x exact.Num) *big.Rat {
	r, _ := new(big.Rat).SetString(x.String())
	return r
}

// table returns the values of all terms at all points, as numbers of the standard library.
func table(f fit.Form, data []fit.Point) [][]*big.Rat {
	rows := make([][]*big.Rat, len(data))
	for i, p := range data {
		for _, term := range f.Terms {
			v := big.NewRat(1, 1)
			for k, exponent := range term {
				for range exponent {
					v.Mul(v, rat(p.X[k]))
				}
			}
			rows[i] = append(rows[i], v)
		}
	}
	return rows
}

// stairs brings rows to the form of stairs, each with a 1 where it begins and with 0 above and below it, and returns the columns in which they begin.
func stairs(rows [][]*big.Rat, columns int) []int {
	var begins []int
	for c := range columns {
		n := len(begins)
		for i := n; i < len(rows); i++ {
			if rows[i][c].Sign() != 0 {
				rows[n], rows[i] = rows[i], rows[n]
				reduce(rows, n, c)
				begins = append(begins, c)
				break
			}
		}
	}
	return begins
}

// reduce makes the element in the row n 1, and all others of its column 0.
func reduce(rows [][]*big.Rat, n, c int) {
	inverse := new(big.Rat).Inv(rows[n][c])
	for j := range rows[n] {
		rows[n][j] = new(big.Rat).Mul(rows[n][j], inverse)
	}
	for i := range rows {
		factor := rows[i][c]
		if i == n || factor.Sign() == 0 {
			continue
		}
		for j := range rows[i] {
			rows[i][j] = new(big.Rat).Sub(rows[i][j], new(big.Rat).Mul(factor, rows[n][j]))
		}
	}
}

// leastSquares solves a told form by way of the standard library's numbers.
func leastSquares(f fit.Form, data []fit.Point) []*big.Rat {
	values := table(f, data)
	n := len(f.Terms)
	rows := make([][]*big.Rat, n)
	for s := range n {
		for u := range n + 1 {
			sum := new(big.Rat)
			for i, p := range data {
				other := rat(p.Y)
				if u < n {
					other = values[i][u]
				}
				sum.Add(sum, new(big.Rat).Mul(values[i][s], other))
			}
			rows[s] = append(rows[s], sum)
		}
	}
	stairs(rows, n)
	var coefs []*big.Rat
	for _, row := range rows {
		coefs = append(coefs, row[n])
	}
	return coefs
}
