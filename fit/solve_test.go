package fit_test

import (
	"math/big"
	"math/rand/v2"
	"strconv"
	"testing"

	"venturi/api"
	"venturi/exact"
	"venturi/fit"
)

// example is the data of the chapter's first example.
func example(t *testing.T) []fit.Point {
	return at(t, []string{"0", "1"}, []string{"1", "3"}, []string{"2", "4"})
}

// result is what a function returns beside its error.
type result struct {
	value any
	e     api.Errno
}

// all calls every function with a form and data, with other arguments that are wrong for each form, so that the errors of the form and the data must come first.
func all(f fit.Form, data []fit.Point) map[string]result {
	got := map[string]result{}
	add := func(name string, value any, e api.Errno) { got[name] = result{value, e} }
	wrong := make([]exact.Num, api.MaxTerms)
	solved, e := fit.Solve(f, data)
	add("Solve", solved, e)
	hidden, e := fit.Hidden(f, data)
	add("Hidden", hidden, e)
	rank, e := fit.Rank(f, data)
	add("Rank", rank, e)
	squares, e := fit.Squares(f, wrong, data)
	add("Squares", squares, e)
	gains, e := fit.Gains(f, data)
	add("Gains", gains, e)
	leverage, e := fit.Leverage(f, data)
	add("Leverage", leverage, e)
	without, e := fit.Without(f, data, -1)
	add("Without", without, e)
	boxes, e := fit.Enclose(f, data, wrong)
	add("Enclose", boxes, e)
	box, e := fit.Predict(f, data, wrong, wrong)
	add("Predict", box, e)
	better, e := fit.Better(f, f, data)
	add("Better", better, e)
	return got
}

// points returns so many points with so many inputs, all of them 0.
func points(n, inputs int) []fit.Point {
	data := make([]fit.Point, n)
	for i := range data {
		data[i].X = make([]exact.Num, inputs)
	}
	return data
}

// P1, R1: the errors of the form and the data come first, in this order, and every result beside them is the zero value.
func TestFormAndDataErrors(t *testing.T) {
	f := powers(2)
	for what, bad := range badForms() {
		for _, data := range [][]fit.Point{nil, example(t), points(api.MaxPoints+1, 1), points(3, 2)} {
			for name, got := range all(bad, data) {
				isError(t, name+" of a bad form: "+what, got.value, got.e, api.ErrArg)
			}
		}
	}
	for _, data := range [][]fit.Point{points(api.MaxPoints+1, 1), points(api.MaxPoints+1, 2), points(1000, 0)} {
		for name, got := range all(f, data) {
			isError(t, name+" of too many points", got.value, got.e, api.ErrLong)
		}
	}
	for _, data := range [][]fit.Point{points(3, 2), points(3, 0), append(example(t), points(1, 0)...), append(example(t), points(1, 2)...)} {
		for name, got := range all(f, data) {
			isError(t, name+" of other inputs", got.value, got.e, api.ErrArg)
		}
	}
	for _, data := range [][]fit.Point{points(1, 1), append(points(2, 0), points(1, 1)...)} {
		for name, got := range all(fit.Form{Terms: [][]int{{}}}, data) {
			isError(t, name+" of inputs where there are none", got.value, got.e, api.ErrArg)
		}
	}
}

// P2.4
func TestSolve(t *testing.T) {
	got, e := fit.Solve(powers(2), example(t))
	areNums(t, "the coefficients", got.Coefs, e, "7/6", "1.5")
	areNums(t, "the residuals", got.Residuals, e, "-1/6", "1/3", "-1/6")
	isNum(t, "the sum of squares", got.Squares, e, "1/6")

	f := fit.Form{Inputs: 2, Terms: [][]int{{1, 1}, {0, 0}}}
	got, e = fit.Solve(f, at(t, []string{"1/2", "2/3", "1"}, []string{"-1/3", "3", "0"}, []string{"0.1", "-10/3", "1/5"}, []string{"0", "5", "-1"}))
	areNums(t, "the coefficients with two inputs", got.Coefs, e, "57/175", "23/175")
	areNums(t, "the residuals with two inputs", got.Residuals, e, "0.76", "34/175", "31/175", "-198/175")
	isNum(t, "the sum of squares with two inputs", got.Squares, e, "1686/875")

	got, e = fit.Solve(powers(2), example(t)[:2])
	areNums(t, "the coefficients of as many points as terms", got.Coefs, e, "1", "2")
	areNums(t, "their residuals", got.Residuals, e, "0", "0")
	isNum(t, "their sum of squares", got.Squares, e, "0")

	got, e = fit.Solve(powers(1), example(t))
	areNums(t, "the mean", got.Coefs, e, "8/3")
	got, e = fit.Solve(fit.Form{Terms: [][]int{{}}}, at(t, []string{"5"}, []string{"8"}))
	areNums(t, "the mean without inputs", got.Coefs, e, "6.5")

	got, e = fit.Solve(fit.Form{Inputs: 1}, example(t))
	areNums(t, "the coefficients of no terms", got.Coefs, e)
	areNums(t, "the residuals of no terms", got.Residuals, e, "1", "3", "4")
	isNum(t, "the sum of squares of no terms", got.Squares, e, "26")
	got, e = fit.Solve(fit.Form{Inputs: 1}, nil)
	areNums(t, "the residuals of nothing", got.Residuals, e)
	isNum(t, "the sum of squares of nothing", got.Squares, e, "0")
}

// P2.4
func TestSolveHidden(t *testing.T) {
	for _, c := range []struct {
		f    fit.Form
		data []fit.Point
	}{
		{powers(1), nil},
		{powers(2), example(t)[:1]},
		{powers(4), example(t)},
		{powers(2), at(t, []string{"2", "1"}, []string{"2", "3"}, []string{"2", "4"})},
		{powers(3), at(t, []string{"0", "1"}, []string{"1", "3"}, []string{"0", "4"}, []string{"1", "4"})},
		{fit.Form{Inputs: 1, Terms: [][]int{{1}}}, at(t, []string{"0", "1"}, []string{"0", "3"})},
	} {
		got, e := fit.Solve(c.f, c.data)
		isError(t, "Solve of a form that is not told", got, e, api.ErrHidden)
		gains, e := fit.Gains(c.f, c.data)
		isError(t, "Gains of a form that is not told", gains, e, api.ErrHidden)
		leverage, e := fit.Leverage(c.f, c.data)
		isError(t, "Leverage of a form that is not told", leverage, e, api.ErrHidden)
		errors := make([]exact.Num, len(c.data))
		boxes, e := fit.Enclose(c.f, c.data, errors)
		isError(t, "Enclose of a form that is not told", boxes, e, api.ErrHidden)
		box, e := fit.Predict(c.f, c.data, errors, make([]exact.Num, c.f.Inputs))
		isError(t, "Predict of a form that is not told", box, e, api.ErrHidden)
	}
}

// P2.4: with as many points and terms as there may be.
func TestSolveMost(t *testing.T) {
	r := rand.New(rand.NewPCG(4, 4))
	f, _ := fit.Full(6, 2)
	coefs := anyNums(r, len(f.Terms))
	var data []fit.Point
	for range api.MaxPoints {
		p := fit.Point{X: anyNums(r, 6)}
		p.Y, _ = fit.Value(f, coefs, p.X)
		data = append(data, p)
	}
	got, e := fit.Solve(f, data)
	if e != api.OK || !sameNums(got.Coefs, coefs) || got.Squares.Sign() != 0 {
		t.Error("the coefficients of the polynomial are not found", e, got.Coefs, coefs)
	}
	n, e := fit.Rank(f, data)
	if n != api.MaxMonomials || e != api.OK {
		t.Error("Rank", n, e)
	}
	data[7].Y = data[7].Y.Add(exact.Whole(1))
	got, e = fit.Solve(f, data)
	if want := leastSquares(f, data); e != api.OK || !isRats(got.Coefs, want) {
		t.Error("Solve", e, got.Coefs, want)
	}
}

// isRats compares numbers with those of the standard library.
func isRats(l []exact.Num, want []*big.Rat) bool {
	if len(l) != len(want) {
		return false
	}
	for i, x := range l {
		if rat(x).Cmp(want[i]) != 0 {
			return false
		}
	}
	return true
}

// P2.4, P2.5, P2.6: against the numbers of the standard library.
func TestAgainstLibrary(t *testing.T) {
	r := rand.New(rand.NewPCG(2, 5))
	told := 0
	for range 600 {
		f := anyForm(r, 3, 6)
		data := anyData(r, f.Inputs, 9)
		rows := table(f, data)
		begins := stairs(rows, len(f.Terms))
		n, e := fit.Rank(f, data)
		if n != len(begins) || e != api.OK {
			t.Fatalf("Rank of %v with %v: %d, error %d, instead of %d", f, data, n, e, len(begins))
		}
		got, e := fit.Solve(f, data)
		hidden, d := fit.Hidden(f, data)
		if len(begins) == len(f.Terms) {
			told++
			isError(t, "Hidden of a form that is told", hidden, d, api.ErrTold)
			if want := leastSquares(f, data); e != api.OK || !isRats(got.Coefs, want) {
				t.Fatalf("Solve of %v with %v: %v, error %d, instead of %v", f, data, got.Coefs, e, want)
			}
			continue
		}
		isError(t, "Solve of a form that is not told", got, e, api.ErrHidden)
		if want := firstHidden(rows, begins, len(f.Terms)); d != api.OK || !isRats(hidden, want) {
			t.Fatalf("Hidden of %v with %v: %v, error %d, instead of %v", f, data, hidden, d, want)
		}
	}
	if told < 100 || told > 500 {
		t.Error("of 600 forms were told:", told)
	}
}

// firstHidden reads from stairs the coefficients of the first term that does not begin one.
func firstHidden(rows [][]*big.Rat, begins []int, terms int) []*big.Rat {
	first := len(begins)
	for n, c := range begins {
		if n != c {
			first = n
			break
		}
	}
	coefs := make([]*big.Rat, terms)
	for c := range coefs {
		coefs[c] = new(big.Rat)
		if c < first {
			coefs[c].Neg(rows[c][first])
		}
	}
	coefs[first].SetInt64(1)
	return coefs
}

// P2.5
func TestHiddenRank(t *testing.T) {
	data := at(t, []string{"0", "1"}, []string{"1", "3"}, []string{"0", "4"})
	for _, c := range []struct {
		what string
		f    fit.Form
		data []fit.Point
		rank int
		want []string
	}{
		{"the example", powers(3), data, 2, []string{"0", "-1", "1"}},
		{"more terms", powers(5), data, 2, []string{"0", "-1", "1", "0", "0"}},
		{"the terms in another order", fit.Form{Inputs: 1, Terms: [][]int{{2}, {1}, {0}}}, data, 2, []string{"-1", "1", "0"}},
		{"no data", powers(3), nil, 0, []string{"1", "0", "0"}},
		{"one point", powers(3), at(t, []string{"1/2", "7"}), 1, []string{"-0.5", "1", "0"}},
		{"0 alone", fit.Form{Inputs: 1, Terms: [][]int{{3}, {0}, {1}}}, at(t, []string{"0", "7"}), 1, []string{"1", "0", "0"}},
		{"three points", powers(4), at(t, []string{"1", "7"}, []string{"2", "7"}, []string{"3", "7"}), 3, []string{"-6", "11", "-6", "1"}},
		{"fractions", powers(3), at(t, []string{"1/3", "0"}, []string{"-1/2", "0"}), 2, []string{"-1/6", "1/6", "1"}},
		{"one more that is told later", fit.Form{Inputs: 2, Terms: [][]int{{0, 0}, {1, 0}, {0, 1}}}, at(t, []string{"2", "0", "0"}, []string{"2", "1", "0"}, []string{"2", "2", "5"}), 2, []string{"-2", "1", "0"}},
	} {
		h, e := fit.Hidden(c.f, c.data)
		areNums(t, "Hidden of "+c.what, h, e, c.want...)
		n, e := fit.Rank(c.f, c.data)
		if n != c.rank || e != api.OK {
			t.Errorf("Rank of %s: %d, error %d", c.what, n, e)
		}
	}
	for n := range 3 {
		h, e := fit.Hidden(powers(n), data)
		isError(t, "Hidden of a form that is told: "+strconv.Itoa(n), h, e, api.ErrTold)
		rank, e := fit.Rank(powers(n), data)
		if rank != n || e != api.OK {
			t.Errorf("Rank of %d terms: %d, error %d", n, rank, e)
		}
	}
	h, e := fit.Hidden(fit.Form{Inputs: 1}, nil)
	isError(t, "Hidden of no terms and no data", h, e, api.ErrTold)
}

// P2.5: what Hidden returns is 0 at all points.
func TestHiddenIsNothing(t *testing.T) {
	r := rand.New(rand.NewPCG(5, 2))
	for range 300 {
		f := anyForm(r, 3, 8)
		data := anyData(r, f.Inputs, 6)
		h, e := fit.Hidden(f, data)
		if e == api.ErrTold {
			continue
		}
		for _, p := range data {
			v, d := fit.Value(f, h, p.X)
			if e != api.OK || d != api.OK || v.Sign() != 0 {
				t.Fatalf("Hidden of %v with %v: %v, errors %d and %d; a value is %v", f, data, h, e, d, v)
			}
		}
	}
}

// P2.6
func TestSquares(t *testing.T) {
	x, e := fit.Squares(powers(2), nums(t, "1", "1"), example(t))
	isNum(t, "Squares", x, e, "2")
	x, e = fit.Squares(powers(2), nums(t, "7/6", "3/2"), example(t))
	isNum(t, "Squares of the best coefficients", x, e, "1/6")
	x, e = fit.Squares(powers(4), nums(t, "0", "0", "-1/2", "0"), example(t))
	isNum(t, "Squares of a form that is not told", x, e, "49.25")
	x, e = fit.Squares(powers(2), nums(t, "1", "1"), nil)
	isNum(t, "Squares of no points", x, e, "0")
	x, e = fit.Squares(powers(0), nil, example(t))
	isNum(t, "Squares of no terms", x, e, "26")
	for _, l := range [][]string{nil, {"1"}, {"1", "1", "1"}} {
		x, e := fit.Squares(powers(2), nums(t, l...), example(t))
		isError(t, "Squares with other coefficients", x, e, api.ErrArg)
	}
}
