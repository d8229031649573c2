package fit_test

import (
	"math"
	"math/rand/v2"
	"slices"
	"testing"

	"venturi/api"
	"venturi/exact"
	"venturi/fit"
)

// P2.7
func TestGains(t *testing.T) {
	g, e := fit.Gains(powers(2), example(t))
	if len(g) != 2 {
		t.Fatal("Gains", g, e)
	}
	areNums(t, "the gains of the term 0", g[0], e, "5/6", "1/3", "-1/6")
	areNums(t, "the gains of the term 1", g[1], e, "-0.5", "0", "0.5")
	h, e := fit.Leverage(powers(2), example(t))
	areNums(t, "Leverage", h, e, "5/6", "1/3", "5/6")

	g, e = fit.Gains(powers(0), example(t))
	if len(g) != 0 || e != api.OK {
		t.Error("Gains of no terms", g, e)
	}
	h, e = fit.Leverage(powers(0), example(t))
	areNums(t, "Leverage of no terms", h, e, "0", "0", "0")
	h, e = fit.Leverage(powers(0), nil)
	areNums(t, "Leverage of nothing", h, e)
}

// P2.7: the gains are what the results of Solve and Value grow by.
func TestGainsGrow(t *testing.T) {
	r := rand.New(rand.NewPCG(2, 7))
	for range 60 {
		f, data := anyTold(r)
		gains, e := fit.Gains(f, data)
		leverage, d := fit.Leverage(f, data)
		if e != api.OK || d != api.OK || len(gains) != len(f.Terms) || len(leverage) != len(data) {
			t.Fatal("Gains, Leverage", gains, e, leverage, d)
		}
		old, _ := fit.Solve(f, data)
		for i, p := range data {
			ys := readings(data)
			ys[i] = ys[i].Add(exact.Whole(1))
			grown, _ := fit.Solve(f, with(data, ys))
			for s := range f.Terms {
				if len(gains[s]) != len(data) || gains[s][i].Cmp(grown.Coefs[s].Sub(old.Coefs[s])) != 0 {
					t.Fatalf("Gains of %v with %v: %v", f, data, gains)
				}
			}
			before, _ := fit.Value(f, old.Coefs, p.X)
			after, _ := fit.Value(f, grown.Coefs, p.X)
			if leverage[i].Cmp(after.Sub(before)) != 0 {
				t.Fatalf("Leverage of %v with %v: %v", f, data, leverage)
			}
		}
	}
}

// P2.8
func TestWithout(t *testing.T) {
	f, data := powers(2), example(t)
	for i, want := range [][2][]string{{{"2", "1"}, {"-1", "0", "0"}}, {{"1", "1.5"}, {"0", "0.5", "0"}}, {{"1", "2"}, {"0", "0", "-1"}}} {
		got, e := fit.Without(f, data, i)
		areNums(t, "the coefficients without a point", got.Coefs, e, want[0]...)
		areNums(t, "the residuals without a point", got.Residuals, e, want[1]...)
		isNum(t, "the sum of squares without a point", got.Squares, e, "0")
	}
	got, e := fit.Without(powers(0), data[:1], 0)
	areNums(t, "the residuals of no terms without the only point", got.Residuals, e, "1")
	isNum(t, "their sum of squares", got.Squares, e, "0")
	for _, i := range []int{-1, 3, math.MinInt, math.MaxInt} {
		got, e := fit.Without(f, data, i)
		isError(t, "Without a point that is not there", got, e, api.ErrRange)
		got, e = fit.Without(powers(5), data, i)
		isError(t, "Without a point that is not there, not told", got, e, api.ErrRange)
	}
	got, e = fit.Without(f, nil, 0)
	isError(t, "Without a point of none", got, e, api.ErrRange)
	for i := range 2 {
		got, e = fit.Without(f, data[:2], i)
		isError(t, "Without one of two points", got, e, api.ErrHidden)
	}
	got, e = fit.Without(powers(4), data, 1)
	isError(t, "Without a point of a form that is not told", got, e, api.ErrHidden)
	alone := at(t, []string{"0", "1"}, []string{"0", "3"}, []string{"2", "4"})
	got, e = fit.Without(f, alone, 2)
	isError(t, "Without the point that tells the slope", got, e, api.ErrHidden)
	got, e = fit.Without(f, alone, 0)
	areNums(t, "without one that does not", got.Residuals, e, "-2", "0", "0")
}

// P2.8: what is returned is that of Solve for the other points.
func TestWithoutIsSolve(t *testing.T) {
	r := rand.New(rand.NewPCG(2, 8))
	for range 60 {
		f, data := anyTold(r)
		for i, p := range data {
			others := slices.Concat(data[:i], data[i+1:])
			want, d := fit.Solve(f, others)
			got, e := fit.Without(f, data, i)
			if d != api.OK {
				isError(t, "Without a point", got, e, d)
				continue
			}
			v, _ := fit.Value(f, want.Coefs, p.X)
			residuals := slices.Insert(want.Residuals, i, p.Y.Sub(v))
			if e != api.OK || !sameNums(got.Coefs, want.Coefs) || !sameNums(got.Residuals, residuals) || got.Squares.Cmp(want.Squares) != 0 {
				t.Fatalf("Without %d of %v with %v: %v, error %d", i, f, data, got, e)
			}
		}
	}
}

// P2.9
func TestEnclosePredict(t *testing.T) {
	f, data, errors := powers(2), example(t), nums(t, "0.1", "0.1", "0.1")
	b, e := fit.Enclose(f, data, errors)
	if len(b) != 2 {
		t.Fatal("Enclose", b, e)
	}
	isBox(t, "the box of the term 0", b[0], e, "31/30", "1.3")
	isBox(t, "the box of the term 1", b[1], e, "1.4", "1.6")
	p, e := fit.Predict(f, data, errors, nums(t, "3"))
	isBox(t, "Predict", p, e, "163/30", "5.9")
	p, e = fit.Predict(f, data, nums(t, "0", "3", "0.5"), nums(t, "3"))
	isBox(t, "Predict with different errors", p, e, "4", "22/3")
	b, e = fit.Enclose(f, data, nums(t, "0", "3", "0.5"))
	isBox(t, "the box of the term 0 with different errors", b[0], e, "1/12", "2.25")
	isBox(t, "the box of the term 1 with different errors", b[1], e, "1.25", "1.75")
	p, e = fit.Predict(f, data, nums(t, "0", "0", "0"), nums(t, "3"))
	isBox(t, "Predict without errors", p, e, "17/3", "17/3")

	b, e = fit.Enclose(powers(0), data, errors)
	if len(b) != 0 || e != api.OK {
		t.Error("Enclose of no terms", b, e)
	}
	p, e = fit.Predict(powers(0), data, errors, nums(t, "3"))
	isBox(t, "Predict of no terms", p, e, "0", "0")
	p, e = fit.Predict(fit.Form{Terms: [][]int{{}}}, at(t, []string{"4"}), nums(t, "1"), nil)
	isBox(t, "Predict of no inputs", p, e, "3", "5")
}

// P2.9
func TestEncloseErrors(t *testing.T) {
	f, data, errors := powers(2), example(t), nums(t, "0.1", "0.1", "0.1")
	for _, l := range [][]string{nil, {"0.1", "0.1"}, {"0.1", "0.1", "0.1", "0.1"}, {"-0.1", "0.1", "0.1"}, {"0.1", "0.1", "-1/1000000000000000000000"}} {
		for _, f := range []fit.Form{f, powers(5)} {
			b, e := fit.Enclose(f, data, nums(t, l...))
			isError(t, "Enclose with bad errors", b, e, api.ErrArg)
			p, e := fit.Predict(f, data, nums(t, l...), nums(t, "3"))
			isError(t, "Predict with bad errors", p, e, api.ErrArg)
		}
	}
	for _, l := range [][]string{nil, {"3", "3"}} {
		for _, f := range []fit.Form{f, powers(5)} {
			p, e := fit.Predict(f, data, errors, nums(t, l...))
			isError(t, "Predict with other inputs", p, e, api.ErrArg)
		}
	}
	b, e := fit.Enclose(powers(1), nil, errors[:1])
	isError(t, "Enclose with an error of no point", b, e, api.ErrArg)
}

// P2.9: all readings within the errors are in the boxes, and some are at each end.
func TestEncloseIsLeast(t *testing.T) {
	r := rand.New(rand.NewPCG(2, 9))
	for range 40 {
		f, data := anyTold(r)
		errors := anyNums(r, len(data))
		for i, x := range errors {
			errors[i] = x.Abs()
		}
		x := anyNums(r, f.Inputs)
		boxes, e := fit.Enclose(f, data, errors)
		box, d := fit.Predict(f, data, errors, x)
		if e != api.OK || d != api.OK || len(boxes) != len(f.Terms) {
			t.Fatal("Enclose, Predict", e, d)
		}
		gains, _ := fit.Gains(f, data)
		for s, b := range boxes {
			reached(t, b, data, errors, gains[s], func(data []fit.Point) exact.Num {
				got, _ := fit.Solve(f, data)
				return got.Coefs[s]
			})
		}
		growth := make([]exact.Num, len(data))
		for i := range data {
			for s := range f.Terms {
				v, _ := fit.Term(f, s, x)
				growth[i] = growth[i].Add(v.Mul(gains[s][i]))
			}
		}
		reached(t, box, data, errors, growth, func(data []fit.Point) exact.Num {
			got, _ := fit.Solve(f, data)
			v, _ := fit.Value(f, got.Coefs, x)
			return v
		})
	}
}

// reached checks that a result has the ends of a box with the readings that make it as small and as great as possible, and is in the box with others.
func reached(t *testing.T, b exact.Box, data []fit.Point, errors, gains []exact.Num, of func([]fit.Point) exact.Num) {
	t.Helper()
	low, high, mixed := readings(data), readings(data), readings(data)
	for i, x := range errors {
		signed := x
		if gains[i].Sign() < 0 {
			signed = x.Neg()
		}
		low[i], high[i] = low[i].Sub(signed), high[i].Add(signed)
		part, _ := exact.Ratio(int64(i%3-1), int64(1+i%2))
		mixed[i] = mixed[i].Add(x.Mul(part))
	}
	if x := of(with(data, low)); x.Cmp(b.Lo()) != 0 {
		t.Errorf("the least result is %v instead of %v", b.Lo(), x)
	}
	if x := of(with(data, high)); x.Cmp(b.Hi()) != 0 {
		t.Errorf("the greatest result is %v instead of %v", b.Hi(), x)
	}
	if x := of(with(data, mixed)); !b.Has(x) {
		t.Errorf("from %v to %v there is no %v", b.Lo(), b.Hi(), x)
	}
}

// P2.10
func TestBetter(t *testing.T) {
	data := at(t, []string{"0", "0"}, []string{"1", "1"}, []string{"2", "2"}, []string{"3", "3"})
	for _, c := range []struct {
		a, b fit.Form
		want int
	}{{powers(2), powers(1), -1}, {powers(1), powers(2), 1}, {powers(2), powers(2), 0}, {powers(2), powers(3), 0}, {powers(0), powers(1), 1}, {powers(1), powers(0), -1}} {
		n, e := fit.Better(c.a, c.b, data)
		if n != c.want || e != api.OK {
			t.Errorf("Better of %v and %v: %d, error %d", c.a, c.b, n, e)
		}
	}
	// With all points the line has the smaller sum of squares: 7.2, and 8 for the mean.
	data = at(t, []string{"0", "0"}, []string{"1", "2"}, []string{"2", "-2"}, []string{"3", "0"})
	if n, e := fit.Better(powers(1), powers(2), data); n != -1 || e != api.OK {
		t.Error("Better of the mean and a line", n, e)
	}
}

// P2.10
func TestBetterErrors(t *testing.T) {
	data := example(t)
	for _, c := range [][2]int{{4, 1}, {1, 4}, {3, 1}, {1, 3}, {4, 4}} {
		n, e := fit.Better(powers(c[0]), powers(c[1]), data)
		isError(t, "Better of forms that are not told without a point", n, e, api.ErrHidden)
	}
	n, e := fit.Better(powers(2), powers(2), at(t, []string{"0", "1"}, []string{"0", "3"}, []string{"2", "4"}))
	isError(t, "Better with a point that alone tells the slope", n, e, api.ErrHidden)
	n, e = fit.Better(powers(2), powers(4), nil)
	if n != 0 || e != api.OK {
		t.Error("Better of no points", n, e)
	}
	for what, bad := range badForms() {
		for _, good := range []fit.Form{powers(2), powers(4)} {
			n, e := fit.Better(good, bad, data)
			isError(t, "Better with the second form: "+what, n, e, api.ErrArg)
			n, e = fit.Better(bad, good, data)
			isError(t, "Better with the first form: "+what, n, e, api.ErrArg)
		}
	}
	n, e = fit.Better(powers(2), fit.Form{Inputs: 7}, points(61, 1))
	isError(t, "Better of too many points, and the second form is bad", n, e, api.ErrLong)
	n, e = fit.Better(fit.Form{Inputs: 7}, powers(2), points(61, 1))
	isError(t, "Better of too many points, and the first form is bad", n, e, api.ErrArg)
	n, e = fit.Better(powers(4), fit.Form{Inputs: 2}, data)
	isError(t, "Better of forms with different inputs", n, e, api.ErrArg)
}

// P2.10: against the residuals of Without.
func TestBetterIsWithout(t *testing.T) {
	r := rand.New(rand.NewPCG(2, 10))
	left := func(f fit.Form, data []fit.Point) (exact.Num, api.Errno) {
		var sum exact.Num
		for i := range data {
			got, e := fit.Without(f, data, i)
			if e != api.OK {
				return exact.Num{}, e
			}
			sum = sum.Add(got.Residuals[i].Mul(got.Residuals[i]))
		}
		return sum, api.OK
	}
	seen := map[int]int{}
	for range 150 {
		a, data := anyTold(r)
		b := anyForm(r, 3, 4)
		b.Inputs = a.Inputs
		if fit.CheckForm(b) != api.OK {
			continue
		}
		n, e := fit.Better(a, b, data)
		x, d := left(a, data)
		y, c := left(b, data)
		if d != api.OK || c != api.OK {
			isError(t, "Better", n, e, api.ErrHidden)
			continue
		}
		seen[n]++
		if n != x.Cmp(y) || e != api.OK {
			t.Fatalf("Better of %v and %v with %v: %d, error %d, with the sums %v and %v", a, b, data, n, e, x, y)
		}
	}
	if seen[-1] < 5 || seen[1] < 5 {
		t.Error("too few comparisons", seen)
	}
}
