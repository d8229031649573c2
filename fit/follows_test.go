package fit_test

import (
	"math/rand/v2"
	"testing"

	"venturi/api"
	"venturi/exact"
	"venturi/fit"
)

// solved returns what Solve returns for a form that is told.
func solved(t *testing.T, f fit.Form, data []fit.Point) fit.Fit {
	t.Helper()
	got, e := fit.Solve(f, data)
	if e != api.OK {
		t.Fatalf("Solve of %v with %v: error %d", f, data, e)
	}
	return got
}

// P2.11
func TestNothingIsLess(t *testing.T) {
	r := rand.New(rand.NewPCG(2, 11))
	for range 100 {
		f, data := anyTold(r)
		got := solved(t, f, data)
		squares, e := fit.Squares(f, got.Coefs, data)
		if e != api.OK || squares.Cmp(got.Squares) != 0 {
			t.Fatalf("Squares of %v with %v: %v, error %d, instead of %v", f, data, squares, e, got.Squares)
		}
		for i, p := range data {
			v, _ := fit.Value(f, got.Coefs, p.X)
			if got.Residuals[i].Cmp(p.Y.Sub(v)) != 0 {
				t.Fatalf("a residual of %v with %v: %v", f, data, got.Residuals[i])
			}
		}
		for s := range f.Terms {
			var sum exact.Num
			for i, p := range data {
				v, _ := fit.Term(f, s, p.X)
				sum = sum.Add(v.Mul(got.Residuals[i]))
			}
			if sum.Sign() != 0 {
				t.Fatalf("the residuals of %v with %v are not at right angles to the term %d: %v", f, data, s, sum)
			}
		}
		other := anyNums(r, len(f.Terms))
		for s := range other {
			other[s] = got.Coefs[s].Add(other[s].Mul(num(t, "0.001")))
		}
		more, _ := fit.Squares(f, other, data)
		if c := more.Cmp(got.Squares); c < 0 || c == 0 && !sameNums(other, got.Coefs) {
			t.Fatalf("the sum of squares of %v with %v is not the least one: %v, %v", f, data, got.Squares, more)
		}
	}
}

// P2.12
func TestReadings(t *testing.T) {
	r := rand.New(rand.NewPCG(2, 12))
	for range 60 {
		f, data := anyTold(r)
		coefs := anyNums(r, len(f.Terms))
		errors, wrong := anyNums(r, len(data)), make([]exact.Num, len(data))
		for i, p := range data {
			v, _ := fit.Value(f, coefs, p.X)
			data[i].Y = v
			part, _ := exact.Ratio(int64(r.IntN(5)-2), 2)
			wrong[i] = v.Add(part.Mul(errors[i]))
			errors[i] = errors[i].Abs()
		}
		got := solved(t, f, data)
		if !sameNums(got.Coefs, coefs) || !sameNums(got.Residuals, make([]exact.Num, len(data))) || got.Squares.Sign() != 0 {
			t.Fatalf("Solve of %v with %v: %v", f, data, got)
		}
		boxes, e := fit.Enclose(f, with(data, wrong), errors)
		for s, b := range boxes {
			if !b.Has(coefs[s]) || e != api.OK {
				t.Fatalf("Enclose of %v with %v: error %d, from %v to %v there is no %v", f, data, e, b.Lo(), b.Hi(), coefs[s])
			}
		}
		x := anyNums(r, f.Inputs)
		b, e := fit.Predict(f, with(data, wrong), errors, x)
		if v, _ := fit.Value(f, coefs, x); !b.Has(v) || e != api.OK {
			t.Fatalf("Predict of %v with %v: error %d, from %v to %v there is no %v", f, data, e, b.Lo(), b.Hi(), v)
		}
		linear(t, r, f, data)
	}
}

// linear checks that the coefficients for sums of readings are the sums.
func linear(t *testing.T, r *rand.Rand, f fit.Form, data []fit.Point) {
	t.Helper()
	a, b := anyNums(r, len(data)), anyNums(r, len(data))
	sums := make([]exact.Num, len(data))
	for i := range sums {
		sums[i] = a[i].Add(b[i])
	}
	x, y, z := solved(t, f, with(data, a)), solved(t, f, with(data, b)), solved(t, f, with(data, sums))
	for s := range f.Terms {
		if x.Coefs[s].Add(y.Coefs[s]).Cmp(z.Coefs[s]) != 0 {
			t.Fatalf("Solve of %v with %v is not linear", f, data)
		}
	}
}

// P2.13
func TestLeverages(t *testing.T) {
	r := rand.New(rand.NewPCG(2, 13))
	one, full := exact.Whole(1), 0
	for range 100 {
		f, data := anyTold(r)
		got := solved(t, f, data)
		leverages, e := fit.Leverage(f, data)
		sum, d := exact.Sum(leverages)
		if e != api.OK || d != api.OK || sum.Cmp(exact.Whole(int64(len(f.Terms)))) != 0 {
			t.Fatalf("the leverages of %v with %v: %v, error %d", f, data, leverages, e)
		}
		for i, h := range leverages {
			if h.Sign() < 0 || h.Cmp(one) > 0 {
				t.Fatalf("a leverage of %v with %v: %v", f, data, h)
			}
			left, e := fit.Without(f, data, i)
			if h.Cmp(one) == 0 {
				full++
				isError(t, "Without a point with the leverage 1", left, e, api.ErrHidden)
				continue
			}
			if want, _ := got.Residuals[i].Div(one.Sub(h)); e != api.OK || left.Residuals[i].Cmp(want) != 0 {
				t.Fatalf("the residual that is left out of %v with %v: error %d, %v instead of %v", f, data, e, left.Residuals, want)
			}
		}
	}
	if full == 0 {
		t.Error("no leverage was 1")
	}
}

// P2.14
func TestOrderOfPoints(t *testing.T) {
	r := rand.New(rand.NewPCG(2, 14))
	for range 40 {
		f, data := anyTold(r)
		order := r.Perm(len(data))
		moved := make([]fit.Point, len(data))
		for i, from := range order {
			moved[i] = data[from]
		}
		a, b := solved(t, f, data), solved(t, f, moved)
		if !sameNums(a.Coefs, b.Coefs) || a.Squares.Cmp(b.Squares) != 0 {
			t.Fatalf("the order of the points of %v with %v matters: %v, %v", f, data, a, b)
		}
		for i, from := range order {
			if b.Residuals[i].Cmp(a.Residuals[from]) != 0 {
				t.Fatalf("the residuals of %v with %v do not have the order of the points: %v, %v", f, data, a, b)
			}
		}
	}
}

// P2.14
func TestOrderOfTerms(t *testing.T) {
	r := rand.New(rand.NewPCG(14, 2))
	for range 40 {
		f, data := anyTold(r)
		order := r.Perm(len(f.Terms))
		g := fit.Form{Inputs: f.Inputs, Terms: make([][]int, len(f.Terms))}
		for s, from := range order {
			g.Terms[s] = f.Terms[from]
		}
		a, b := solved(t, f, data), solved(t, g, data)
		for s, from := range order {
			if b.Coefs[s].Cmp(a.Coefs[from]) != 0 {
				t.Fatalf("the coefficients of %v with %v do not have the order of the terms: %v, %v", f, data, a, b)
			}
		}
	}
}

// P2.14
func TestScale(t *testing.T) {
	r := rand.New(rand.NewPCG(14, 14))
	scale := num(t, "-7/3")
	for range 40 {
		f, data := anyTold(r)
		if f.Inputs == 0 {
			continue
		}
		k := r.IntN(f.Inputs)
		scaled := make([]fit.Point, len(data))
		for i, p := range data {
			scaled[i] = fit.Point{X: append([]exact.Num(nil), p.X...), Y: p.Y}
			scaled[i].X[k] = p.X[k].Mul(scale)
		}
		a, b := solved(t, f, data), solved(t, f, scaled)
		for s, term := range f.Terms {
			power, _ := scale.Pow(term[k])
			if b.Coefs[s].Mul(power).Cmp(a.Coefs[s]) != 0 {
				t.Fatalf("with a scaled input the coefficients of %v with %v are %v instead of %v", f, data, b.Coefs, a.Coefs)
			}
		}
		if !sameNums(a.Residuals, b.Residuals) {
			t.Fatalf("with a scaled input the residuals of %v with %v are %v instead of %v", f, data, b.Residuals, a.Residuals)
		}
	}
}

// P2.15
func TestMoreTerms(t *testing.T) {
	r := rand.New(rand.NewPCG(2, 15))
	for range 40 {
		f, data := anyTold(r)
		before := solved(t, fit.Form{Inputs: f.Inputs}, data).Squares
		for n := range f.Terms {
			now := solved(t, fit.Form{Inputs: f.Inputs, Terms: f.Terms[:n+1]}, data).Squares
			if now.Cmp(before) > 0 {
				t.Fatalf("the sum of squares of %v with %v grows with the term %d: %v, %v", f, data, n, before, now)
			}
			before = now
		}
	}
}
