package exact_test

import (
	"math"
	"math/rand/v2"
	"slices"
	"testing"

	"venturi/api"
	"venturi/exact"
)

// box returns the box between two numerals.
func box(t *testing.T, lo, hi string) exact.Box {
	t.Helper()
	b, e := exact.Span(num(t, lo), num(t, hi))
	if e != api.OK {
		t.Fatalf("Span of %s and %s: error %d", lo, hi, e)
	}
	return b
}

// isBox compares a result without error with the texts of its ends.
func isBox(t *testing.T, what string, b exact.Box, e api.Errno, lo, hi string) {
	t.Helper()
	if e != api.OK || b.Lo().String() != lo || b.Hi().String() != hi {
		t.Errorf("%s: from %v to %v, error %d, instead of from %s to %s", what, b.Lo(), b.Hi(), e, lo, hi)
	}
}

// anyBox returns a box, often one with 0 inside or at an end, or a single number.
func anyBox(t *testing.T, r *rand.Rand) exact.Box {
	t.Helper()
	x, y := anyNum(t, r, 4), anyNum(t, r, 4)
	switch r.IntN(6) {
	case 0:
		y = x
	case 1:
		y = exact.Num{}
	}
	return exact.Point(x).Hull(exact.Point(y))
}

// between returns a number of a box: an end, 0 if b has it, or another one.
func between(r *rand.Rand, b exact.Box) exact.Num {
	switch r.IntN(5) {
	case 0:
		return b.Lo()
	case 1:
		return b.Hi()
	case 2:
		if b.Has(exact.Num{}) {
			return exact.Num{}
		}
	}
	part, _ := exact.Ratio(int64(r.IntN(101)), 100)
	return b.Lo().Add(b.Width().Mul(part))
}

// P1.7
func TestSpan(t *testing.T) {
	isBox(t, "the zero value", exact.Box{}, api.OK, "0", "0")
	isBox(t, "Point", exact.Point(num(t, "-1/3")), api.OK, "-1/3", "-1/3")
	b, e := exact.Span(num(t, "-1"), num(t, "2"))
	isBox(t, "Span", b, e, "-1", "2")
	isNum(t, "Mid", b.Mid(), api.OK, "0.5")
	isNum(t, "Width", b.Width(), api.OK, "3")
	b, e = exact.Span(num(t, "4/2"), num(t, "2"))
	isBox(t, "Span of a single number", b, e, "2", "2")
	isNum(t, "Mid of a single number", b.Mid(), api.OK, "2")
	isNum(t, "Width of a single number", b.Width(), api.OK, "0")
	b, e = exact.Span(num(t, "2"), num(t, "1.999"))
	isError(t, "Span of ends in the wrong order", b, e, api.ErrOrder)
}

// P1.8
func TestHasInsideEqual(t *testing.T) {
	b := box(t, "-1", "2")
	for s, want := range map[string]bool{"-1": true, "2": true, "0": true, "1/3": true, "-1.0001": false, "2.0001": false} {
		if b.Has(num(t, s)) != want {
			t.Error("Has", s)
		}
	}
	for _, c := range []struct {
		lo, hi        string
		inside, equal bool
	}{{"-1", "2", true, true}, {"-2/2", "4/2", true, true}, {"-1", "1", true, false}, {"0", "2", true, false}, {"0", "0", true, false}, {"-2", "2", false, false}, {"-1", "3", false, false}, {"3", "4", false, false}, {"-5", "5", false, false}} {
		if o := box(t, c.lo, c.hi); o.Inside(b) != c.inside || o.Equal(b) != c.equal || b.Equal(o) != c.equal {
			t.Error("Inside, Equal", c)
		}
	}
}

// P1.9
func TestBoxArithmetic(t *testing.T) {
	a, b := box(t, "-1", "2"), box(t, "3", "4")
	isBox(t, "Add", a.Add(b), api.OK, "2", "6")
	isBox(t, "Sub", a.Sub(b), api.OK, "-5", "-1")
	isBox(t, "Mul", a.Mul(b), api.OK, "-4", "8")
	isBox(t, "Neg", a.Neg(), api.OK, "-2", "1")
	for _, c := range [][6]string{{"3", "4", "5", "7", "15", "28"}, {"-4", "-3", "5", "7", "-28", "-15"}, {"-4", "-3", "-7", "-5", "15", "28"}, {"-1", "2", "-3", "5", "-6", "10"}, {"-2", "1", "-5", "3", "-6", "10"}, {"-1", "2", "-4", "-3", "-8", "4"}, {"0", "0", "-3", "5", "0", "0"}, {"0", "1", "-3", "0", "-3", "0"}} {
		isBox(t, "Mul", box(t, c[0], c[1]).Mul(box(t, c[2], c[3])), api.OK, c[4], c[5])
	}
	for _, c := range [][4]string{{"-1", "2", "0", "2"}, {"-3", "2", "0", "3"}, {"1", "2", "1", "2"}, {"-3", "-2", "2", "3"}, {"0", "2", "0", "2"}, {"-2", "0", "0", "2"}, {"0", "0", "0", "0"}} {
		isBox(t, "Abs", box(t, c[0], c[1]).Abs(), api.OK, c[2], c[3])
	}
}

// P1.9
func TestBoxDiv(t *testing.T) {
	for _, c := range [][6]string{{"-1", "2", "3", "4", "-1/3", "2/3"}, {"1", "2", "-4", "-3", "-2/3", "-0.25"}, {"-2", "-1", "-4", "-3", "0.25", "2/3"}, {"0", "0", "3", "4", "0", "0"}, {"1", "1", "4", "4", "0.25", "0.25"}} {
		q, e := box(t, c[0], c[1]).Div(box(t, c[2], c[3]))
		isBox(t, "Div", q, e, c[4], c[5])
	}
	for _, c := range []exact.Box{box(t, "-1", "1"), box(t, "0", "1"), box(t, "-1", "0"), {}} {
		q, e := box(t, "1", "2").Div(c)
		isError(t, "Div by a box that has 0", q, e, api.ErrZero)
	}
}

// P1.9
func TestBoxPow(t *testing.T) {
	for _, c := range []struct {
		lo, hi    string
		n         int
		low, high string
	}{{"-1", "2", 0, "1", "1"}, {"-1", "2", 1, "-1", "2"}, {"-1", "2", 2, "0", "4"}, {"-1", "2", 3, "-1", "8"}, {"-3", "2", 2, "0", "9"}, {"-3", "-2", 2, "4", "9"}, {"-3", "-2", 3, "-27", "-8"}, {"2", "3", 2, "4", "9"}, {"0", "0", 0, "1", "1"}, {"-1", "1", 64, "0", "1"}, {"-1", "1", 63, "-1", "1"}} {
		p, e := box(t, c.lo, c.hi).Pow(c.n)
		isBox(t, "Pow", p, e, c.low, c.high)
	}
	for _, n := range []int{-1, api.MaxPower + 1, math.MinInt, math.MaxInt} {
		p, e := box(t, "1", "2").Pow(n)
		isError(t, "Pow", p, e, api.ErrRange)
	}
}

// P1.10
func TestRoot(t *testing.T) {
	for _, c := range [][5]string{{"2", "2", "0.1", "1.4", "1.5"}, {"4", "9", "1", "2", "3"}, {"3", "10", "1", "1", "4"}, {"0", "0", "1", "0", "0"}, {"0", "2", "1", "0", "2"}, {"0.01", "0.01", "1", "0", "1"}, {"4/9", "4/9", "1/3", "2/3", "2/3"}, {"1/2", "1/2", "1/3", "2/3", "1"}, {"8", "8", "5", "0", "5"}, {"25", "25", "5", "5", "5"}, {"24.999", "25.001", "5", "0", "10"}, {"2", "2", "0.00000000000000000001", "1.4142135623730950488", "1.41421356237309504881"}, {"340282366920938463463374607431768211455", "340282366920938463463374607431768211456", "1", "18446744073709551615", "18446744073709551616"}} {
		r, e := box(t, c[0], c[1]).Root(num(t, c[2]))
		isBox(t, "Root of "+c[0], r, e, c[3], c[4])
	}
	for _, grid := range []string{"0", "-1"} {
		for _, lo := range []string{"-1", "1"} {
			r, e := box(t, lo, "2").Root(num(t, grid))
			isError(t, "Root on "+grid, r, e, api.ErrRange)
		}
	}
	for _, b := range []exact.Box{box(t, "-1", "2"), box(t, "-0.001", "0"), box(t, "-3", "-2")} {
		r, e := b.Root(num(t, "1"))
		isError(t, "Root of a number below 0", r, e, api.ErrMinus)
	}
}

// P1.11
func TestHullMeetOut(t *testing.T) {
	a := box(t, "-1", "2")
	for _, c := range []struct {
		lo, hi     string
		hull, meet [2]string
	}{{"3", "4", [2]string{"-1", "4"}, [2]string{}}, {"-5", "-2", [2]string{"-5", "2"}, [2]string{}}, {"1", "9", [2]string{"-1", "9"}, [2]string{"1", "2"}}, {"-9", "0", [2]string{"-9", "2"}, [2]string{"-1", "0"}}, {"2", "3", [2]string{"-1", "3"}, [2]string{"2", "2"}}, {"-3", "-1", [2]string{"-3", "2"}, [2]string{"-1", "-1"}}, {"0", "1", [2]string{"-1", "2"}, [2]string{"0", "1"}}, {"-9", "9", [2]string{"-9", "9"}, [2]string{"-1", "2"}}} {
		b := box(t, c.lo, c.hi)
		isBox(t, "Hull", a.Hull(b), api.OK, c.hull[0], c.hull[1])
		m, ok := a.Meet(b)
		if ok != (c.meet[0] != "") {
			t.Error("Meet", c, ok)
		} else if ok {
			isBox(t, "Meet", m, api.OK, c.meet[0], c.meet[1])
		} else {
			isBox(t, "Meet of none", m, api.OK, "0", "0")
		}
	}
	for _, c := range [][5]string{{"-0.3", "1.1", "0.5", "-0.5", "1.5"}, {"1", "2", "0.5", "1", "2"}, {"-1/3", "1/3", "1/3", "-1/3", "1/3"}, {"0.1", "0.2", "1", "0", "1"}, {"-0.2", "-0.1", "1", "-1", "0"}, {"0.4", "0.4", "1", "0", "1"}, {"5", "6", "7", "0", "7"}} {
		o, e := box(t, c[0], c[1]).Out(num(t, c[2]))
		isBox(t, "Out", o, e, c[3], c[4])
	}
	for _, grid := range []string{"0", "-0.5"} {
		o, e := a.Out(num(t, grid))
		isError(t, "Out on "+grid, o, e, api.ErrRange)
	}
}

// P1.11
func TestParts(t *testing.T) {
	l, e := box(t, "0", "1").Parts(3)
	if len(l) != 3 {
		t.Fatal("Parts", l, e)
	}
	isBox(t, "the first part", l[0], e, "0", "1/3")
	isBox(t, "the second part", l[1], e, "1/3", "2/3")
	isBox(t, "the third part", l[2], e, "2/3", "1")
	l, e = box(t, "-1", "2").Parts(1)
	if len(l) != 1 {
		t.Fatal("Parts", l, e)
	}
	isBox(t, "the whole", l[0], e, "-1", "2")
	l, e = box(t, "-1/3", "5").Parts(api.MaxParts)
	if e != api.OK || len(l) != api.MaxParts || l[0].Lo().String() != "-1/3" || l[api.MaxParts-1].Hi().String() != "5" {
		t.Fatal("Parts", l, e)
	}
	for i := 1; i < len(l); i++ {
		if l[i].Lo().Cmp(l[i-1].Hi()) != 0 || l[i].Width().Cmp(l[0].Width()) != 0 {
			t.Error("a part", i, l[i])
		}
	}
	l, e = exact.Point(num(t, "7")).Parts(4)
	if len(l) != 4 || slices.ContainsFunc(l, func(b exact.Box) bool { return !b.Equal(exact.Point(num(t, "7"))) }) {
		t.Error("parts of a single number", l, e)
	}
	for _, n := range []int{0, -1, api.MaxParts + 1, math.MinInt, math.MaxInt} {
		l, e := box(t, "0", "1").Parts(n)
		isError(t, "Parts", l, e, api.ErrRange)
	}
}

// P1.12
func TestPoly(t *testing.T) {
	c := []exact.Num{num(t, "0"), num(t, "-2"), num(t, "1")}
	p, e := exact.Poly(c, box(t, "0", "2"), 1)
	isBox(t, "Poly", p, e, "-4", "0")
	p, e = exact.Poly(c, box(t, "0", "2"), 2)
	isBox(t, "Poly of two parts", p, e, "-2", "0")
	p, e = exact.Poly(c, exact.Point(num(t, "1/3")), 5)
	isBox(t, "Poly of a single number", p, e, "-5/9", "-5/9")
	p, e = exact.Poly(nil, box(t, "-3", "2"), 2)
	isBox(t, "Poly of no coefficients", p, e, "0", "0")
	p, e = exact.Poly(c[1:2], box(t, "-3", "2"), 3)
	isBox(t, "Poly of one coefficient", p, e, "-2", "-2")
	p, e = exact.Poly([]exact.Num{num(t, "5"), num(t, "1"), num(t, "1")}, box(t, "-1", "1"), 1)
	isBox(t, "Poly from the last coefficient on", p, e, "3", "7") // (x + 1) * x + 5
	full := make([]exact.Num, api.MaxTerms)
	full[api.MaxTerms-1] = num(t, "1")
	p, e = exact.Poly(full, box(t, "-1", "1"), api.MaxParts)
	isBox(t, "Poly of all coefficients and parts", p, e, "-1", "1")

	long := make([]exact.Num, api.MaxTerms+1)
	p, e = exact.Poly(long, box(t, "0", "1"), 0)
	isError(t, "Poly of too many coefficients", p, e, api.ErrLong)
	for _, n := range []int{0, -1, api.MaxParts + 1, math.MinInt, math.MaxInt} {
		p, e = exact.Poly(full, box(t, "0", "1"), n)
		isError(t, "Poly of wrong parts", p, e, api.ErrRange)
		p, e = exact.Poly(nil, box(t, "0", "1"), n)
		isError(t, "Poly of no coefficients and wrong parts", p, e, api.ErrRange)
	}
}

// operation is one of P1.9 with a number and a box, of two arguments or, with one alone, of the first one; the error is that of Div.
type operation struct {
	name   string
	ofNum  func(x, y exact.Num) (exact.Num, api.Errno)
	ofBox  func(b, c exact.Box) (exact.Box, api.Errno)
	single bool
}

func operations() []operation {
	list := []operation{
		{"Add", func(x, y exact.Num) (exact.Num, api.Errno) { return x.Add(y), 0 }, func(b, c exact.Box) (exact.Box, api.Errno) { return b.Add(c), 0 }, false},
		{"Sub", func(x, y exact.Num) (exact.Num, api.Errno) { return x.Sub(y), 0 }, func(b, c exact.Box) (exact.Box, api.Errno) { return b.Sub(c), 0 }, false},
		{"Mul", func(x, y exact.Num) (exact.Num, api.Errno) { return x.Mul(y), 0 }, func(b, c exact.Box) (exact.Box, api.Errno) { return b.Mul(c), 0 }, false},
		{"Div", exact.Num.Div, exact.Box.Div, false},
		{"Neg", func(x, y exact.Num) (exact.Num, api.Errno) { return x.Neg(), 0 }, func(b, c exact.Box) (exact.Box, api.Errno) { return b.Neg(), 0 }, true},
		{"Abs", func(x, y exact.Num) (exact.Num, api.Errno) { return x.Abs(), 0 }, func(b, c exact.Box) (exact.Box, api.Errno) { return b.Abs(), 0 }, true},
	}
	for n := range 6 {
		list = append(list, operation{"Pow", func(x, y exact.Num) (exact.Num, api.Errno) { return x.Pow(n) }, func(b, c exact.Box) (exact.Box, api.Errno) { return b.Pow(n) }, true})
	}
	return list
}

// P1.14: a box has all results, its ends are results, and it gets no smaller with greater boxes.
func TestBoxesOfResults(t *testing.T) {
	r := rand.New(rand.NewPCG(9, 10))
	for range 300 {
		b, c := anyBox(t, r), anyBox(t, r)
		wideB, wideC := b.Hull(anyBox(t, r)), c.Hull(anyBox(t, r))
		for _, o := range operations() {
			all, e := o.ofBox(b, c)
			if e != api.OK {
				if !c.Has(exact.Num{}) || o.name != "Div" {
					t.Fatal(o.name, b, c, e)
				}
				continue
			}
			wide, e := o.ofBox(wideB, wideC)
			if e == api.OK && !all.Inside(wide) {
				t.Fatal(o.name, "of wider boxes is not wider", b, c, wideB, wideC)
			}
			for range 10 {
				x, y := between(r, b), between(r, c)
				if z, e := o.ofNum(x, y); e != api.OK || !all.Has(z) {
					t.Fatal(o.name, "does not have a result", b, c, x, y, z)
				}
			}
			endsAreResults(t, o, b, c, all)
		}
	}
}

// endsAreResults looks for the ends of a box of results among the results for the ends of b and c, and for 0.
func endsAreResults(t *testing.T, o operation, b, c, all exact.Box) {
	t.Helper()
	xs, ys := []exact.Num{b.Lo(), b.Hi()}, []exact.Num{c.Lo(), c.Hi()}
	if b.Has(exact.Num{}) {
		xs = append(xs, exact.Num{})
	}
	var low, high bool
	for _, x := range xs {
		for _, y := range ys {
			z, _ := o.ofNum(x, y)
			low, high = low || z.Cmp(all.Lo()) == 0, high || z.Cmp(all.Hi()) == 0
		}
	}
	if !low || !high {
		t.Fatal(o.name, "has an end that is no result", b, c, all)
	}
}

// P1.15
func TestRootEncloses(t *testing.T) {
	r := rand.New(rand.NewPCG(11, 12))
	for range 1500 {
		b, grid := anyBox(t, r).Abs(), anyNum(t, r, 3).Abs()
		if grid.Sign() == 0 {
			continue
		}
		root, e := b.Root(grid)
		lo, hi := root.Lo(), root.Hi()
		if e != api.OK || lo.Sign() < 0 || lo.Mul(lo).Cmp(b.Lo()) > 0 || hi.Mul(hi).Cmp(b.Hi()) < 0 {
			t.Fatal("Root does not have the roots", b, grid, root, e)
		}
		up, down := lo.Add(grid), hi.Sub(grid)
		if up.Mul(up).Cmp(b.Lo()) <= 0 || down.Sign() >= 0 && down.Mul(down).Cmp(b.Hi()) >= 0 {
			t.Fatal("Root has other multiples of the grid nearer", b, grid, root)
		}
		for _, x := range []exact.Num{lo, hi} {
			times, _ := x.Div(grid)
			if _, den := times.Frac(); den.Cmp(exact.Whole(1)) != 0 {
				t.Fatal("an end of Root is no multiple", b, grid, root)
			}
		}
		single, e := exact.Point(b.Hi()).Root(grid)
		if e != api.OK || single.Width().Cmp(grid.Add(grid)) >= 0 {
			t.Fatal("Root of a single number is wide", b, grid, single)
		}
	}
}

// P1.15
func TestPolyEncloses(t *testing.T) {
	r := rand.New(rand.NewPCG(13, 14))
	for range 200 {
		b := anyBox(t, r)
		coefs := make([]exact.Num, r.IntN(6))
		for i := range coefs {
			coefs[i] = anyNum(t, r, 3)
		}
		n, k := 1+r.IntN(4), 1+r.IntN(4)
		p, e := exact.Poly(coefs, b, n)
		finer, f := exact.Poly(coefs, b, n*k)
		if e != api.OK || f != api.OK || !finer.Inside(p) {
			t.Fatal("Poly with more parts is not inside", coefs, b, n, k)
		}
		for range 20 {
			x := between(r, b)
			var value exact.Num
			power := exact.Whole(1)
			for _, c := range coefs {
				value = value.Add(c.Mul(power))
				power = power.Mul(x)
			}
			if !finer.Has(value) {
				t.Fatal("Poly does not have a value", coefs, b, x, value)
			}
		}
	}
}
