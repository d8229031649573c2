package circuit_test

import (
	"math/rand/v2"
	"strconv"
	"testing"

	"venturi/api"
	"venturi/circuit"
	"venturi/exact"
)

// shown returns a text of operating points.
func shown(l []circuit.Point) string {
	s := ""
	for _, p := range l {
		s += p.Flow.Lo().String() + ".." + p.Flow.Hi().String() + " " + strconv.Itoa(int(p.Kind)) + "; "
	}
	return s
}

// P3.4
func TestPoints(t *testing.T) {
	flat := func(rise string) circuit.Fan { return fan([2]string{"0", rise}, [2]string{"3", rise}) }
	for _, c := range []struct {
		what string
		fan  circuit.Fan
		grid string
		want string
	}{
		{"example 3", hill(), "1", "2..2 1; "},
		{"example 3, on the grid", hill(), "2/7", "2..2 1; "},
		{"example 3, beside the grid", hill(), "3/4", "1.5..2.25 1; "},
		{"a grid greater than the point", hill(), "9", "0..9 1; "},
		{"the root of 2", flat("2"), "0.001", "1.414..1.415 1; "},
		{"the root of 2, finely", flat("2"), "1/1000000000000", "1.414213562373..1.414213562374 1; "},
		{"none: the rise is less than the loss", flat("-1/9"), "1", ""},
		{"none: the rise is more than the loss", flat("9.01"), "1", ""},
		{"at the beginning", flat("0"), "1/2", "0..0 3; "},
		{"at the end", flat("9"), "2", "2..4 3; "},
		{"at both ends", fan([2]string{"0", "0"}, [2]string{"2", "4"}), "1", "0..0 3; 2..2 3; "},
		{"at a knot, from above", fan([2]string{"0", "2"}, [2]string{"1", "1"}, [2]string{"2", "2"}), "1", "1..1 1; "},
		{"at a knot, from below", fan([2]string{"0", "-1"}, [2]string{"1", "1"}, [2]string{"2", "9"}), "1", "1..1 2; "},
		{"at a knot, touched from below", fan([2]string{"0", "-1"}, [2]string{"1", "1"}, [2]string{"2", "2"}), "1", "1..1 3; "},
		{"at a knot, touched from above", fan([2]string{"0", "2"}, [2]string{"1", "1"}, [2]string{"2", "9"}), "1", "1..1 3; "},
		{"touched between knots", fan([2]string{"0", "-1"}, [2]string{"2", "3"}), "1", "1..1 3; "},
		{"touched between knots, beside the grid", fan([2]string{"0", "-1"}, [2]string{"2", "3"}), "2/3", "2/3..4/3 3; "},
		{"a tangent where it touches a knot", fan([2]string{"0", "-1"}, [2]string{"1", "1"}, [2]string{"2", "3"}, [2]string{"4", "9"}), "1", "1..1 3; "},
		{"two on a piece", fan([2]string{"0", "-3/4"}, [2]string{"2", "13/4"}), "1/2", "0.5..0.5 2; 1.5..1.5 1; "},
		{"two in one box", fan([2]string{"0", "-3/4"}, [2]string{"2", "13/4"}), "5", "0..5 2; 0..5 1; "},
		{"two in one box that are not rational", fan([2]string{"0", "-1/2"}, [2]string{"2", "7/2"}), "2", "0..2 2; 0..2 1; "},
		{"just short of a knot", fan([2]string{"0", "0.99"}, [2]string{"1", "0.99"}, [2]string{"2", "9"}), "0.1", "0.9..1 1; 1..1.1 2; "},
		{"a root and then a knot", fan([2]string{"0", "-1"}, [2]string{"1", "5"}, [2]string{"2", "4"}, [2]string{"3", "10"}), "1", "0..1 2; 2..2 3; "},
	} {
		l, e := circuit.Points(unit(), c.fan, num(c.grid))
		if e != api.OK || shown(l) != c.want {
			t.Errorf("%s: %s, error %d, instead of %s", c.what, shown(l), e, c.want)
		}
	}
}

// P3.4, P3.5
func TestPointsErrors(t *testing.T) {
	for what, r := range wrongRings() {
		l, e := circuit.Points(r, circuit.Fan{}, exact.Num{})
		isError(t, what, e, api.ErrArg, l)
		ok, e := circuit.Certify(r, hill(), nil)
		isError(t, what, e, api.ErrArg, ok)
	}
	for what, f := range wrongFans() {
		l, e := circuit.Points(unit(), f, exact.Num{})
		isError(t, what, e, api.ErrArg, l)
		ok, e := circuit.Certify(unit(), f, nil)
		isError(t, what, e, api.ErrArg, ok)
	}
	for _, grid := range []string{"0", "-1", "-1/1000"} {
		l, e := circuit.Points(unit(), hill(), num(grid))
		isError(t, grid, e, api.ErrRange, l)
	}
}

// balance returns the sign of the balance at a flow, and whether the curve says anything about it.
func balance(t *testing.T, r circuit.Ring, f circuit.Fan, v exact.Num) (int, bool) {
	t.Helper()
	rise, e := circuit.Rise(f, f.Speed, v)
	if e == api.ErrFlow {
		return 0, false
	}
	resistance, wrong := circuit.Resistance(r)
	if e != api.OK || wrong != api.OK {
		t.Fatal("errors", e, wrong)
	}
	return rise.Cmp(resistance.Mul(v).Mul(v)), true
}

// howMany counts the operating points between knots by the signs of the balance at the knots and where it is greatest between them.
func howMany(t *testing.T, r circuit.Ring, f circuit.Fan) int {
	t.Helper()
	resistance, _ := circuit.Resistance(r)
	n := 0
	for i, k := range f.Knots {
		sign, _ := balance(t, r, f, k.Flow)
		if sign == 0 {
			n++
		}
		if i+1 == len(f.Knots) {
			break
		}
		next := f.Knots[i+1]
		end, _ := balance(t, r, f, next.Flow)
		slope, _ := next.Rise.Sub(k.Rise).Div(next.Flow.Sub(k.Flow))
		top, _ := slope.Div(resistance.Mul(whole(2)))
		best := -1 // if it is greatest at a knot, and no operating points are to be found about the top
		if top.Cmp(k.Flow) > 0 && top.Cmp(next.Flow) < 0 {
			best, _ = balance(t, r, f, top)
		}
		switch {
		case sign*end < 0:
			n++
		case best == 0:
			n++
		case best > 0 && sign < 0 && end < 0:
			n += 2
		case best > 0 && (sign < 0 || end < 0):
			n++
		}
	}
	return n
}

// fine is a grid on which all operating points of simple numbers are apart, and that has all multiples of the other grids of these tests.
func fine() exact.Num { return num("1/420000000000") }

// near reports whether a box of the fine grid shows an operating point with the signs of the balance that its kind has.
func near(t *testing.T, r circuit.Ring, f circuit.Fan, p circuit.Point) bool {
	t.Helper()
	lo, hi := p.Flow.Lo(), p.Flow.Hi()
	if lo.Cmp(hi) == 0 {
		if sign, ok := balance(t, r, f, lo); sign != 0 || !ok {
			return false
		}
		lo, hi = lo.Sub(fine()), hi.Add(fine())
	} else if hi.Sub(lo).Cmp(fine()) != 0 {
		return false
	}
	below, left := balance(t, r, f, lo)
	above, right := balance(t, r, f, hi)
	kind := api.OneSided
	if left && right && below*above < 0 {
		kind = api.Stable
		if below < 0 {
			kind = api.Unstable
		}
	}
	return p.Kind == kind
}

// coarser reports whether a box of a grid is the least one that has a flow of a box of the fine grid.
func coarser(p, q circuit.Point, grid exact.Num) bool {
	if p.Kind != q.Kind {
		return false
	}
	nearest, _ := p.Flow.Lo().Round(grid)
	if p.Flow.Width().Sign() == 0 {
		return p.Flow.Lo().Cmp(nearest) == 0 && p.Flow.Inside(q.Flow)
	}
	return p.Flow.Lo().Cmp(nearest) == 0 && p.Flow.Width().Cmp(grid) == 0 && q.Flow.Inside(p.Flow)
}

// P3.4 and P3.12, by the signs of the balance.
func TestPointsBySigns(t *testing.T) {
	random := rand.New(rand.NewPCG(3, 4))
	kinds := map[api.Stability]int{}
	for range 2000 {
		r := anyRing(random)
		f := anyFan(random, r)
		finely, e := circuit.Points(r, f, fine())
		if e != api.OK || len(finely) != howMany(t, r, f) {
			t.Fatalf("%v %v: %s, error %d, instead of %d points", r, f, shown(finely), e, howMany(t, r, f))
		}
		for i, p := range finely {
			kinds[p.Kind]++
			if !near(t, r, f, p) || i > 0 && p.Flow.Lo().Cmp(finely[i-1].Flow.Hi()) < 0 {
				t.Fatalf("%v %v: %s", r, f, shown(finely))
			}
		}
		if ok, e := circuit.Certify(r, f, finely); e != api.OK || !ok {
			t.Fatalf("%v %v: %s is not certified: error %d", r, f, shown(finely), e)
		}
		grid := num(anyOf(random, "1", "1/2", "3/4", "7", "1/3", "1/50"))
		coarse, e := circuit.Points(r, f, grid)
		if e != api.OK || len(coarse) != len(finely) {
			t.Fatalf("%v %v: %s, error %d", r, f, shown(coarse), e)
		}
		apart := true
		for i, p := range coarse {
			if !coarser(p, finely[i], grid) {
				t.Fatalf("%v %v: %s on the grid %v instead of about %s", r, f, shown(coarse), grid, shown(finely))
			}
			apart = apart && (i == 0 || !p.Flow.Equal(coarse[i-1].Flow))
		}
		if ok, e := circuit.Certify(r, f, coarse); e != api.OK || ok != apart {
			t.Fatalf("%v %v: %s certified: %t, error %d", r, f, shown(coarse), ok, e)
		}
	}
	if kinds[api.Stable] < 100 || kinds[api.Unstable] < 100 || kinds[api.OneSided] < 100 {
		t.Error("too few of some kind", kinds)
	}
}

// P3.5
func TestCertify(t *testing.T) {
	point := func(lo, hi string, kind api.Stability) circuit.Point {
		return circuit.Point{Flow: span(lo, hi), Kind: kind}
	}
	two := fan([2]string{"0", "-3/4"}, [2]string{"2", "13/4"}) // unstable at 1/2, stable at 3/2
	for _, c := range []struct {
		what string
		fan  circuit.Fan
		list []circuit.Point
		want bool
	}{
		{"both points", two, []circuit.Point{point("1/2", "1/2", 2), point("3/2", "3/2", 1)}, true},
		{"a point and a box", two, []circuit.Point{point("1/2", "1/2", 2), point("1", "7", 1)}, true},
		{"boxes that meet", two, []circuit.Point{point("-5", "1", 2), point("1", "9", 1)}, true},
		{"a point at the beginning of a box", two, []circuit.Point{point("1/2", "1/2", 2), point("1/2", "9", 1)}, true},
		{"a point at the end of a box", two, []circuit.Point{point("0", "3/2", 2), point("3/2", "3/2", 1)}, true},
		{"boxes that overlap", two, []circuit.Point{point("0", "1.1", 2), point("1", "2", 1)}, false},
		{"the wrong order", two, []circuit.Point{point("3/2", "3/2", 1), point("1/2", "1/2", 2)}, false},
		{"one is missing", two, []circuit.Point{point("1/2", "1/2", 2)}, false},
		{"the other one is missing", two, []circuit.Point{point("1", "2", 1)}, false},
		{"both in one box", two, []circuit.Point{point("0", "2", 2)}, false},
		{"both in a box each", two, []circuit.Point{point("0", "2", 2), point("0", "2", 1)}, false},
		{"twice the same", two, []circuit.Point{point("1/2", "1/2", 2), point("1/2", "1/2", 2), point("3/2", "3/2", 1)}, false},
		{"twice the same instead of the other one", two, []circuit.Point{point("1/2", "1/2", 2), point("1/2", "1/2", 2)}, false},
		{"an empty box more", two, []circuit.Point{point("1/2", "1/2", 2), point("1", "5/4", 1), point("3/2", "3/2", 1)}, false},
		{"an empty box instead", two, []circuit.Point{point("1/2", "1/2", 2), point("1", "5/4", 1)}, false},
		{"no operating point", two, []circuit.Point{point("1/3", "1/3", 2), point("3/2", "3/2", 1)}, false},
		{"an operating point at the end", two, []circuit.Point{point("0", "1/2", 2), point("3/2", "3/2", 1)}, false},
		{"an operating point at the beginning", two, []circuit.Point{point("1/2", "1", 2), point("3/2", "3/2", 1)}, false},
		{"another kind", two, []circuit.Point{point("1/2", "1/2", 1), point("3/2", "3/2", 1)}, false},
		{"another kind of a box", two, []circuit.Point{point("1/2", "1/2", 2), point("1", "2", 3)}, false},
		{"no kind", two, []circuit.Point{point("1/2", "1/2", 0), point("3/2", "3/2", 1)}, false},
		{"a kind that there is not", two, []circuit.Point{point("1/2", "1/2", 2), point("3/2", "3/2", 4)}, false},
		{"nothing of nothing", fan([2]string{"0", "-1"}, [2]string{"2", "-1"}), nil, true},
		{"nothing of nothing, not nil", fan([2]string{"0", "-1"}, [2]string{"2", "-1"}), []circuit.Point{}, true},
		{"something of nothing", fan([2]string{"0", "-1"}, [2]string{"2", "-1"}), []circuit.Point{point("0", "2", 1)}, false},
		{"the root of 2", fan([2]string{"0", "2"}, [2]string{"2", "2"}), []circuit.Point{point("1.4142", "1.4143", 1)}, true},
		{"beside the root of 2", fan([2]string{"0", "2"}, [2]string{"2", "2"}), []circuit.Point{point("1.4143", "1.4144", 1)}, false},
		{"nearly the root of 2", fan([2]string{"0", "2"}, [2]string{"2", "2"}), []circuit.Point{point("1.4142", "1.4142", 1)}, false},
		{"beyond the curve", fan([2]string{"0", "2"}, [2]string{"1", "2"}), []circuit.Point{point("1", "2", 1)}, false},
		{"an end of the curve within a box", fan([2]string{"0", "0"}, [2]string{"1", "0"}), []circuit.Point{point("-1", "1", 3)}, true},
	} {
		ok, e := circuit.Certify(unit(), c.fan, c.list)
		if e != api.OK || ok != c.want {
			t.Errorf("%s: %t, error %d", c.what, ok, e)
		}
	}
}

// certifies is Certify to the letter, with the operating points from boxes of the fine grid.
func certifies(all, l []circuit.Point) bool {
	used := map[int]bool{}
	for i, p := range l {
		single := p.Flow.Width().Sign() == 0
		if i > 0 {
			if before := l[i-1].Flow; before.Hi().Cmp(p.Flow.Lo()) > 0 || single && before.Equal(p.Flow) {
				return false
			}
		}
		var has []int
		for k, q := range all {
			lo, hi := q.Flow.Lo(), q.Flow.Hi()
			known := q.Flow.Width().Sign() == 0
			within := p.Flow.Lo().Cmp(lo) <= 0 && hi.Cmp(p.Flow.Hi()) <= 0
			if single && known && within || !single && within && !(known && (lo.Cmp(p.Flow.Lo()) == 0 || hi.Cmp(p.Flow.Hi()) == 0)) {
				has = append(has, k)
			}
		}
		if len(has) != 1 || all[has[0]].Kind != p.Kind {
			return false
		}
		used[has[0]] = true
	}
	return len(used) == len(all)
}

// P3.5 and P3.12, by the definition.
func TestCertifyByDefinition(t *testing.T) {
	random := rand.New(rand.NewPCG(5, 3))
	said := map[bool]int{}
	for range 4000 {
		r := anyRing(random)
		f := anyFan(random, r)
		all, _ := circuit.Points(r, f, fine())
		l, _ := circuit.Points(r, f, num(anyOf(random, "1/2", "1/3", "1/4", "1/20")))
		for i := range l {
			lo, hi := l[i].Flow.Lo(), l[i].Flow.Hi()
			switch random.IntN(12) {
			case 0:
				lo = lo.Sub(num(anyOf(random, "1/7", "1/2")))
			case 1:
				hi = hi.Add(num(anyOf(random, "1/7", "1/2")))
			case 2:
				hi = lo
			case 3:
				l[i].Kind = api.Stability(random.IntN(5))
			}
			l[i].Flow, _ = exact.Span(lo, hi)
		}
		if len(l) > 0 && random.IntN(6) == 0 {
			i := random.IntN(len(l))
			l = append(l[:i:i], l[i+1:]...)
		}
		ok, e := circuit.Certify(r, f, l)
		if e != api.OK || ok != certifies(all, l) || ok && len(l) != len(all) {
			t.Fatalf("%v %v: %s of %s: %t, error %d", r, f, shown(l), shown(all), ok, e)
		}
		said[ok]++
	}
	if said[true] < 300 || said[false] < 300 {
		t.Error("too few of some answer", said)
	}
}
