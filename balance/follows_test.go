package balance_test

import (
	"math/rand/v2"
	"slices"
	"testing"

	"venturi/api"
	"venturi/balance"
	"venturi/exact"
)

// turned returns a vector after turns, with no error.
func turned(v balance.Vector, a []balance.Turn) balance.Vector {
	v, e := balance.Turned(v, a)
	if e != api.OK {
		panic("no attitude")
	}
	return v
}

// cross returns the cross product.
func cross(p, q balance.Vector) balance.Vector {
	return balance.Vector{
		p[1].Mul(q[2]).Sub(p[2].Mul(q[1])),
		p[2].Mul(q[0]).Sub(p[0].Mul(q[2])),
		p[0].Mul(q[1]).Sub(p[1].Mul(q[0])),
	}
}

// P5.9
func TestAxes(t *testing.T) {
	r := rand.New(rand.NewPCG(5, 9))
	for range 200 {
		p, q, a := anyVector(r), anyVector(r), anyAttitude(r)
		pt, qt := turned(p, a), turned(q, a)
		if !sameNum(sum(p[:], q[:]), sum(pt[:], qt[:])) {
			t.Fatalf("turns by %v do not keep the sum of the products of %v and %v", a, p, q)
		}
		x, xt := turned(cross(p, q), a), cross(pt, qt)
		if !sameNums(x[:], xt[:]) {
			t.Fatalf("turns by %v do not keep the cross product of %v and %v", a, p, q)
		}
		back, e := balance.Back(pt, a)
		if e != api.OK || !sameNums(back[:], p[:]) {
			t.Fatalf("Back of %v by %v: %v, error %d, instead of %v", pt, a, back, e, p)
		}
		again, _ := balance.Back(p, a)
		if again = turned(again, a); !sameNums(again[:], p[:]) {
			t.Fatalf("Turned of Back of %v by %v: %v", p, a, again)
		}
	}
}

func sameLoad(a, b balance.Load) bool {
	return sameNums(a.Force[:], b.Force[:]) && sameNums(a.Moment[:], b.Moment[:])
}

// P5.2, P5.9
func TestMoves(t *testing.T) {
	r := rand.New(rand.NewPCG(9, 5))
	for range 200 {
		l, p, q := balance.Load{Force: anyVector(r), Moment: anyVector(r)}, anyVector(r), anyVector(r)
		both := balance.Vector(plus(p[:], whole(1), q[:]))
		minus := balance.Vector(plus(make([]exact.Num, 3), whole(-1), p[:]))
		arm := cross(p, l.Force)
		want := balance.Load{Force: l.Force, Moment: balance.Vector(plus(l.Moment[:], whole(-1), arm[:]))}
		moved := balance.Move(l, p)
		if !sameLoad(moved, want) {
			t.Fatalf("Move of %v by %v: %v", l, p, moved)
		}
		if back := balance.Move(moved, minus); !sameLoad(back, l) {
			t.Fatalf("Move of %v by %v and back: %v", l, p, back)
		}
		if twice, once := balance.Move(moved, q), balance.Move(l, both); !sameLoad(twice, once) {
			t.Fatalf("Move of %v by %v and %v: %v, but %v at once", l, p, q, twice, once)
		}
	}
}

// P5.2, P5.9
func TestTares(t *testing.T) {
	r := rand.New(rand.NewPCG(9, 9))
	for range 200 {
		weight, centre, a := anyNum(r), anyVector(r), anyAttitude(r)
		l, e := balance.Tare(weight, centre, a)
		if e != api.OK || !sameNum(sum(l.Force[:], l.Force[:]), weight.Mul(weight)) {
			t.Fatalf("Tare of %v at %v by %v: %v, error %d", weight, centre, a, l, e)
		}
		down, moment := balance.Vector{2: weight.Neg()}, cross(centre, l.Force)
		if force := turned(l.Force, a); !sameNums(force[:], down[:]) || !sameNums(l.Moment[:], moment[:]) {
			t.Fatalf("Tare of %v at %v by %v: %v, which is turned to %v", weight, centre, a, l, force)
		}
		if own := balance.Move(l, centre); !sameNums(own.Moment[:], make([]exact.Num, 3)) {
			t.Fatalf("Tare of %v at %v by %v: %v, which has a moment about the centre of gravity: %v", weight, centre, a, l, own)
		}
	}
}

// hasAll reports whether boxes have numbers.
func hasAll(l []exact.Box, x []exact.Num) bool {
	return slices.EqualFunc(l, x, exact.Box.Has)
}

// P5.11
func TestNothingIsLost(t *testing.T) {
	r := rand.New(rand.NewPCG(5, 11))
	proved := 0
	for range 150 {
		n := 1 + r.IntN(3)
		c, within := anyCalibration(r, n), anyBoxes(r, n)
		loads := inAll(r, within)
		readings := around(reading(c, loads), anyOf(r, nums("0", "1/7", "2")...))
		if _, e := balance.Slope(c, within); e == api.ErrSingular {
			continue
		}
		grid, before := anyOf(r, nums("0", "0.1", "1/7", "3")...), balance.Inverse{Loads: within}
		for rounds := range 5 {
			if rounds == 4 && grid.Sign() > 0 {
				rounds = api.MaxRounds
			}
			v, e := balance.Invert(c, readings, within, rounds, grid)
			if e != api.OK || !hasAll(v.Loads, loads) {
				t.Fatalf("Invert of %v with %v, %v, %d, %v: %v, error %d, without %v", c, readings, within, rounds, grid, v, e, loads)
			}
			for j, b := range v.Loads {
				if !b.Inside(before.Loads[j]) || before.Proved && !v.Proved {
					t.Fatalf("Invert of %v with %v, %v, %d, %v: %v, after %v", c, readings, within, rounds, grid, v, before)
				}
			}
			before = v
		}
		if before.Proved {
			proved++
		}
	}
	if proved < 20 {
		t.Error("few were proved:", proved)
	}
}

// P5.12: if it is proved that there are loads for all readings, those for any of them are found in the Loads, as near as one likes.
func TestProofs(t *testing.T) {
	r := rand.New(rand.NewPCG(5, 12))
	near, found := num("1/1000000"), 0
	for range 300 {
		n := 1 + r.IntN(3)
		c, within := anyCalibration(r, n), anyBoxes(r, n)
		readings := around(reading(c, inAll(r, within)), anyOf(r, nums("0", "1/9", "1/3")...))
		v, e := balance.Invert(c, readings, within, 1+r.IntN(4), anyOf(r, nums("0", "0.1", "0.01")...))
		if e != api.OK || !v.Proved {
			continue
		}
		wanted := inAll(r, readings)
		one, e := balance.Invert(c, points(wanted), v.Loads, api.MaxRounds, near)
		if e != api.OK {
			t.Fatalf("Invert of %v with %v, %v: proved, but for %v there is error %d", c, readings, within, wanted, e)
		}
		wide := func(b exact.Box) bool { return b.Width().Cmp(num("1/100000")) > 0 }
		if slices.ContainsFunc(one.Loads, wide) {
			continue
		}
		found++
		middle := inAll(r, one.Loads)
		if !hasAll(around(wanted, num("1/1000")), reading(c, middle)) {
			t.Fatalf("Invert of %v with %v, %v: proved, but for %v there are no loads: %v has %v", c, readings, within, wanted, middle, reading(c, middle))
		}
	}
	if found < 50 {
		t.Error("loads were found for few readings:", found)
	}
}

// P5.12: loads differ by at most as much as the matrix makes of the difference of their readings, and Slope times their own difference.
func TestSlopeBounds(t *testing.T) {
	r := rand.New(rand.NewPCG(12, 5))
	less := 0
	for range 300 {
		n := 1 + r.IntN(3)
		c, within := anyCalibration(r, n), anyBoxes(r, n)
		slope, e := balance.Slope(c, within)
		if e == api.ErrSingular {
			continue
		}
		a, b := inAll(r, within), inAll(r, within)
		readA, readB := reading(c, a), reading(c, b)
		if slope.Cmp(whole(1)) < 0 && !sameNums(a, b) {
			less++
			if sameNums(readA, readB) {
				t.Fatalf("Slope of %v with %v: %v, but %v and %v have the readings %v", c, within, slope, a, b, readA)
			}
		}
		difference := plus(a, whole(-1), b)
		bound := slope.Mul(greatest(difference))
		for j, row := range inverseByMinors(c) {
			rest := difference[j].Sub(sum(row, plus(readA, whole(-1), readB)))
			if e != api.OK || rest.Abs().Cmp(bound) > 0 {
				t.Fatalf("Slope of %v with %v: %v, error %d, but %v and %v differ faster", c, within, slope, e, a, b)
			}
		}
	}
	if less < 50 {
		t.Error("few slopes were less than 1:", less)
	}
}

// greatest returns the greatest absolute value of some numbers.
func greatest(l []exact.Num) exact.Num {
	var most exact.Num
	for _, x := range l {
		if x.Abs().Cmp(most) > 0 {
			most = x.Abs()
		}
	}
	return most
}

// P5.11, P5.12: with one load, a proof means that the reading passes each of its values between the ends.
func TestProofOfOne(t *testing.T) {
	r := rand.New(rand.NewPCG(11, 12))
	proved := 0
	for range 300 {
		c, within := anyCalibration(r, 1), anyBoxes(r, 1)
		readings := around(reading(c, inAll(r, within)), anyOf(r, nums("0", "1/9", "1/3", "1")...))
		slope, _ := balance.Slope(c, within)
		v, e := balance.Invert(c, readings, within, 1+r.IntN(3), num("0"))
		if e != api.OK || !v.Proved || slope.Cmp(whole(1)) >= 0 {
			continue
		}
		proved++
		x, y := reading(c, []exact.Num{v.Loads[0].Lo()})[0], reading(c, []exact.Num{v.Loads[0].Hi()})[0]
		if !readings[0].Inside(exact.Point(x).Hull(exact.Point(y))) {
			t.Fatalf("Invert of %v with %v, %v: %v has readings from %v to %v", c, readings, within, v, x, y)
		}
	}
	if proved < 50 {
		t.Error("few were proved:", proved)
	}
}
