package probe_test

import (
	"math/rand/v2"
	"testing"

	"venturi/api"
	"venturi/exact"
	"venturi/probe"
)

// differs returns the absolute value of a difference.
func differs(x, y exact.Num) exact.Num { return x.Sub(y).Abs() }

// P4.13: the true pressure is in the box of each moment.
func TestTrueLag(t *testing.T) {
	random := rand.New(rand.NewPCG(4, 13))
	for range 1000 {
		p, start := anyPort(random), anyBox(random)
		var boxes []exact.Box
		var taps []exact.Num
		for range random.IntN(6) {
			boxes = append(boxes, anyBox(random))
			taps = append(taps, within(random, boxes[len(boxes)-1]))
		}
		tube := lag(random, p, within(random, start), taps...)
		l, e := probe.Follow(p, start, boxes)
		if e != api.OK || len(l) != len(taps) {
			t.Fatal(p, start, boxes, l, e)
		}
		for i, b := range l {
			if !b.Has(tube[i+1]) {
				t.Fatalf("%v from %v with %v: %v is not in %v", p, start, boxes, tube, l)
			}
		}
	}
}

// P4.13: a tube has settled after as many steps as Settled tells, and stays so.
func TestTrueSettling(t *testing.T) {
	random := rand.New(rand.NewPCG(13, 4))
	for range 1000 {
		p, x, first := anyPort(random), anyNum(random), anyNum(random)
		spread := differs(x, first).Add(anyOf(random, nums("0", "0", "1/3")...))
		tolerance := anyOf(random, nums("1/3", "1", "2")...)
		k, e := probe.Settled(p, spread, tolerance)
		if e != api.OK {
			t.Fatal(p, spread, tolerance, e)
		}
		var taps []exact.Num
		for range k + 3 {
			taps = append(taps, x)
		}
		for _, y := range lag(random, p, first, taps...)[k:] {
			if differs(y, x).Cmp(tolerance) > 0 {
				t.Fatalf("%v from %v to %v: %v after %d steps, or more", p, first, x, y, k)
			}
		}
	}
}

// P4.14: what a record proves is true of its cause.
func TestTrueRecords(t *testing.T) {
	random := rand.New(rand.NewPCG(4, 14))
	still := 0
	for range 2000 {
		p := anyPort(random)
		record, x := anyRecord(random, p)
		ok, e := probe.Agrees(p, record, x)
		is(t, "Agrees of the cause", ok, e, true)
		if b, e := probe.Pressure(p, record); len(record) > 1 && (e != api.OK || !b.Has(x)) {
			t.Fatalf("%v %v of %v: %v, error %d", p, record, x, b, e)
		}
		tolerance := p.Error.Add(anyOf(random, nums("0", "1/3", "2", "5")...))
		if k, e := probe.Still(p, record, tolerance); e == api.OK {
			still++
			if k < 1 || k >= len(record) || differs(record[k], x).Cmp(tolerance) > 0 {
				t.Fatalf("%v %v of %v: the reading %d within %v", p, record, x, k, tolerance)
			}
		}
	}
	if still < 200 {
		t.Error("too few readings that are still", still)
	}
}

// P4.14: a pressure with which a record agrees is in the box.
func TestAgreesIsInPressure(t *testing.T) {
	random := rand.New(rand.NewPCG(14, 4))
	agreed := 0
	for range 3000 {
		p := anyPort(random)
		record, _ := anyRecord(random, p)
		record = spoilt(random, record)
		x := anyNum(random)
		ok, e := probe.Agrees(p, record, x)
		if e != api.OK {
			t.Fatal(p, record, x, e)
		}
		if !ok || len(record) < 2 {
			continue
		}
		agreed++
		if b, e := probe.Pressure(p, record); e != api.OK || !b.Has(x) {
			t.Fatalf("%v %v agrees with %v: %v, error %d", p, record, x, b, e)
		}
	}
	if agreed < 100 {
		t.Error("too few pressures", agreed)
	}
}

// anyLeak returns a port, the record of a closed tube with a leak, and the pressure around it.
func anyLeak(r *rand.Rand) (p probe.Port, record []exact.Num, ambient, leak exact.Num) {
	p = anyPort(r)
	p.Error = anyOf(r, nums("0", "1/50", "1/4")...)
	ambient, leak = anyNum(r), anyOf(r, nums("0", "1/20", "1/4", "1/2", "0.9")...)
	y := ambient.Add(anyOf(r, nums("10", "-8", "16")...))
	for range 2 + r.IntN(4) {
		record = append(record, read(r, p, y))
		y = y.Add(leak.Mul(ambient.Sub(y)))
	}
	return p, record, ambient, leak
}

// P4.15
func TestTrueLeaks(t *testing.T) {
	random := rand.New(rand.NewPCG(4, 15))
	answers := map[api.Ruling]int{}
	for range 2000 {
		p, record, ambient, leak := anyLeak(random)
		limit := anyOf(random, leak, leak, num("1/4"), num("1/5"), num("0.95"), num("0.01"))
		a, e := probe.Tight(p, record, ambient, limit)
		if e != api.OK || a == api.Yes && leak.Cmp(limit) > 0 || a == api.No && leak.Cmp(limit) <= 0 {
			t.Fatalf("%v %v around %v with the leak %v and the limit %v: %d, error %d", p, record, ambient, leak, limit, a, e)
		}
		answers[a]++
	}
	if answers[api.Yes] < 200 || answers[api.No] < 200 || answers[api.Unsure] < 200 {
		t.Error("too few leaks of a kind", answers)
	}
}

// P4.16
func TestInverse(t *testing.T) {
	random := rand.New(rand.NewPCG(4, 16))
	for range 1000 {
		l := anyTable(random, true)
		b := smaller(random, reads(l))
		there, e := probe.Look(l, b)
		again, e2 := probe.Back(l, there)
		if e != api.OK || e2 != api.OK || !again.Equal(b) {
			t.Fatalf("%v at %v: %v and %v, errors %d, %d", l, b, there, again, e, e2)
		}
		b = smaller(random, values(l))
		there, e = probe.Back(l, b)
		again, e2 = probe.Look(l, there)
		if e != api.OK || e2 != api.OK || !again.Equal(b) {
			t.Fatalf("%v back from %v: %v and %v, errors %d, %d", l, b, there, again, e, e2)
		}
	}
}

// P4.16: smaller boxes have smaller results.
func TestSmallerBoxes(t *testing.T) {
	random := rand.New(rand.NewPCG(16, 4))
	inside := func(what string, small exact.Box, e api.Errno, large exact.Box, e2 api.Errno) {
		t.Helper()
		if e2 == api.OK && (e != api.OK || !small.Inside(large)) {
			t.Fatalf("%s: %v, error %d, instead of %v", what, small, e, large)
		}
	}
	for range 1000 {
		l := anyTable(random, false)
		b := smaller(random, reads(l))
		large, e2 := probe.Look(l, b)
		small, e := probe.Look(l, smaller(random, b))
		inside("Look", small, e, large, e2)
		l = anyTable(random, true)
		b = smaller(random, values(l))
		large, e2 = probe.Back(l, b)
		small, e = probe.Back(l, smaller(random, b))
		inside("Back", small, e, large, e2)
		front, left, right := anyBox(random), anyBox(random), anyBox(random)
		large, e2 = probe.Coefficient(front, left, right)
		small, e = probe.Coefficient(smaller(random, front), smaller(random, left), smaller(random, right))
		inside("Coefficient", small, e, large, e2)
		large, e2 = probe.Mean([]exact.Box{front, left, right})
		small, e = probe.Mean([]exact.Box{smaller(random, front), smaller(random, left), smaller(random, right)})
		inside("Mean", small, e, large, e2)
	}
}

// P4.16: smaller boxes, or errors, change no answer that is not Unsure.
func TestAnswersStay(t *testing.T) {
	random := rand.New(rand.NewPCG(16, 16))
	answers := map[api.Ruling]int{}
	for range 2000 {
		l := []exact.Box{anyBox(random), anyBox(random), anyBox(random)}
		limit := anyNum(random).Abs()
		before, e := probe.Uniform(l, limit)
		for i, b := range l {
			l[i] = smaller(random, b)
		}
		after, e2 := probe.Uniform(l, limit)
		if e != api.OK || e2 != api.OK || before != api.Unsure && before != after {
			t.Fatalf("%v within %v: %d instead of %d, errors %d, %d", l, limit, after, before, e, e2)
		}
		p, record, ambient, _ := anyLeak(random)
		limit = anyOf(random, nums("0", "1/50", "1/4", "1/3", "1/2", "0.95")...)
		before, e = probe.Tight(p, record, ambient, limit)
		p.Error = p.Error.Mul(anyOf(random, nums("0", "1/2", "0.9")...))
		after, e2 = probe.Tight(p, record, ambient, limit)
		if e != api.OK || e2 != api.OK || before != api.Unsure && before != after {
			t.Fatalf("%v %v around %v within %v: %d instead of %d, errors %d, %d", p, record, ambient, limit, after, before, e, e2)
		}
		answers[before]++
	}
	if answers[api.Yes] < 100 || answers[api.No] < 100 || answers[api.Unsure] < 100 {
		t.Error("too few leaks of a kind", answers)
	}
}
