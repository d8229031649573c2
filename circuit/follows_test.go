package circuit_test

import (
	"math/big"
	"math/rand/v2"
	"testing"

	"venturi/api"
	"venturi/circuit"
	"venturi/exact"
)

// quotient returns a / b.
func quotient(a, b int) exact.Num {
	x, _ := exact.Ratio(int64(a), int64(b))
	return x
}

// P3.11
func TestBalance(t *testing.T) {
	random := rand.New(rand.NewPCG(3, 11))
	zeros := 0
	for range 500 {
		r := anyRing(random)
		f := anyFan(random, r)
		resistance, _ := circuit.Resistance(r)
		last := f.Knots[len(f.Knots)-1].Flow
		flows := []exact.Num{last.Mul(quotient(random.IntN(13), 12))}
		points, _ := circuit.Points(r, f, num("1/12"))
		for _, p := range points {
			if p.Flow.Width().Sign() == 0 {
				flows = append(flows, p.Flow.Lo())
			}
		}
		speed := anyOf(random, 1, 2, f.Speed, 150, api.MaxRevs)
		ratio := quotient(speed, f.Speed)
		for i, v := range flows {
			at, e := circuit.Rise(f, f.Speed, v)
			other, e2 := circuit.Rise(f, speed, v.Mul(ratio))
			if e != api.OK || e2 != api.OK {
				t.Fatalf("%v at %d and %v: errors %d, %d", f, speed, v, e, e2)
			}
			balance := at.Sub(resistance.Mul(v).Mul(v))
			w := v.Mul(ratio)
			if got := other.Sub(resistance.Mul(w).Mul(w)); got.Cmp(ratio.Mul(ratio).Mul(balance)) != 0 || i > 0 && got.Sign() != 0 {
				t.Fatalf("%v %v at %d and %v: balance %v, at the fan's speed %v", r, f, speed, v, got, balance)
			}
			zeros += i
		}
	}
	if zeros < 100 {
		t.Error("too few operating points", zeros)
	}
}

// rat returns the number of the standard library that has the text of x.
func rat(x exact.Num) *big.Rat {
	r, _ := new(big.Rat).SetString(x.String())
	return r
}

// truth returns the power at a speed, and the temperature after a step to it, with an operating point and a temperature that are known, as the chapter says it.
func truth(p circuit.Plant, speed int, flow, heat exact.Num) (power, after *big.Rat) {
	resistance := new(big.Rat)
	for _, s := range p.Ring.Sections {
		area := rat(s.Area)
		twice := new(big.Rat).Mul(big.NewRat(2, 1), new(big.Rat).Mul(area, area))
		resistance.Add(resistance, new(big.Rat).Quo(new(big.Rat).Mul(rat(s.Loss), rat(p.Ring.Density)), twice))
	}
	power = new(big.Rat).Quo(resistance, rat(p.Drive.Efficiency))
	for range 3 {
		power.Mul(power, rat(flow))
		power.Mul(power, big.NewRat(int64(speed), int64(p.Fan.Speed)))
	}
	c := p.Cooler
	cooling := new(big.Rat).Mul(rat(c.Rate), new(big.Rat).Sub(rat(heat), rat(c.Cold)))
	gain := new(big.Rat).Quo(new(big.Rat).Sub(power, cooling), rat(c.Capacity))
	return power, gain.Add(gain, rat(heat))
}

// within returns a number of a box: an end, or one between them.
func within(r *rand.Rand, b exact.Box) exact.Num {
	return b.Lo().Add(b.Width().Mul(quotient(r.IntN(5), 4)))
}

// P3.6, P3.7 and P3.13: what is true stays within the boxes and the limits.
func TestTruth(t *testing.T) {
	random := rand.New(rand.NewPCG(3, 13))
	done := 0
	for range 2000 {
		p := anyPlant(random)
		p.Fan.Speed = anyOf(random, 100, 70)
		s := anyState(random, p)
		flow, heat := within(random, p.Drive.Flow), within(random, s.Heat)
		for range 6 {
			speed := anyOf(random, p.Drive.Levels...)
			power, after := truth(p, speed, flow, heat)
			if box, e := circuit.Power(p, speed); e != api.OK || rat(box.Lo()).Cmp(power) > 0 || rat(box.Hi()).Cmp(power) < 0 {
				t.Fatalf("%v: power %v outside of %v, error %d", p, power, box, e)
			}
			_, least := truth(p, speed, p.Drive.Flow.Lo(), s.Heat.Lo())
			_, most := truth(p, speed, p.Drive.Flow.Hi(), s.Heat.Hi())
			next, e := circuit.Step(p, s, speed)
			if e != api.OK {
				break
			}
			done++
			if rat(next.Heat.Lo()).Cmp(least) != 0 || rat(next.Heat.Hi()).Cmp(most) != 0 {
				t.Fatalf("%v %v to %d: %v instead of %v to %v", p, s, speed, next, least, most)
			}
			if after.Cmp(least) < 0 || after.Cmp(most) > 0 || after.Cmp(rat(p.Cooler.Hot)) > 0 || power.Cmp(rat(p.Drive.Power)) > 0 {
				t.Fatalf("%v %v to %d: true power %v, temperature %v", p, s, speed, power, after)
			}
			s, heat = next, num(after.RatString())
		}
	}
	if done < 1000 {
		t.Error("too few steps", done)
	}
}

// P3.13: with less heat, or a flow that is known better, no step is refused that was not refused.
func TestLessHeat(t *testing.T) {
	random := rand.New(rand.NewPCG(13, 3))
	done := 0
	for range 3000 {
		p := anyPlant(random)
		s := anyState(random, p)
		speed := anyOf(random, p.Drive.Levels...)
		next, e := circuit.Step(p, s, speed)
		if e != api.OK {
			continue
		}
		done++
		cool := s
		hi := s.Heat.Hi().Sub(quotient(random.IntN(3), 3))
		cool.Heat, _ = exact.Span(hi.Sub(quotient(random.IntN(9), 4)), hi)
		known := p
		lo := within(random, p.Drive.Flow)
		known.Drive.Flow, _ = exact.Span(lo, lo.Add(p.Drive.Flow.Hi().Sub(lo).Mul(quotient(random.IntN(3), 2))))
		after, e := circuit.Step(known, cool, speed)
		if e != api.OK || after.Heat.Hi().Cmp(next.Heat.Hi()) > 0 {
			t.Fatalf("%v %v to %d: %v, error %d, instead of %v with %v %v", known, cool, speed, after, e, next, p, s)
		}
	}
	if done < 500 {
		t.Error("too few steps", done)
	}
}

// P3.14: a run that Run carries out to the target has at least as many steps as Soonest's, which Run carries out too, and ErrPlan and Proves agree, also for long runs.
func TestLongRuns(t *testing.T) {
	random := rand.New(rand.NewPCG(3, 14))
	longest, proved := 0, 0
	for range 300 {
		p := anyPlant(random)
		p.Drive.Levels = nil
		for n := 0; n <= 120 && len(p.Drive.Levels) < api.MaxHeld; n += 1 + random.IntN(10) {
			p.Drive.Levels = append(p.Drive.Levels, n)
		}
		p.Drive.Up, p.Drive.Down = 3+random.IntN(20), random.IntN(40)
		s := anyState(random, p)
		target, most := anyOf(random, p.Drive.Levels...), random.IntN(api.MaxRun+1)
		l, e := circuit.Soonest(p, s, target, most)
		table, e2 := circuit.Table(p, s, most)
		ok, e3 := circuit.Proves(p, s, target, most, table)
		if e2 != api.OK || e3 != api.OK || ok != (e == api.ErrPlan) {
			t.Fatalf("%v %v to %d in %d: %v, errors %d, %d, %d, proved %t", p, s, target, most, l, e, e2, e3, ok)
		}
		if ok {
			proved++
			continue
		}
		longest = max(longest, len(l))
		states, n, e := circuit.Run(p, s, l)
		if e != api.OK || n != len(l) || n > 0 && states[n-1].Speed != target {
			t.Fatalf("%v %v to %d: %v ends with %v, error %d", p, s, target, l, states, e)
		}
		for most := range len(l) {
			if shorter, e := circuit.Soonest(p, s, target, most); e != api.ErrPlan {
				t.Fatalf("%v %v to %d: %v in %d, and %v, error %d", p, s, target, l, most, shorter, e)
			}
		}
	}
	if longest < 5 || proved < 30 {
		t.Error("too short runs, or too few proofs", longest, proved)
	}
}
