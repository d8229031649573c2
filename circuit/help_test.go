package circuit_test

import (
	"math/rand/v2"
	"reflect"
	"slices"
	"testing"

	"venturi/api"
	"venturi/circuit"
	"venturi/exact"
)

// num returns the value of a numeral that the test has written.
func num(s string) exact.Num {
	x, e := exact.Parse(s)
	if e != api.OK {
		panic("no numeral: " + s)
	}
	return x
}

func whole(n int) exact.Num { return exact.Whole(int64(n)) }

// span returns the box between two numerals.
func span(lo, hi string) exact.Box {
	b, e := exact.Span(num(lo), num(hi))
	if e != api.OK {
		panic("no box: " + lo + ", " + hi)
	}
	return b
}

func only(s string) exact.Box { return exact.Point(num(s)) }

// ring returns a ring of the density 2 and of sections that are written as their area and their loss.
func ring(sections ...[2]string) circuit.Ring {
	r := circuit.Ring{Density: num("2")}
	for _, s := range sections {
		r.Sections = append(r.Sections, circuit.Section{Area: num(s[0]), Loss: num(s[1])})
	}
	return r
}

// unit returns a ring with the resistance 1.
func unit() circuit.Ring { return ring([2]string{"1", "1/2"}, [2]string{"2", "2"}) }

// fan returns a fan with the speed 100 and knots that are written as their flow and their rise.
func fan(knots ...[2]string) circuit.Fan {
	f := circuit.Fan{Speed: 100}
	for _, k := range knots {
		f.Knots = append(f.Knots, circuit.Knot{Flow: num(k[0]), Rise: num(k[1])})
	}
	return f
}

// hill returns the fan of the document's example 2.
func hill() circuit.Fan {
	return fan([2]string{"0", "4"}, [2]string{"1", "5"}, [2]string{"3", "3"})
}

// plant returns the plant of the document's example 4.
func plant() circuit.Plant {
	return circuit.Plant{
		Ring:   unit(),
		Fan:    hill(),
		Drive:  circuit.Drive{Levels: []int{0, 50, 100}, Up: 50, Down: 100, Flow: only("2"), Efficiency: num("1/2"), Power: num("20")},
		Cooler: circuit.Cooler{Capacity: num("10"), Rate: num("1"), Hot: num("2")},
	}
}

// changed returns example 4 with a change.
func changed(change func(p *circuit.Plant)) circuit.Plant {
	p := plant()
	change(&p)
	return p
}

// at returns a state with a temperature that is known.
func at(speed int, heat string) circuit.State {
	return circuit.State{Speed: speed, Heat: only(heat)}
}

// isNum compares a result without error with the text that it should have.
func isNum(t *testing.T, what string, got exact.Num, e api.Errno, want string) {
	t.Helper()
	if e != api.OK || got.String() != want {
		t.Errorf("%s: %v, error %d, instead of %s", what, got, e, want)
	}
}

// isBox compares a result without error with the texts of its ends.
func isBox(t *testing.T, what string, b exact.Box, e api.Errno, lo, hi string) {
	t.Helper()
	if e != api.OK || b.Lo().String() != lo || b.Hi().String() != hi {
		t.Errorf("%s: from %v to %v, error %d, instead of from %s to %s", what, b.Lo(), b.Hi(), e, lo, hi)
	}
}

// isState compares a state without error with a speed and the texts of the ends of its heat.
func isState(t *testing.T, what string, s circuit.State, e api.Errno, speed int, lo, hi string) {
	t.Helper()
	isBox(t, what, s.Heat, e, lo, hi)
	if s.Speed != speed {
		t.Errorf("%s: speed %d instead of %d", what, s.Speed, speed)
	}
}

// isError checks an error, and that the results beside it are zero values.
func isError(t *testing.T, what string, e, want api.Errno, results ...any) {
	t.Helper()
	if e != want {
		t.Errorf("%s: error %d instead of %d", what, e, want)
	}
	for _, r := range results {
		if !isNothing(reflect.ValueOf(r)) {
			t.Errorf("%s: result %v beside an error", what, r)
		}
	}
}

// isNothing reports whether a value is the zero value, for which an empty list counts too (R3).
func isNothing(v reflect.Value) bool {
	switch v.Kind() {
	case reflect.Slice:
		return v.Len() == 0
	case reflect.Struct:
		for i := range v.NumField() {
			if !isNothing(v.Field(i)) {
				return false
			}
		}
		return true
	}
	return v.IsZero()
}

// anyOf returns one of some values.
func anyOf[T any](r *rand.Rand, l ...T) T {
	return l[r.IntN(len(l))]
}

// anyRing returns a ring whose numbers are so simple that operating points are often rational.
func anyRing(r *rand.Rand) circuit.Ring {
	out := circuit.Ring{Density: whole(1 + r.IntN(2))}
	for range 1 + r.IntN(3) {
		out.Sections = append(out.Sections, circuit.Section{Area: whole(1 + r.IntN(3)), Loss: whole(r.IntN(3))})
	}
	out.Sections[0].Loss = whole(1 + r.IntN(2))
	return out
}

// anyFan returns a fan with up to six knots, of which many are near the losses of the ring, or where they are.
func anyFan(r *rand.Rand, of circuit.Ring) circuit.Fan {
	f := circuit.Fan{Speed: anyOf(r, 1, 3, 100, api.MaxRevs)}
	resistance, _ := circuit.Resistance(of)
	flow := exact.Num{}
	for range 2 + r.IntN(5) {
		loss := resistance.Mul(flow).Mul(flow)
		rise := loss.Add(num(anyOf(r, "0", "0", "1", "-1", "1/2", "-1/3", "3")))
		f.Knots = append(f.Knots, circuit.Knot{Flow: flow, Rise: rise})
		flow = flow.Add(num(anyOf(r, "1", "1/2", "2", "1/3")))
	}
	return f
}

// anyPlant returns a plant with up to four levels, in which some steps are refused for each of the reasons.
func anyPlant(r *rand.Rand) circuit.Plant {
	p := plant()
	p.Drive.Levels = nil
	for _, n := range []int{0, 20, 40, 60, 80, 100} {
		if len(p.Drive.Levels) < 4 && r.IntN(3) > 0 {
			p.Drive.Levels = append(p.Drive.Levels, n)
		}
	}
	if len(p.Drive.Levels) == 0 {
		p.Drive.Levels = []int{r.IntN(api.MaxRevs + 1)}
	}
	p.Drive.Up, p.Drive.Down = r.IntN(4)*20, r.IntN(6)*20
	for range r.IntN(3) {
		from := r.IntN(100)
		p.Drive.Bands = append(p.Drive.Bands, [2]int{from, from + 1 + r.IntN(15)})
	}
	p.Drive.Flow = anyOf(r, only("2"), span("1", "2"), span("0", "5/3"))
	p.Drive.Power = num(anyOf(r, "20", "20", "12", "16", "5"))
	p.Cooler = circuit.Cooler{
		Capacity: num(anyOf(r, "10", "3", "5/2")),
		Rate:     num(anyOf(r, "0", "1", "2", "5/2")),
		Cold:     num(anyOf(r, "0", "-1", "1/3")),
		Hot:      num(anyOf(r, "2", "4", "3/2", "10")),
	}
	return p
}

// anyState returns a state that may have a level, or another speed.
func anyState(r *rand.Rand, p circuit.Plant) circuit.State {
	s := circuit.State{Speed: anyOf(r, p.Drive.Levels...)}
	if r.IntN(4) == 0 {
		s.Speed = r.IntN(120) - 10
	}
	s.Heat = anyOf(r, only("0"), only("1"), span("-1", "1/2"), span("0", "3"))
	return s
}

// lists calls a function with all lists of so many levels, in ascending order.
func lists(levels []int, n int, call func(l []int)) {
	if n == 0 {
		call(nil)
		return
	}
	for _, first := range levels {
		lists(levels, n-1, func(l []int) { call(slices.Concat([]int{first}, l)) })
	}
}
