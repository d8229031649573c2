package probe_test

import (
	"math/rand/v2"
	"reflect"
	"strings"
	"testing"

	"venturi/api"
	"venturi/exact"
	"venturi/probe"
)

// memory returns where all lists in a value are, those of the digits of numbers too.
func memory(v reflect.Value) []uintptr {
	var found []uintptr
	switch v.Kind() {
	case reflect.Interface:
		return memory(v.Elem())
	case reflect.Slice:
		if v.Len() > 0 {
			found = append(found, v.Pointer())
		}
		for i := range v.Len() {
			found = append(found, memory(v.Index(i))...)
		}
	case reflect.Struct:
		for i := range v.NumField() {
			found = append(found, memory(v.Field(i))...)
		}
	}
	return found
}

// apart checks that a result shares no memory with an argument, nor with itself.
func apart(t *testing.T, what string, arguments, result any) {
	t.Helper()
	seen := map[uintptr]bool{}
	for _, p := range memory(reflect.ValueOf(arguments)) {
		seen[p] = true
	}
	for _, p := range memory(reflect.ValueOf(result)) {
		if seen[p] {
			t.Errorf("%s shares memory", what)
		}
		seen[p] = true
	}
}

// given is all that the functions get.
type given struct {
	Port     probe.Port
	Boxes    []exact.Box
	Record   []exact.Num
	Numbers  []exact.Num
	Table    []probe.Knot
	Read     exact.Box
	Value    exact.Box
	Readings []probe.Reading
}

// anyGiven returns the same as another call with the same numbers, in new memory.
func anyGiven(a, b uint64) given {
	random := rand.New(rand.NewPCG(a, b))
	g := given{Port: anyPort(random), Boxes: []exact.Box{anyBox(random), anyBox(random), anyBox(random)}}
	if random.IntN(3) == 0 { // a tube that stays as it is
		g.Boxes[1] = exact.Point(g.Boxes[0].Lo())
		g.Boxes[0] = exact.Point(g.Boxes[0].Lo())
	}
	g.Record, _ = anyRecord(random, g.Port)
	g.Record = append(g.Record, anyNum(random))
	g.Numbers = []exact.Num{anyNum(random).Abs(), anyNum(random).Abs(), quotient(whole(random.IntN(9)), whole(9))}
	g.Table = anyTable(random, true)
	g.Read, g.Value = smaller(random, reads(g.Table)), smaller(random, values(g.Table))
	for range random.IntN(9) {
		g.Readings = append(g.Readings, reading(random.IntN(3), random.IntN(api.MaxModules), anyBox(random)))
	}
	return g
}

// R4: results are new memory, and no argument is changed.
func TestMemory(t *testing.T) {
	for n := range uint64(500) {
		g, before := anyGiven(n, 4), anyGiven(n, 4)
		check := func(what string, results ...any) { t.Helper(); apart(t, what, g, results) }
		probe.CheckPort(g.Port)
		moments, _ := probe.Follow(g.Port, g.Boxes[0], g.Boxes[1:])
		check("Follow", moments)
		probe.Settled(g.Port, g.Numbers[0], g.Numbers[1])
		probe.Agrees(g.Port, g.Record, g.Numbers[0])
		pressure, _ := probe.Pressure(g.Port, g.Record)
		check("Pressure", pressure)
		probe.Still(g.Port, g.Record, g.Numbers[0])
		probe.Tight(g.Port, g.Record, g.Numbers[0], g.Numbers[2])
		probe.CheckTable(g.Table)
		value, _ := probe.Look(g.Table, g.Read)
		check("Look", value)
		read, _ := probe.Back(g.Table, g.Value)
		check("Back", read)
		coefficient, _ := probe.Coefficient(g.Boxes[0], g.Boxes[1], g.Boxes[2])
		check("Coefficient", coefficient)
		angle, _ := probe.Angle(g.Table, g.Boxes[0], g.Boxes[1], g.Boxes[2])
		check("Angle", angle)
		mean, _ := probe.Mean(g.Boxes[:1+n%3])
		check("Mean", mean)
		probe.Uniform(g.Boxes, g.Numbers[0])
		suspects, _ := probe.Suspects(g.Readings)
		check("Suspects", suspects)
		if !reflect.DeepEqual(g, before) {
			t.Fatal("an argument was changed", g, before)
		}
	}
}

// R4: a change of a result changes no other one.
func TestNewEachTime(t *testing.T) {
	l := []probe.Reading{reading(0, 7, only("1")), reading(0, 3, only("2"))}
	sets, _ := probe.Suspects(l)
	sets[0][0], sets[1] = 5, nil
	sets, e := probe.Suspects(l)
	isSets(t, "again", sets, e, []int{3}, []int{7})
}

// P1: values at the edges of what there is, and lists of any length, end without a panic.
func TestAnyValue(t *testing.T) {
	const many = 100000
	p := port("0")
	l, e := probe.Follow(p, exact.Box{}, make([]exact.Box, many))
	isError(t, "many pressures", e, api.ErrLong, l)
	ok, e := probe.Agrees(p, make([]exact.Num, many), exact.Num{})
	isError(t, "many readings", e, api.ErrLong, ok)
	isError(t, "many knots", probe.CheckTable(make([]probe.Knot, many)), api.ErrArg)
	b, e := probe.Mean(make([]exact.Box, many))
	isError(t, "many boxes", e, api.ErrLong, b)
	sets, e := probe.Suspects(make([]probe.Reading, many))
	isError(t, "many taps", e, api.ErrLong, sets)
	isError(t, "no knot", probe.CheckTable(make([]probe.Knot, 2)), api.ErrArg)

	tiny, huge := "1/1"+strings.Repeat("0", 300), "1"+strings.Repeat("0", 300)
	slow := probe.Port{Gain: only(tiny)}
	k, e := probe.Settled(slow, num(huge), num("1"))
	isError(t, "a slow tube", e, api.ErrNever, k)
	k, e = probe.Settled(slow, num("1"), num("1").Sub(num(tiny)))
	is(t, "a slow tube", k, e, 1)
	b, e = probe.Pressure(slow, nums("0", "1"))
	isBox(t, "a slow tube", b, e, huge, huge)
	b, e = probe.Look([]probe.Knot{{}, {Read: num(tiny), Value: num(huge)}}, between(num("0"), num(tiny)))
	isBox(t, "a steep table", b, e, "0", huge)
}
