package circuit_test

import (
	"math/rand/v2"
	"reflect"
	"slices"
	"strings"
	"testing"

	"venturi/api"
	"venturi/circuit"
)

// memory returns where all lists in a value are, those of the digits of numbers too.
func memory(v reflect.Value) []uintptr {
	var found []uintptr
	switch v.Kind() {
	case reflect.Interface:
		return memory(v.Elem())
	case reflect.Slice:
		if v.Len() > 0 {
			found = append(found, v.Pointer())
		}
		for i := range v.Len() {
			found = append(found, memory(v.Index(i))...)
		}
	case reflect.Struct:
		for i := range v.NumField() {
			found = append(found, memory(v.Field(i))...)
		}
	}
	return found
}

// apart checks that a result shares no memory with an argument, nor with itself.
func apart(t *testing.T, what string, arguments, result any) {
	t.Helper()
	seen := map[uintptr]bool{}
	for _, p := range memory(reflect.ValueOf(arguments)) {
		seen[p] = true
	}
	for _, p := range memory(reflect.ValueOf(result)) {
		if seen[p] {
			t.Errorf("%s shares memory", what)
		}
		seen[p] = true
	}
}

// given is all that the functions get.
type given struct {
	Plant  circuit.Plant
	State  circuit.State
	Points []circuit.Point
	Speeds []int
	Table  [][]circuit.Cell
}

// anyGiven returns the same as another call with the same numbers, in new memory.
func anyGiven(a, b uint64) given {
	random := rand.New(rand.NewPCG(a, b))
	g := given{Plant: anyPlant(random)}
	g.Plant.Ring = anyRing(random)
	g.Plant.Fan = anyFan(random, g.Plant.Ring)
	if random.IntN(3) == 0 { // no power and no cooling: then the temperature stays equal
		g.Plant.Drive.Levels, g.Plant.Cooler.Rate = []int{0}, num("0")
	}
	g.State = anyState(random, g.Plant)
	g.Points, _ = circuit.Points(g.Plant.Ring, g.Plant.Fan, num("1/3"))
	g.Speeds = []int{g.Plant.Drive.Levels[0], g.Plant.Drive.Levels[0]}
	g.Table, _ = circuit.Table(g.Plant, g.State, 3)
	return g
}

// R4: results are new memory, and no argument is changed.
func TestMemory(t *testing.T) {
	for n := range uint64(300) {
		g, before := anyGiven(n, 3), anyGiven(n, 3)
		p := g.Plant
		check := func(what string, results ...any) { t.Helper(); apart(t, what, g, results) }
		resistance, _ := circuit.Resistance(p.Ring)
		check("Resistance", resistance)
		speed, pressure, loss, _ := circuit.Drop(p.Ring, 0, p.Fan.Knots[1].Flow)
		check("Drop", speed, pressure, loss)
		rise, _ := circuit.Rise(p.Fan, p.Fan.Speed, p.Fan.Knots[1].Flow)
		check("Rise", rise)
		points, _ := circuit.Points(p.Ring, p.Fan, num("1/3"))
		check("Points", points)
		circuit.Certify(p.Ring, p.Fan, g.Points)
		power, _ := circuit.Power(p, 100)
		check("Power", power)
		state, _ := circuit.Step(p, g.State, g.Speeds[0])
		check("Step", state)
		states, _, _ := circuit.Run(p, g.State, g.Speeds)
		check("Run", states)
		speeds, _ := circuit.Soonest(p, g.State, p.Drive.Levels[len(p.Drive.Levels)-1], 4)
		check("Soonest", speeds)
		table, _ := circuit.Table(p, g.State, 4)
		check("Table", table)
		circuit.Proves(p, g.State, 7, 3, g.Table)
		if !reflect.DeepEqual(g, before) {
			t.Fatal("an argument was changed", g, before)
		}
	}
}

// R4: a change of a result changes no other one.
func TestNewEachTime(t *testing.T) {
	l, _ := circuit.Soonest(plant(), at(0, "0"), 100, 5)
	slices.Reverse(l)
	again, e := circuit.Soonest(plant(), at(0, "0"), 100, 5)
	isRun(t, "again", again, e, 50, 100)
	table, _ := circuit.Table(plant(), at(0, "0"), 2)
	table[1][1] = circuit.Cell{}
	table, e = circuit.Table(plant(), at(0, "0"), 2)
	isTable(t, "again", table, e, "0 - - / 0 0.2 - / 0 0.2 1.78 /")
}

// P1: values at the edges of what there is, and lists of any length, end without a panic.
func TestAnyValue(t *testing.T) {
	long := make([]circuit.Point, 100000)
	if ok, e := circuit.Certify(unit(), hill(), long); e != api.OK || ok {
		t.Error("a long list", ok, e)
	}
	sections := make([]circuit.Section, 100000)
	isError(t, "a long ring", circuit.CheckRing(circuit.Ring{Density: num("1"), Sections: sections}), api.ErrArg)
	isError(t, "a long fan", circuit.CheckFan(circuit.Fan{Speed: 1, Knots: make([]circuit.Knot, 100000)}), api.ErrArg)
	table := make([][]circuit.Cell, 100000)
	if ok, e := circuit.Proves(plant(), at(0, "0"), 100, 5, table); e != api.OK || ok {
		t.Error("a long table", ok, e)
	}
	l, n, e := circuit.Run(plant(), at(0, "0"), make([]int, 100000))
	isError(t, "a long run", e, api.ErrLong, l, n)
	huge, tiny := num("1"+strings.Repeat("0", 1000)), num("1/1"+strings.Repeat("0", 1000))
	flat := fan([2]string{"0", "2"}, [2]string{"2", "2"})
	for _, grid := range []string{huge.String(), tiny.String()} {
		points, e := circuit.Points(unit(), flat, num(grid))
		if ok, e2 := circuit.Certify(unit(), flat, points); e != api.OK || e2 != api.OK || !ok || len(points) != 1 {
			t.Error("a grid of many digits", shown(points), e, ok, e2)
		}
	}
	s, e := circuit.Step(plant(), circuit.State{Heat: at(0, tiny.String()).Heat}, 50)
	if e != api.OK || s.Heat.Hi().Cmp(num("1/5").Add(tiny.Mul(num("9/10")))) != 0 {
		t.Error("a heat of many digits", s, e)
	}
}
