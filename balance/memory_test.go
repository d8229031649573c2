package balance_test

import (
	"math/rand/v2"
	"reflect"
	"slices"
	"strings"
	"testing"

	"venturi/api"
	"venturi/balance"
	"venturi/exact"
	"venturi/fit"
)

// memory returns where all lists in a value are, those of the digits of numbers too.
func memory(v reflect.Value) []uintptr {
	var found []uintptr
	switch v.Kind() {
	case reflect.Interface:
		return memory(v.Elem())
	case reflect.Slice, reflect.Array:
		if v.Kind() == reflect.Slice && v.Len() > 0 {
			found = append(found, v.Pointer())
		}
		for i := range v.Len() {
			found = append(found, memory(v.Index(i))...)
		}
	case reflect.Struct:
		for i := range v.NumField() {
			found = append(found, memory(v.Field(i))...)
		}
	}
	return found
}

// apart checks that a result shares no memory with an argument, nor with itself.
func apart(t *testing.T, what string, arguments, result any) {
	t.Helper()
	seen := map[uintptr]bool{}
	for _, p := range memory(reflect.ValueOf(arguments)) {
		seen[p] = true
	}
	for _, p := range memory(reflect.ValueOf(result)) {
		if seen[p] {
			t.Errorf("%s shares memory", what)
		}
		seen[p] = true
	}
}

// given is all that the functions get.
type given struct {
	Vectors          []balance.Vector
	Attitude         []balance.Turn
	Calibration      balance.Calibration
	Hooks            []balance.Hook
	Loadings         []balance.Loading
	Readings         [][]exact.Num
	Read, Within     []exact.Box
	Limits           []balance.Limit
	Components       int
	Rounds           int
	Grid             exact.Num
	Loads, Direction []exact.Num
}

// anyGiven returns the same as another call with the same numbers, in new memory.
func anyGiven(a, b uint64) given {
	r := rand.New(rand.NewPCG(a, b))
	n := 1 + r.IntN(3)
	g := given{Vectors: []balance.Vector{anyVector(r), anyVector(r), anyVector(r)}, Components: n}
	if g.Attitude = anyAttitude(r); r.IntN(3) == 0 {
		g.Attitude = nil
	}
	g.Calibration, g.Within = anyCalibration(r, n), anyBoxes(r, n)
	g.Loads = inAll(r, g.Within)
	g.Read = around(reading(g.Calibration, g.Loads), anyNum(r).Abs())
	g.Rounds, g.Grid = r.IntN(4), anyOf(r, nums("0", "1/3")...)
	g.Hooks, g.Loadings, _ = anyRig(r, n, 2*len(g.Calibration.Form.Terms))
	for range g.Loadings {
		g.Readings = append(g.Readings, anyNums(r, n))
	}
	g.Limits, g.Direction = anyLimits(r, n), anyNums(r, n)
	return g
}

// R4: results are new memory, and no argument is changed.
func TestMemory(t *testing.T) {
	calibrated := 0
	for k := range uint64(300) {
		g, before := anyGiven(k, 5), anyGiven(k, 5)
		check := func(what string, results ...any) { t.Helper(); apart(t, what, g, results) }
		balance.CheckAttitude(g.Attitude)
		v, _ := balance.Turned(g.Vectors[0], g.Attitude)
		back, _ := balance.Back(g.Vectors[1], g.Attitude)
		check("Turned, Back", v, back)
		moved := balance.Move(balance.Load{Force: g.Vectors[0], Moment: g.Vectors[1]}, g.Vectors[2])
		check("Move", moved, balance.Move(moved, balance.Vector{}))
		tare, _ := balance.Tare(g.Vectors[0][0], g.Vectors[1], g.Attitude)
		check("Tare", tare)
		applied, _ := balance.Applied(g.Components, g.Hooks, g.Loadings[0])
		check("Applied", applied)
		c, fits, e := balance.Calibrate(g.Calibration.Form, g.Hooks, g.Loadings, g.Readings)
		check("Calibrate", c, fits)
		if e == api.OK {
			calibrated++
		}
		balance.CheckCalibration(g.Calibration)
		read, _ := balance.Read(g.Calibration, g.Loads)
		check("Read", read)
		inverse, _ := balance.Invert(g.Calibration, g.Read, g.Within, g.Rounds, g.Grid)
		slope, _ := balance.Slope(g.Calibration, g.Within)
		check("Invert, Slope", inverse, slope)
		balance.Allowed(g.Limits, g.Within)
		balance.Sweep(g.Limits, g.Loads, g.Direction)
		room, _, _ := balance.Room(g.Limits, g.Loads, g.Direction)
		check("Room", room)
		if !reflect.DeepEqual(g, before) {
			t.Fatal("an argument was changed", g, before)
		}
	}
	if calibrated < 50 {
		t.Error("few were calibrated:", calibrated)
	}
}

// R4: a change of a result changes no other one, and no argument.
func TestNewEachTime(t *testing.T) {
	f := bent("0", "0").Form
	readings := [][]exact.Num{nums("2.1"), nums("4.4")}
	c, fits, e := balance.Calibrate(f, []balance.Hook{nums("1")}, loadings("1", "2"), readings)
	c.Form.Terms[0][0], c.Coefs[0][0] = 7, num("9")
	areNums(t, "a fit", fits[0].Coefs, e, "2", "0.1")
	if !slices.EqualFunc(f.Terms, [][]int{{1}, {2}}, slices.Equal) {
		t.Error("the form was changed:", f)
	}
	within := boxes(1, span("0", "4"))
	v, e := balance.Invert(bent("2", "0.1"), boxes(1, only("4.4")), within, 0, exact.Num{})
	v.Loads[0] = only("9")
	if !within[0].Equal(span("0", "4")) || e != api.OK {
		t.Error("the boxes were changed:", within, e)
	}
}

// P1: lists of any length, and long numbers, end without a panic.
func TestAnyValue(t *testing.T) {
	const many = 100000
	isError(t, "many turns", balance.CheckAttitude(make([]balance.Turn, many)), api.ErrArg)
	l, e := balance.Applied(2, make([]balance.Hook, many), balance.Loading{})
	isError(t, "many hooks", e, api.ErrArg, l)
	l, e = balance.Applied(2, rig(), balance.Loading{Hooks: make([]int, many), Weights: make([]exact.Num, many)})
	isError(t, "many weights", e, api.ErrArg, l)
	f := bent("0", "0").Form
	c, fits, e := balance.Calibrate(f, []balance.Hook{nums("1")}, make([]balance.Loading, many), make([][]exact.Num, many))
	isError(t, "many loadings", e, api.ErrLong, c, fits)
	isError(t, "many terms", balance.CheckCalibration(balance.Calibration{Form: fit.Form{Inputs: 1, Terms: make([][]int, many)}}), api.ErrArg)
	isError(t, "many coefs", balance.CheckCalibration(balance.Calibration{Form: f, Coefs: make([][]exact.Num, many)}), api.ErrArg)
	l, e = balance.Read(bent("2", "0.1"), make([]exact.Num, many))
	isError(t, "many loads", e, api.ErrArg, l)
	v, e := balance.Invert(bent("2", "0.1"), make([]exact.Box, many), make([]exact.Box, many), 1, exact.Num{})
	isError(t, "many boxes", e, api.ErrArg, v)
	k, e := balance.Allowed(make([]balance.Limit, many), nil)
	isError(t, "many limits", e, api.ErrArg, k)
	k, e = balance.Sweep(nil, make([]exact.Num, many), make([]exact.Num, many))
	isError(t, "many loads", e, api.ErrArg, k)

	tiny, huge := "1/1"+strings.Repeat("0", 300), "1"+strings.Repeat("0", 300)
	turned, e := balance.Back(vector(huge, "0", "1"), []balance.Turn{{Axis: 2, T: num(huge)}, {Axis: 2, T: num(tiny)}})
	isVector(t, "two turns that are half a turn together", turned, e, "-"+huge, "0", "1")
	v, e = balance.Invert(bent(tiny, huge), boxes(1, only("0")), boxes(1, only("0")), api.MaxRounds, num(huge))
	isInverse(t, "a steep reading", v, e, true, "0", "0")
	s, e := balance.Slope(bent(tiny, huge), boxes(1, only(tiny)))
	isNum(t, "a steep slope", s, e, "2"+strings.Repeat("0", 300))
	room, some, e := balance.Room([]balance.Limit{limit(huge, tiny)}, nums("0"), nums("1"))
	isNum(t, "room", room, e, "1"+strings.Repeat("0", 600))
	is(t, "room", some, e, true)
}
