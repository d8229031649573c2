package balance_test

import (
	"math"
	"math/rand/v2"
	"slices"
	"testing"

	"venturi/api"
	"venturi/balance"
	"venturi/exact"
)

// wrongAttitudes returns attitudes that are not valid.
func wrongAttitudes() map[string][]balance.Turn {
	turn := balance.Turn{Axis: 1, T: num("1/2")}
	return map[string][]balance.Turn{
		"axis -1":        {{Axis: -1}},
		"axis 3":         {{Axis: 3}},
		"the least axis": {{Axis: math.MinInt}},
		"the most axis":  {{Axis: math.MaxInt}},
		"the last turn":  append(slices.Repeat([]balance.Turn{turn}, 7), balance.Turn{Axis: 3}),
		"the first turn": {{Axis: -1}, turn},
		"nine turns":     slices.Repeat([]balance.Turn{turn}, 9),
	}
}

// P5.1
func TestCheckAttitude(t *testing.T) {
	for what, a := range wrongAttitudes() {
		isError(t, what, balance.CheckAttitude(a), api.ErrArg)
		v, e := balance.Turned(vector("1", "2", "3"), a)
		isError(t, "Turned with "+what, e, api.ErrArg, v)
		v, e = balance.Back(vector("1", "2", "3"), a)
		isError(t, "Back with "+what, e, api.ErrArg, v)
		l, e := balance.Tare(num("1"), vector("1", "2", "3"), a)
		isError(t, "Tare with "+what, e, api.ErrArg, l)
	}
	for _, a := range [][]balance.Turn{nil, {}, {{}}, {{Axis: 2, T: num("-7/3")}}, slices.Repeat([]balance.Turn{{Axis: 1, T: num("1")}}, 8)} {
		isError(t, "a valid attitude", balance.CheckAttitude(a), api.OK)
	}
}

// P5.1
func TestTurned(t *testing.T) {
	half := num("1/2") // c is 3/5, s is 4/5
	for axis, want := range [3][3]string{{"1", "-1.2", "3.4"}, {"3", "2", "1"}, {"-1", "2", "3"}} {
		v, e := balance.Turned(vector("1", "2", "3"), []balance.Turn{{Axis: axis, T: half}})
		isVector(t, "a turn", v, e, want[0], want[1], want[2])
		v, e = balance.Back(v, []balance.Turn{{Axis: axis, T: half}})
		isVector(t, "and back", v, e, "1", "2", "3")
	}
	v, e := balance.Turned(vector("1", "0", "0"), []balance.Turn{{Axis: 2, T: half}})
	isVector(t, "the example", v, e, "0.6", "0.8", "0")
	for _, a := range [][]balance.Turn{nil, {}, {{Axis: 1}}} {
		v, e = balance.Turned(vector("1", "2", "-3"), a)
		isVector(t, "no turn", v, e, "1", "2", "-3")
		v, e = balance.Back(vector("1", "2", "-3"), a)
		isVector(t, "no turn back", v, e, "1", "2", "-3")
	}
	right := []balance.Turn{{Axis: 0, T: num("1")}, {Axis: 2, T: num("1")}, {Axis: 1, T: num("-1")}}
	v, e = balance.Turned(vector("1", "2", "3"), right[:1])
	isVector(t, "a right angle about x", v, e, "1", "-3", "2")
	v, e = balance.Turned(vector("1", "2", "3"), right[:2])
	isVector(t, "then about z", v, e, "3", "1", "2")
	v, e = balance.Turned(vector("1", "2", "3"), right)
	isVector(t, "then about y, the other way", v, e, "-2", "1", "3")
	v, e = balance.Back(vector("-2", "1", "3"), right)
	isVector(t, "all three back", v, e, "1", "2", "3")
	v, e = balance.Turned(balance.Vector{}, right)
	isVector(t, "nothing", v, e, "0", "0", "0")
}

// turnedByRows does a turn by the rows of its matrix, as the document writes them.
func turnedByRows(v balance.Vector, turn balance.Turn) balance.Vector {
	one := whole(1)
	square := turn.T.Mul(turn.T)
	c := quotient(one.Sub(square), one.Add(square))
	s := quotient(whole(2).Mul(turn.T), one.Add(square))
	zero, minus := exact.Num{}, s.Neg()
	rows := [3][3][3]exact.Num{
		{{one, zero, zero}, {zero, c, minus}, {zero, s, c}},
		{{c, zero, s}, {zero, one, zero}, {minus, zero, c}},
		{{c, minus, zero}, {s, c, zero}, {zero, zero, one}},
	}
	var out balance.Vector
	for i, row := range rows[turn.Axis] {
		out[i] = sum(row[:], v[:])
	}
	return out
}

// P5.1
func TestTurnedByRows(t *testing.T) {
	r := rand.New(rand.NewPCG(5, 1))
	for range 200 {
		v, a := anyVector(r), anyAttitude(r)
		want := v
		for _, turn := range a {
			want = turnedByRows(want, turn)
		}
		got, e := balance.Turned(v, a)
		if e != api.OK || !sameNums(got[:], want[:]) {
			t.Fatalf("Turned of %v by %v: %v, error %d, instead of %v", v, a, got, e, want)
		}
		back, e := balance.Back(got, a)
		if e != api.OK || !sameNums(back[:], v[:]) {
			t.Fatalf("Back of %v by %v: %v, error %d, instead of %v", got, a, back, e, v)
		}
	}
}

// P5.2
func TestMove(t *testing.T) {
	l := balance.Load{Force: vector("1", "2", "3"), Moment: vector("10", "20", "30")}
	m := balance.Move(l, vector("5", "7", "11")) // the cross product is (-1, -4, 3)
	isVector(t, "the force", m.Force, api.OK, "1", "2", "3")
	isVector(t, "the moment", m.Moment, api.OK, "11", "24", "27")
	m = balance.Move(l, balance.Vector{})
	isVector(t, "the force of no move", m.Force, api.OK, "1", "2", "3")
	isVector(t, "the moment of no move", m.Moment, api.OK, "10", "20", "30")
	m = balance.Move(l, vector("2", "4", "6"))
	isVector(t, "a move along the force", m.Moment, api.OK, "10", "20", "30")
	m = balance.Move(balance.Load{Force: vector("0", "0", "-8")}, vector("2", "0", "0"))
	isVector(t, "a move along x", m.Moment, api.OK, "0", "-16", "0")
	m = balance.Move(balance.Load{}, vector("2", "4", "6"))
	isVector(t, "the moment of nothing", m.Moment, api.OK, "0", "0", "0")
}

// P5.2
func TestTare(t *testing.T) {
	l, e := balance.Tare(num("10"), vector("2", "0", "0"), []balance.Turn{{Axis: 1, T: num("1/3")}})
	isVector(t, "the force of the example", l.Force, e, "6", "0", "-8")
	isVector(t, "the moment of the example", l.Moment, e, "0", "16", "0")
	l, e = balance.Tare(num("10"), vector("2", "3", "-5"), nil)
	isVector(t, "the force upright", l.Force, e, "0", "0", "-10")
	isVector(t, "the moment upright", l.Moment, e, "-30", "20", "0")
	l, e = balance.Tare(num("10"), vector("2", "3", "-5"), []balance.Turn{{Axis: 0, T: num("1")}, {Axis: 1, T: num("1/2")}})
	isVector(t, "the force of two turns", l.Force, e, "8", "-6", "0")
	isVector(t, "the moment of two turns", l.Moment, e, "-30", "-40", "-36")
	l, e = balance.Tare(num("-10"), vector("2", "3", "-5"), nil)
	isVector(t, "the force of a balloon", l.Force, e, "0", "0", "10")
	isVector(t, "the moment of a balloon", l.Moment, e, "30", "-20", "0")
}
