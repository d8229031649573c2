package guard_test

import (
	"testing"

	"venturi/api"
	"venturi/guard"
)

// locks returns all locks that are valid.
func locks() []api.Lock {
	var all []api.Lock
	for doors := 1; doors <= 3; doors++ {
		for people := 1; people <= 4; people++ {
			for coast := 1; coast <= 9; coast++ {
				for sensors := 1; sensors <= 3; sensors++ {
					for votes := 1; votes <= sensors; votes++ {
						all = append(all, api.Lock{Doors: doors, People: people, Coast: coast, Sensors: sensors, Votes: votes})
					}
				}
			}
		}
	}
	return all
}

// P9.11: the form of the models.
func TestHall(t *testing.T) {
	m, e := guard.Hall(api.Lock{Doors: 1, People: 1, Coast: 1, Sensors: 1, Votes: 1})
	isModel(t, "example 4", m, e,
		"fan 0 2 0", "in 0 1 0", "d0 0 1 0", "s0_0 0 1 0",
		"start: and(=(v0 0) =(v1 0) not(<(0 count(v3)))): v0 := 2",
		"stop: and(=(v0 2)): v0 := 1",
		"tick: and(<(0 v0) <(v0 2)): v0 := -(v0 1)",
		"open0: and(=(v2 0) =(v0 0)): v2 := 1, v3 := 1",
		"close0: and(=(v2 1)): v2 := 0, v3 := 0",
		"enter0: and(=(v2 1) <(v1 1)): v1 := +(v1 1)",
		"leave0: and(=(v2 1) <(0 v1)): v1 := -(v1 1)",
		"hurt: and(<(0 v1) not(=(v0 0)))",
	)
	m, e = guard.Hall(api.Lock{Doors: 2, People: 4, Coast: 9, Sensors: 3, Votes: 2})
	isModel(t, "two doors", m, e,
		"fan 0 10 0", "in 0 4 0", "d0 0 1 0", "s0_0 0 1 0", "s0_1 0 1 0", "s0_2 0 1 0", "d1 0 1 0", "s1_0 0 1 0", "s1_1 0 1 0", "s1_2 0 1 0",
		"start: and(=(v0 0) =(v1 0) not(<(1 count(v3 v4 v5))) not(<(1 count(v7 v8 v9)))): v0 := 10",
		"stop: and(=(v0 10)): v0 := 9",
		"tick: and(<(0 v0) <(v0 10)): v0 := -(v0 1)",
		"open0: and(=(v2 0) =(v0 0)): v2 := 1, v3 := 1, v4 := 1, v5 := 1",
		"close0: and(=(v2 1)): v2 := 0, v3 := 0, v4 := 0, v5 := 0",
		"enter0: and(=(v2 1) <(v1 4)): v1 := +(v1 1)",
		"leave0: and(=(v2 1) <(0 v1)): v1 := -(v1 1)",
		"open1: and(=(v6 0) =(v0 0)): v6 := 1, v7 := 1, v8 := 1, v9 := 1",
		"close1: and(=(v6 1)): v6 := 0, v7 := 0, v8 := 0, v9 := 0",
		"enter1: and(=(v6 1) <(v1 4)): v1 := +(v1 1)",
		"leave1: and(=(v6 1) <(0 v1)): v1 := -(v1 1)",
		"hurt: and(<(0 v1) not(=(v0 0)))",
	)
	three, _ := hall(t, api.Lock{Doors: 3, People: 1, Coast: 1, Sensors: 1, Votes: 1})
	isText(t, "start of three doors", three.Moves[0].When, "and(=(v0 0) =(v1 0) not(<(0 count(v3))) not(<(0 count(v5))) not(<(0 count(v7))))")
}

// P9.11: the sensors are the variables whose names begin with s.
func TestSensors(t *testing.T) {
	l, e := guard.Sensors(api.Lock{Doors: 2, People: 1, Coast: 1, Sensors: 3, Votes: 1})
	isList(t, "Sensors", l, e, 3, 4, 5, 7, 8, 9)
	for _, l := range locks() {
		m, sensors := hall(t, l)
		isError(t, "Check", guard.Check(m), api.OK)
		var want []int
		for i, x := range m.Vars {
			if x.Name[0] == 's' {
				want = append(want, i)
			}
		}
		isList(t, "Sensors", sensors, api.OK, want...)
	}
}

// P9.11: locks that are not valid.
func TestHallErrors(t *testing.T) {
	for _, x := range [][5]int{
		{}, {0, 1, 1, 1, 1}, {4, 1, 1, 1, 1}, {1, 0, 1, 1, 1}, {1, 5, 1, 1, 1}, {1, 1, 0, 1, 1}, {1, 1, 10, 1, 1}, {1, 1, 1, 0, 0}, {1, 1, 1, 0, 1}, {1, 1, 1, 4, 1},
		{1, 1, 1, 1, 0}, {1, 1, 1, 1, 2}, {1, 1, 1, 3, 4}, {-1, 1, 1, 1, 1}, {1, -1, 1, 1, 1}, {1, 1, -1, 1, 1}, {1, 1, 1, -1, -1}, {1, 1, 1, 1, -1}, {1 << 40, 1 << 40, 1 << 40, 1 << 40, 1 << 40},
	} {
		l := api.Lock{Doors: x[0], People: x[1], Coast: x[2], Sensors: x[3], Votes: x[4]}
		m, e := guard.Hall(l)
		isError(t, "Hall", e, api.ErrArg, m)
		s, e := guard.Sensors(l)
		isError(t, "Sensors", e, api.ErrArg, s)
	}
}

// P9.4, P9.11, P9.15: all test sections are safe, with the states that people can count: the fan stands still with each door open or closed and some people inside, or it does not with closed doors and nobody inside.
func TestHallIsSafe(t *testing.T) {
	for _, l := range locks() {
		m, _ := hall(t, l)
		f, e := guard.Explore(m)
		depth := max(l.People+2, l.People+l.Doors, l.Coast+1) // all inside behind one closed door, or behind open ones; or the last period in which the fan coasts
		isValue(t, "Explore", f, e, guard.Finding{Safe: true, States: (l.People+1)<<l.Doors + l.Coast + 1, Depth: depth, Test: -1})
	}
	m, sensors := hall(t, api.Lock{Doors: 1, People: 1, Coast: 1, Sensors: 1, Votes: 1})
	f, e := guard.Explore(m)
	isValue(t, "example 4", f, e, guard.Finding{Safe: true, States: 6, Depth: 3, Test: -1})
	f, e = guard.Explore(faulty(t, m, sensors, 1))
	is(t, "example 5", len(f.Path), e, 4)
	is(t, "example 5", f.Safe, e, false)
}

// P9.12: the invariant of a test section is too long for Prove, but a shorter term proves it.
func TestHallIsProved(t *testing.T) {
	m, _ := hall(t, api.Lock{Doors: 1, People: 1, Coast: 1, Sensors: 1, Votes: 1})
	inv, e := guard.Invariant(m)
	is(t, "states", len(inv.Kids), e, 6)
	closed := op(api.OpAnd, op(api.OpEqual, v(2), n(0)), op(api.OpEqual, v(1), n(0)))
	same := op(api.OpEqual, v(2), v(3))
	short := op(api.OpAnd, same, op(api.OpOr, op(api.OpEqual, v(0), n(0)), closed))
	x, e := guard.Prove(m, inv)
	isError(t, "79 terms", e, api.ErrArg, x)
	x, e = guard.Prove(m, short)
	isValue(t, "a short invariant", x, e, guard.Verdict{Holds: true})
	x, e = guard.Prove(m, short.Kids[1])
	isValue(t, "without the sensor", x, e, guard.Verdict{Kind: api.FlawStep, State: []int{0, 0, 1, 0}})
}

// hurt returns a path that hurts somebody if more sensors fail than may: those of the door 0, then the door is opened, the fan starts, and somebody enters.
func hurt(l api.Lock) []int {
	var path []int
	for k := range l.Sensors - l.Votes + 1 {
		path = append(path, 3+4*l.Doors+2*k)
	}
	return append(path, 3, 0, 5)
}

// P9.15: with n failing sensors a test section is safe just if n is at most Sensors - Votes.
func TestHallWithFaults(t *testing.T) {
	for _, l := range locks() {
		m, sensors := hall(t, l)
		spare := l.Sensors - l.Votes
		path := hurt(l)
		test, e := guard.Faulty(faulty(t, m, sensors, spare+1), path)
		is(t, "hurt", test, e, 0)
		state, e := guard.Follow(faulty(t, m, sensors, spare), path)
		isError(t, "not hurt", e, api.ErrPath, state)
		if l.Coast != 2 || l.People != 1 && l.Doors != 1 {
			continue
		}
		for most := range l.Sensors + 1 {
			f, e := guard.Explore(faulty(t, m, sensors, most))
			is(t, "safe", f.Safe, e, most <= spare)
			if most > spare {
				is(t, "as short as that", f.Depth, e, len(path))
			}
		}
	}
}
