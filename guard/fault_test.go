package guard_test

import (
	"slices"
	"strconv"
	"testing"

	"venturi/api"
	"venturi/guard"
)

// P9.10: the form of the model.
func TestWithFaults(t *testing.T) {
	m := swap()
	m.Vars = append(m.Vars, api.Var{Name: "c", Low: 4, Start: 4, High: 5})
	m.Moves = append(m.Moves, api.Move{Name: "reset", When: n(1), Sets: []api.Set{set(2, n(5)), set(1, op(api.OpSub, v(0), n(1)))}})
	with, e := guard.WithFaults(m, []int{2, 0}, 1)
	isModel(t, "WithFaults", with, e,
		"a 1 4 2", "b 0 5 3", "c 4 5 4", "f0 0 1 0", "f1 0 1 0",
		"swap: -(v0 v1): v0 := if(v4 v0 v1), v1 := v0",
		"reset: 1: v2 := if(v3 v2 5), v1 := -(v0 1)",
		"f0_4: and(not(v3) <(count(v3 v4) 1)): v3 := 1, v2 := 4",
		"f0_5: and(not(v3) <(count(v3 v4) 1)): v3 := 1, v2 := 5",
		"f1_1: and(not(v4) <(count(v3 v4) 1)): v4 := 1, v0 := 1",
		"f1_2: and(not(v4) <(count(v3 v4) 1)): v4 := 1, v0 := 2",
		"f1_3: and(not(v4) <(count(v3 v4) 1)): v4 := 1, v0 := 3",
		"f1_4: and(not(v4) <(count(v3 v4) 1)): v4 := 1, v0 := 4",
		"more: <(v0 v1)", "sum: -(+(v0 v1) 7)",
	)
	isError(t, "Check", guard.Check(with), api.OK)
	none, e := guard.WithFaults(m, nil, 1000)
	isValue(t, "without sensors", none, e, m)
	none, e = guard.WithFaults(second(), []int{0}, 0)
	isModel(t, "no faults", none, e,
		"x 0 3 0", "f0 0 1 0",
		"up: <(v0 3): v0 := if(v1 v0 +(v0 1))", "two: =(v0 1): v0 := if(v1 v0 +(v0 2))",
		"f0_0: and(not(v1) <(count(v1) 0)): v1 := 1, v0 := 0", "f0_1: and(not(v1) <(count(v1) 0)): v1 := 1, v0 := 1",
		"f0_2: and(not(v1) <(count(v1) 0)): v1 := 1, v0 := 2", "f0_3: and(not(v1) <(count(v1) 0)): v1 := 1, v0 := 3",
		"three: =(v0 3)",
	)
}

// P9.10: numbers of more than one digit.
func TestWithManyFaults(t *testing.T) {
	m := grid(0, 0, 0, 0, 0, 0, 0, 0, 0, 0, 12)
	with, e := guard.WithFaults(m, []int{0, 1, 2, 3, 4, 5, 6, 7, 8, 9, 10}, 3)
	is(t, "variables", len(with.Vars), e, 22)
	is(t, "moves", len(with.Moves), e, 11+10+13)
	is(t, "the last variable", with.Vars[21].Name, e, "f10")
	is(t, "the last move", with.Moves[33].Name, e, "f10_12")
	isError(t, "Check", guard.Check(with), api.OK)
}

// renamed returns a model with other names of the first variable and the first move.
func renamed(m api.Model, variable, move string) api.Model {
	m.Vars, m.Moves = slices.Clone(m.Vars), slices.Clone(m.Moves)
	m.Vars[0].Name, m.Moves[0].Name = variable, move
	return m
}

// P9.10: arguments that are not valid, and names that are there.
func TestWithFaultsErrors(t *testing.T) {
	m := renamed(swap(), "f0", "f0_0") // whatever comes later
	for what, sensors := range map[string][]int{"-1": {-1}, "no variable": {0, 2}, "twice": {1, 0, 1}, "many": make([]int, 1000000)} {
		with, e := guard.WithFaults(m, sensors, 1)
		isError(t, what, e, api.ErrArg, with)
	}
	for _, most := range []int{-1, 1001, 1 << 40} {
		with, e := guard.WithFaults(m, []int{0}, most)
		isError(t, "most", e, api.ErrArg, with)
	}
	faulty(t, swap(), []int{0, 1}, 1000)
	for _, c := range []struct {
		variable, move string
		sensors        []int
		want           api.Errno
	}{
		{"f0", "x", []int{1}, api.ErrTwice}, {"f1", "x", []int{1, 0}, api.ErrTwice}, {"f1", "x", []int{1}, api.OK}, {"f2", "x", []int{1, 0}, api.OK},
		{"x", "f0_0", []int{1}, api.ErrTwice}, {"x", "f0_5", []int{1}, api.ErrTwice}, {"x", "f0_6", []int{1}, api.OK}, {"x", "f0_0", []int{0}, api.OK},
		{"x", "f1_4", []int{1, 0}, api.ErrTwice}, {"f0_0", "f0", []int{1}, api.OK}, {"f0", "f0_0", nil, api.OK},
	} {
		with, e := guard.WithFaults(renamed(swap(), c.variable, c.move), c.sensors, 1)
		if c.want != api.OK {
			isError(t, c.variable+" "+c.move, e, c.want, with)
		} else if e != api.OK {
			t.Error(c, e)
		}
	}
}

// P9.10: models that become too large; what is twice is told first.
func TestWithFaultsFull(t *testing.T) {
	ends := slices.Repeat([]int{0}, 23)
	faulty(t, grid(ends...), []int{5}, 1)
	with, e := guard.WithFaults(grid(ends...), []int{5, 6}, 1)
	isError(t, "25 variables", e, api.ErrFull, with)
	with, e = guard.WithFaults(renamed(grid(ends...), "f1", "x0"), []int{5, 6}, 1)
	isError(t, "25 variables, one twice", e, api.ErrTwice, with)
	with, e = guard.WithFaults(grid(0, 0, 63), []int{0, 1}, 1)
	isValue(t, "few moves", len(with.Moves), e, 5)
	faulty(t, grid(19, 17), []int{0, 1}, 1) // 2 + 20 + 18 moves
	with, e = guard.WithFaults(grid(19, 18), []int{0, 1}, 1)
	isError(t, "41 moves", e, api.ErrFull, with)
	with, e = guard.WithFaults(renamed(grid(19, 18), "x0", "f1_18"), []int{0, 1}, 1)
	isError(t, "41 moves, one twice", e, api.ErrTwice, with)
	to := func(terms int) api.Model { return termOf(1, long(n(0), terms)) }
	faulty(t, to(api.MaxTree-3), []int{0}, 1)
	for terms := api.MaxTree - 2; terms <= api.MaxTree; terms++ {
		with, e = guard.WithFaults(to(terms), []int{0}, 1)
		isError(t, "too many terms", e, api.ErrFull, with)
		faulty(t, to(terms), nil, 1)
	}
	with, e = guard.WithFaults(full(), []int{0}, 1)
	isError(t, "a full model", e, api.ErrFull, with)
}

// failing returns the values of all variables of m that can be reached if at most so many of the sensors fail.
func failing(t *testing.T, m api.Model, sensors []int, most int) map[string]bool {
	t.Helper()
	seen := map[string]bool{}
	for _, w := range ways(faulty(t, m, sensors, most)) {
		seen[text(op(api.OpAdd, numbers(w.state[:len(m.Vars)])...))] = true
	}
	return seen
}

// subset reports whether all of a are in b.
func subset(a, b map[string]bool) bool {
	for x := range a {
		if !b[x] {
			return false
		}
	}
	return true
}

// P9.10: what a sensor does that fails: it keeps its value whatever a move assigns, and the moves that assign it stay possible.
func TestFailed(t *testing.T) {
	with := faulty(t, second(), []int{0}, 1)
	state, e := guard.Follow(with, []int{0, 3, 0, 1, 0}) // up, f0_1, up, two, up
	isList(t, "failed at 1", state, e, 1, 1)
	state, e = guard.Follow(with, []int{2, 3})
	isError(t, "failed twice", e, api.ErrPath, state)
	two := faulty(t, swap(), []int{1, 0}, 1)
	state, e = guard.Follow(two, []int{3, 0}) // f0_2, then swap: b is 2 and stays
	isError(t, "not possible if they are equal", e, api.ErrPath, state)
	state, e = guard.Follow(two, []int{2, 0}) // f0_1: b stays 1, a becomes 1
	isList(t, "b failed at 1", state, e, 1, 1, 1, 0)
	state, e = guard.Follow(two, []int{2, 8})
	isError(t, "two of one", e, api.ErrPath, state)
	state, e = guard.Follow(faulty(t, swap(), []int{1, 0}, 2), []int{2, 8})
	isList(t, "two of two", state, e, 2, 1, 1, 1)
}

// P9.14: with more faults more can be reached.
func TestMoreFaults(t *testing.T) {
	for r, m := range models(150) {
		sensors := r.Perm(len(m.Vars))[:1+r.IntN(len(m.Vars))]
		own := map[string]bool{}
		for _, w := range ways(m) {
			own[text(op(api.OpAdd, numbers(w.state)...))] = true
		}
		safe, _ := guard.Explore(m)
		for most := range len(sensors) + 2 {
			more := failing(t, m, sensors, most)
			if !subset(own, more) {
				t.Error("less with faults", most, len(own), len(more))
			}
			if most == 0 && len(own) != len(more) {
				t.Error("more without faults", len(own), len(more))
			}
			f, e := guard.Explore(faulty(t, m, sensors, most))
			if e != api.OK || f.Safe && !safe.Safe {
				t.Error("safe with "+strconv.Itoa(most)+" faults", f, safe, e)
			}
			own, safe = more, f
		}
	}
}
