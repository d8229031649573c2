package guard_test

import (
	"slices"
	"testing"

	"venturi/api"
	"venturi/guard"
)

// P9.4: the examples 1 and 2, and models without any move.
func TestExplore(t *testing.T) {
	f, e := guard.Explore(counter(n(1)))
	isValue(t, "example 1", f, e, guard.Finding{States: 2, Depth: 1, Path: []int{1}, Test: -1})
	f, e = guard.Explore(second())
	isValue(t, "example 2", f, e, guard.Finding{States: 3, Depth: 2, Path: []int{0, 1}, Test: 0})
	still := api.Model{Vars: second().Vars}
	f, e = guard.Explore(still)
	isValue(t, "no move", f, e, guard.Finding{Safe: true, States: 1, Test: -1})
	still.Tests = []api.Test{{Name: "no", Bad: n(0)}, {Name: "yes", Bad: n(-1)}, {Name: "too", Bad: n(1)}}
	f, e = guard.Explore(still)
	isValue(t, "wrong at first", f, e, guard.Finding{Test: 1})
	f, e = guard.Explore(termOf(1, n(-1)))
	isValue(t, "below Low", f, e, guard.Finding{States: 1, Depth: 1, Path: []int{0}, Test: -1})
	both := counter(n(1))
	both.Tests = append(both.Tests, api.Test{Name: "one", Bad: op(api.OpEqual, v(0), n(2))})
	f, e = guard.Explore(both)
	isValue(t, "a test and the rules", f, e, guard.Finding{States: 2, Depth: 1, Path: []int{1}, Test: 1})
}

// P9.4: states that need as many moves are looked at in the order of their paths, not of their values.
func TestExploreOrder(t *testing.T) {
	to := func(name string, from, to int) api.Move {
		return api.Move{Name: name, When: op(api.OpEqual, v(0), n(from)), Sets: []api.Set{set(0, n(to))}}
	}
	m := api.Model{
		Vars:  []api.Var{{Name: "x", High: 9}},
		Moves: []api.Move{to("a", 5, 7), to("b", 2, 8), to("c", 0, 5), to("d", 0, 2), to("e", 5, 8), to("f", 8, 0)},
	}
	order := []int{0, 5, 2, 7, 8} // with the paths none, 2, 3, 2 0, 2 4
	paths := [][]int{nil, {2}, {3}, {2, 0}, {2, 4}}
	for k, state := range order {
		m.Tests = []api.Test{{Name: "there", Bad: op(api.OpEqual, v(0), n(state))}}
		f, e := guard.Explore(m)
		isValue(t, "Explore", f, e, guard.Finding{States: k, Depth: len(paths[k]), Path: paths[k]})
	}
	m.Tests = nil
	f, e := guard.Explore(m)
	isValue(t, "Explore", f, e, guard.Finding{Safe: true, States: 5, Depth: 2, Test: -1})
}

// P9.4, P9.13: any models, against all paths in their order.
func TestExploreOfAny(t *testing.T) {
	kinds := map[string]int{}
	for _, m := range models(3000) {
		want := explored(m)
		f, e := guard.Explore(m)
		isValue(t, "Explore", f, e, want)
		switch {
		case f.Safe && f.States > 3:
			kinds["safe"]++
		case f.Test < 0 && f.Depth > 1:
			kinds["rules"]++
		case f.Test >= 0 && f.Depth > 1:
			kinds["test"]++
		}
	}
	for _, k := range []string{"safe", "rules", "test"} {
		if kinds[k] < 30 {
			t.Error("too few models that are", k, kinds)
		}
	}
}

// last returns a model of so many variables of a grid, and one more that a move makes 1 when all others have their greatest values: it has one state more than the grid.
func last(ends ...int) api.Model {
	m := grid(append(ends, 1)...)
	all := op(api.OpAnd, op(api.OpEqual, v(len(ends)), n(0)))
	for i, end := range ends {
		all.Kids = append(all.Kids, op(api.OpEqual, v(i), n(end)))
	}
	m.Moves[len(ends)].When = all
	return m
}

// P9.4, P9.8: as many states as may be looked at, and one more.
func TestExploreMany(t *testing.T) {
	grid20000, grid20001 := grid(49, 19, 19), last(49, 19, 19)
	f, e := guard.Explore(grid20000)
	isValue(t, "20000 states", f, e, guard.Finding{Safe: true, States: 20000, Depth: 87, Test: -1})
	inv, e := guard.Invariant(grid20000)
	is(t, "the invariant of 20000 states", len(inv.Kids), e, 20000)
	f, e = guard.Explore(grid20001)
	isError(t, "20001 states", e, api.ErrMany, f)
	inv, e = guard.Invariant(grid20001)
	isError(t, "the invariant of 20001 states", e, api.ErrMany, inv)

	at := func(x, y, z int) api.Term {
		return op(api.OpAnd, op(api.OpEqual, v(0), n(x)), op(api.OpEqual, v(1), n(y)), op(api.OpEqual, v(2), n(z)))
	}
	grid20001.Tests = []api.Test{{Name: "end", Bad: at(49, 19, 19)}}
	path := slices.Concat(slices.Repeat([]int{0}, 49), slices.Repeat([]int{1}, 19), slices.Repeat([]int{2}, 19))
	f, e = guard.Explore(grid20001)
	isValue(t, "the state 19999 is wrong", f, e, guard.Finding{States: 19999, Depth: 87, Path: path})
	grid20001.Tests[0].Bad = v(3)
	f, e = guard.Explore(grid20001)
	isError(t, "the state 20000 is wrong", e, api.ErrMany, f)

	many := grid(63, 63, 63, 63)
	many.Tests = []api.Test{{Name: "near", Bad: op(api.OpEqual, op(api.OpAdd, v(0), v(1), v(2), v(3)), n(20))}}
	f, e = guard.Explore(many) // 10626 states need at most 20 moves, of which 1771 need 20
	isValue(t, "wrong among many", f, e, guard.Finding{States: 8855, Depth: 20, Path: make([]int, 20)})
	many.Tests[0].Bad = op(api.OpEqual, v(0), n(40))
	f, e = guard.Explore(many)
	isError(t, "wrong behind many", e, api.ErrMany, f)
}

// P9.5: paths that reach a state, and such that reach none.
func TestFollow(t *testing.T) {
	state, e := guard.Follow(second(), nil)
	isList(t, "no moves", state, e, 0)
	state, e = guard.Follow(second(), []int{0, 1})
	isList(t, "to a wrong state", state, e, 3)
	state, e = guard.Follow(counter(n(1)), []int{0, 0, 0})
	isList(t, "through wrong states", state, e, 3)
	for what, path := range map[string][]int{"not possible": {1}, "then not possible": {0, 1, 0}, "below 0": {-1}, "no move": {0, 2}} {
		state, e = guard.Follow(second(), path)
		isError(t, what, e, api.ErrPath, state)
		test, e := guard.Faulty(second(), path)
		isError(t, what, e, api.ErrPath, test)
	}
	state, e = guard.Follow(counter(n(1)), []int{1, 1})
	isError(t, "the rules", e, api.ErrPath, state)
}

// P9.5, P9.6: paths of as many moves as there may be, and more.
func TestFollowLong(t *testing.T) {
	stay := api.Model{Vars: second().Vars, Moves: []api.Move{{Name: "stay", When: n(1)}}}
	state, e := guard.Follow(stay, make([]int, api.MaxStates))
	isList(t, "20000 moves", state, e, 0)
	test, e := guard.Faulty(stay, make([]int, api.MaxStates))
	isError(t, "20000 moves", e, api.ErrSafe, test)
	for _, path := range [][]int{make([]int, api.MaxStates+1), slices.Repeat([]int{-1}, api.MaxStates+1)} {
		state, e = guard.Follow(stay, path)
		isError(t, "20001 moves", e, api.ErrLong, state)
		test, e = guard.Faulty(stay, path)
		isError(t, "20001 moves", e, api.ErrLong, test)
	}
}

// P9.6: what is wrong where a path leads.
func TestFaulty(t *testing.T) {
	test, e := guard.Faulty(second(), []int{0, 1})
	is(t, "a test", test, e, 0)
	test, e = guard.Faulty(counter(n(1)), []int{1})
	is(t, "the rules", test, e, -1)
	for _, path := range [][]int{nil, {0}, {0, 0}} {
		test, e = guard.Faulty(second(), path)
		isError(t, "nothing", e, api.ErrSafe, test)
	}
	two := second()
	two.Tests = append([]api.Test{{Name: "five", Bad: op(api.OpEqual, v(0), n(5))}}, two.Tests...)
	test, e = guard.Faulty(two, []int{0, 1})
	is(t, "the second test", test, e, 1)
}

// P9.5, P9.6: any paths of any models, against steps one by one.
func TestFollowAny(t *testing.T) {
	for r, m := range models(1000) {
		for range 10 {
			state, e := guard.Start(m)
			var path []int
			for range r.IntN(6) {
				i := r.IntN(len(m.Moves)+2) - 1
				path = append(path, i)
				if e == api.OK {
					state, e = guard.Step(m, state, i)
				}
			}
			got, found := guard.Follow(m, path)
			test, told := guard.Faulty(m, path)
			if e != api.OK {
				isError(t, "Follow", found, api.ErrPath, got)
				isError(t, "Faulty", told, api.ErrPath, test)
				continue
			}
			isList(t, "Follow", got, found, state...)
			if is, want := wrong(m, state); !is {
				isError(t, "Faulty", told, api.ErrSafe, test)
			} else if told != api.OK || test != want {
				t.Error("Faulty", test, told, want)
			}
		}
	}
}

// P9.13: the path of Explore reaches a wrong state; no shorter path does.
func TestShortest(t *testing.T) {
	for _, m := range models(1500) {
		f, e := guard.Explore(m)
		if e != api.OK || f.Safe {
			continue
		}
		test, e := guard.Faulty(m, f.Path)
		is(t, "the path of Explore", test, e, f.Test)
		paths := [][]int{nil}
		for length := 0; length < min(f.Depth, 4); length++ {
			var longer [][]int
			for _, path := range paths {
				if test, e := guard.Faulty(m, path); e == api.OK {
					t.Error("a shorter path", path, test, f)
				}
				for i := range m.Moves {
					longer = append(longer, append(slices.Clone(path), i))
				}
			}
			paths = longer
		}
	}
}
