package guard_test

import (
	"slices"
	"testing"

	"venturi/api"
	"venturi/guard"
)

// swap returns a model of two variables that change places if they are not equal.
func swap() api.Model {
	return api.Model{
		Vars:  []api.Var{{Name: "a", Low: 1, Start: 2, High: 4}, {Name: "b", Start: 3, High: 5}},
		Moves: []api.Move{{Name: "swap", When: op(api.OpSub, v(0), v(1)), Sets: []api.Set{set(0, v(1)), set(1, v(0))}}},
		Tests: []api.Test{{Name: "more", Bad: op(api.OpLess, v(0), v(1))}, {Name: "sum", Bad: op(api.OpSub, op(api.OpAdd, v(0), v(1)), n(7))}},
	}
}

// P9.3: the examples, all at once, and values that are not from Low to High.
func TestSteps(t *testing.T) {
	state, e := guard.Start(swap())
	isList(t, "Start", state, e, 2, 3)
	state, e = guard.Step(swap(), []int{2, 3}, 0)
	isList(t, "Step", state, e, 3, 2)
	for _, from := range [][]int{{1, 5}, {1, 0}} {
		state, e = guard.Step(swap(), from, 0)
		isError(t, "above High, below Low", e, api.ErrRules, state)
		moves, e := guard.Next(swap(), from)
		isList(t, "Next", moves, e, 0)
	}
	state, e = guard.Step(swap(), []int{3, 3}, 0)
	isError(t, "not possible", e, api.ErrState, state)
	moves, e := guard.Next(swap(), []int{3, 3})
	isList(t, "Next", moves, e)
	for _, move := range []int{-1, 1, 1 << 40} {
		state, e = guard.Step(swap(), []int{3, 3}, move)
		isError(t, "no move", e, api.ErrRange, state)
	}
	for _, c := range []struct{ a, b, want int }{{2, 3, 0}, {4, 3, -1}, {4, 2, 1}, {3, 3, 1}} {
		test, e := guard.Bad(swap(), []int{c.a, c.b})
		is(t, "Bad", test, e, c.want)
	}
	moves, e = guard.Next(counter(n(-1)), []int{2})
	isList(t, "Next", moves, e, 0, 1)
	moves, e = guard.Next(counter(n(1)), []int{3})
	isList(t, "Next", moves, e, 1)
	stay := api.Model{Vars: swap().Vars, Moves: []api.Move{{Name: "stay", When: op(api.OpAnd)}}}
	state, e = guard.Step(stay, []int{4, 5}, 0)
	isList(t, "Step without assignments", state, e, 4, 5)
	test, e := guard.Bad(stay, []int{4, 5})
	is(t, "Bad without tests", test, e, -1)
}

// P9.3: states that are not valid, before other errors.
func TestStates(t *testing.T) {
	for _, state := range [][]int{nil, {}, {2}, {2, 3, 0}, {0, 3}, {5, 3}, {2, -1}, {2, 6}, make([]int, 1000000)} {
		next, e := guard.Next(swap(), state)
		isError(t, "Next", e, api.ErrArg, next)
		to, e := guard.Step(swap(), state, 7)
		isError(t, "Step", e, api.ErrArg, to)
		test, e := guard.Bad(swap(), state)
		isError(t, "Bad", e, api.ErrArg, test)
	}
}

// P9.3: any models in all their states, against the meaning of their terms.
func TestStepsOfAny(t *testing.T) {
	for _, m := range models(400) {
		var starts []int
		for _, x := range m.Vars {
			starts = append(starts, x.Start)
		}
		state, e := guard.Start(m)
		isList(t, "Start", state, e, starts...)
		for _, state := range every(m) {
			var possible []int
			for i := range m.Moves {
				next, is, breaks := moved(m, state, i)
				got, e := guard.Step(m, state, i)
				switch {
				case !is:
					isError(t, "Step", e, api.ErrState, got)
				case breaks:
					isError(t, "Step", e, api.ErrRules, got)
				default:
					isList(t, "Step", got, e, next...)
				}
				if is {
					possible = append(possible, i)
				}
			}
			got, e := guard.Next(m, state)
			isList(t, "Next", got, e, possible...)
			first := slices.IndexFunc(m.Tests, func(x api.Test) bool { return meaning(x.Bad, state) != 0 })
			test, e := guard.Bad(m, state)
			is(t, "Bad", test, e, first)
		}
	}
}
