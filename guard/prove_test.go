package guard_test

import (
	"slices"
	"testing"

	"venturi/api"
	"venturi/guard"
)

// below returns the term that is 1 if the variable 0 is less than a number.
func below(x int) api.Term { return op(api.OpLess, v(0), n(x)) }

// P9.7: the example 3, and what else can be wrong.
func TestProve(t *testing.T) {
	rules := termOf(1, n(4)) // the move two leads from 1 to 4
	first := second()
	first.Vars[0].Start = 2
	for _, c := range []struct {
		what string
		m    api.Model
		inv  api.Term
		want guard.Verdict
	}{
		{"example 3", second(), below(3), guard.Verdict{Kind: api.FlawStep, State: []int{1}, Move: 1}},
		{"0 at first", second(), n(0), guard.Verdict{Kind: api.FlawStart, State: []int{0}}},
		{"0 at first, bad elsewhere", first, op(api.OpSub, v(0), n(2)), guard.Verdict{Kind: api.FlawStart, State: []int{2}}},
		{"true everywhere", second(), n(-1), guard.Verdict{Kind: api.FlawBad, State: []int{3}}},
		{"a step", second(), below(1), guard.Verdict{Kind: api.FlawStep, State: []int{0}}},
		{"the rules", rules, below(3), guard.Verdict{Kind: api.FlawRules, State: []int{1}, Move: 1}},
		{"the first move", rules, below(2), guard.Verdict{Kind: api.FlawStep, State: []int{1}}},
		{"a state that is not reached", first, op(api.OpNot, op(api.OpEqual, v(0), n(3))), guard.Verdict{Kind: api.FlawStep, State: []int{1}, Move: 1}},
		{"proved", api.Model{Vars: second().Vars, Moves: second().Moves[1:], Tests: second().Tests}, op(api.OpNot, v(0)), guard.Verdict{Holds: true}},
		{"proved with wrong states outside", second(), op(api.OpEqual, v(0), n(0)), guard.Verdict{Kind: api.FlawStep, State: []int{0}}},
	} {
		x, e := guard.Prove(c.m, c.inv)
		isValue(t, c.what, x, e, c.want)
	}
	two := second()
	two.Tests = append([]api.Test{{Name: "five", Bad: op(api.OpEqual, v(0), n(5))}}, two.Tests...)
	x, e := guard.Prove(two, n(1))
	isValue(t, "the second test", x, e, guard.Verdict{Kind: api.FlawBad, State: []int{3}, Move: 1})
}

// proved returns what Prove should return.
func proved(m api.Model, inv api.Term) guard.Verdict {
	var first []int
	for _, x := range m.Vars {
		first = append(first, x.Start)
	}
	if meaning(inv, first) == 0 {
		return guard.Verdict{Kind: api.FlawStart, State: first}
	}
	for _, state := range every(m) {
		if meaning(inv, state) == 0 {
			continue
		}
		if is, test := wrong(m, state); is && test >= 0 {
			return guard.Verdict{Kind: api.FlawBad, State: state, Move: test}
		}
		for i := range m.Moves {
			next, possible, breaks := moved(m, state, i)
			if possible && breaks {
				return guard.Verdict{Kind: api.FlawRules, State: state, Move: i}
			}
			if possible && meaning(inv, next) == 0 {
				return guard.Verdict{Kind: api.FlawStep, State: state, Move: i}
			}
		}
	}
	return guard.Verdict{Holds: true}
}

// P9.7, P9.12: any terms as invariants of any models; if one is proved, Explore finds no wrong state.
func TestProveAny(t *testing.T) {
	kinds := map[api.Flaw]int{}
	for r, m := range models(3000) {
		inv := anyTerm(r, len(m.Vars), 3)
		if r.IntN(2) == 0 {
			inv = op(api.OpNot, op(api.OpAnd, inv, anyTerm(r, len(m.Vars), 2)))
		}
		x, e := guard.Prove(m, inv)
		isValue(t, text(inv), x, e, proved(m, inv))
		kinds[x.Kind]++
		if f, e := guard.Explore(m); x.Holds && (e != api.OK || !f.Safe) {
			t.Error("proved, but not safe", x, f, e)
		}
	}
	for kind := api.Flaw(0); kind <= api.FlawStep; kind++ {
		if kinds[kind] < 50 {
			t.Error("too few verdicts of the kind", kind, kinds)
		}
	}
}

// P9.7: terms that are not valid, and models with too many states.
func TestProveErrors(t *testing.T) {
	for what, term := range wrongTerms() {
		x, e := guard.Prove(second(), term)
		isError(t, what, e, api.ErrArg, x)
		x, e = guard.Prove(grid(63, 63, 63), op(api.OpAdd, v(3), term))
		isError(t, what+", many states", e, api.ErrArg, x)
	}
	x, e := guard.Prove(second(), long(n(1), api.MaxTree))
	isValue(t, "60 terms", x, e, guard.Verdict{Kind: api.FlawBad, State: []int{3}})
	x, e = guard.Prove(grid(49, 19, 19), n(1))
	isValue(t, "20000 states", x, e, guard.Verdict{Holds: true})
	for _, m := range []api.Model{grid(50, 19, 19), grid(49, 20, 19), grid(49, 19, 19, 1), full()} {
		x, e = guard.Prove(m, n(0))
		isError(t, "many states", e, api.ErrMany, x)
	}
	low := grid(49, 19, 19, 63) // of one variable all values but one are below Low
	low.Vars[3].Low, low.Vars[3].Start = 63, 63
	x, e = guard.Prove(low, n(1))
	isValue(t, "20000 states, with a Low", x, e, guard.Verdict{Holds: true})
}

// P9.8: the form of an invariant.
func TestInvariant(t *testing.T) {
	m := swap()
	m.Tests = nil
	inv, e := guard.Invariant(m)
	is(t, "Invariant", text(inv), e, "or(and(=(v0 2) =(v1 3)) and(=(v0 3) =(v1 2)))")
	m.Vars[0].Start, m.Vars[1].Start = 4, 2 // the states are found in descending order
	inv, e = guard.Invariant(m)
	is(t, "Invariant", text(inv), e, "or(and(=(v0 2) =(v1 4)) and(=(v0 4) =(v1 2)))")
	for _, m := range []api.Model{counter(n(1)), second(), swap()} {
		inv, e = guard.Invariant(m)
		isError(t, "not safe", e, api.ErrState, inv)
	}
	byTest := last(49, 19, 19)
	byTest.Tests = []api.Test{{Name: "one", Bad: v(0)}}
	inv, e = guard.Invariant(byTest)
	isError(t, "many states, not safe", e, api.ErrState, inv)
}

// P9.8, P9.12: the invariants of any models are true in the states that can be reached, in no others, and they prove the model.
func TestInvariantOfAny(t *testing.T) {
	safe, long := 0, 0
	for _, m := range models(2000) {
		inv, e := guard.Invariant(m)
		if !explored(m).Safe {
			isError(t, "not safe", e, api.ErrState, inv)
			continue
		}
		safe++
		var all [][]int
		for _, w := range ways(m) {
			all = append(all, w.state)
		}
		slices.SortFunc(all, slices.Compare)
		is(t, "kids", len(inv.Kids), e, len(all))
		for _, state := range every(m) {
			_, reached := slices.BinarySearchFunc(all, state, slices.Compare)
			if (meaning(inv, state) != 0) != reached {
				t.Error("the state", state, reached, text(inv))
			}
		}
		if len(numbersOf(inv)) > api.MaxTree {
			long++
			continue
		}
		x, e := guard.Prove(m, inv)
		isValue(t, text(inv), x, e, guard.Verdict{Holds: true})
	}
	if safe < 300 || safe-long < 100 {
		t.Error("too few models that are safe", safe, long)
	}
}

// P9.12: no path of a safe model reaches a wrong state.
func TestSafe(t *testing.T) {
	for r, m := range models(1000) {
		f, e := guard.Explore(m)
		if e != api.OK || !f.Safe {
			continue
		}
		state, path := []int{}, []int{}
		for range 30 {
			state, e = guard.Follow(m, path)
			if is, test := wrong(m, state); e != api.OK || is {
				t.Fatal("a wrong state", path, state, test)
			}
			moves, e := guard.Next(m, state)
			if e != api.OK || len(moves) == 0 {
				break
			}
			path = append(path, moves[r.IntN(len(moves))])
		}
	}
}
