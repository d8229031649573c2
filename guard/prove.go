package guard

import (
	"slices"

	"venturi/api"
)

// Verdict says whether an invariant proves a model, or why not.
type Verdict struct {
	Holds bool
	Kind  api.Flaw
	State []int
	Move  int
}

// areMany reports whether there are more valid states than may be looked at.
func areMany(vars []api.Var) bool {
	count := 1
	return slices.ContainsFunc(vars, func(v api.Var) bool {
		count *= v.High - v.Low + 1
		return count > api.MaxStates
	})
}

// flaw returns what is wrong for a state in which an invariant is not 0, with the test or the move; the kind 0 if nothing is.
func flaw(m api.Model, invariant api.Term, state []int) (api.Flaw, int) {
	if test := bad(m, state); test >= 0 {
		return api.FlawBad, test
	}
	for i, move := range m.Moves {
		if !isPossible(move, state) {
			continue
		}
		next, kept := after(m, state, move)
		if !kept {
			return api.FlawRules, i
		}
		if value(invariant, next) == 0 {
			return api.FlawStep, i
		}
	}
	return 0, 0
}

// Prove reports whether an invariant proves a model, or why not; ErrModel, ErrArg if the term is not valid or has more than MaxTree terms, ErrMany if there are more than MaxStates valid states.
func Prove(m api.Model, invariant api.Term) (Verdict, api.Errno) {
	if e := Check(m); e != api.OK {
		return Verdict{}, e
	}
	if !isTree(invariant, len(m.Vars)) {
		return Verdict{}, api.ErrArg
	}
	if areMany(m.Vars) {
		return Verdict{}, api.ErrMany
	}
	if first := begin(m); value(invariant, first) == 0 {
		return Verdict{Kind: api.FlawStart, State: first}, api.OK
	}
	for state := range states(m) {
		if value(invariant, state) == 0 {
			continue
		}
		if kind, i := flaw(m, invariant, state); kind != 0 {
			return Verdict{Kind: kind, State: state, Move: i}, api.OK
		}
	}
	return Verdict{Holds: true}, api.OK
}

// isState returns the term that is not 0 in just one state.
func isState(state []int) api.Term {
	var kids []api.Term
	for i, x := range state {
		kids = append(kids, equals(i, x))
	}
	return op(api.OpAnd, kids...)
}

// Invariant returns a term for just the states that can be reached, in ascending order; the errors of Explore, ErrState if a state is wrong.
func Invariant(m api.Model) (api.Term, api.Errno) {
	s, wrong, e := explore(m)
	if e != api.OK {
		return api.Term{}, e
	}
	if wrong >= 0 {
		return api.Term{}, api.ErrState
	}
	slices.SortFunc(s.found, func(f, g reached) int { return slices.Compare(f.state, g.state) })
	var kids []api.Term
	for _, f := range s.found {
		kids = append(kids, isState(f.state))
	}
	return op(api.OpOr, kids...), api.OK
}
