package guard

import (
	"iter"
	"slices"

	"venturi/api"
)

// begin returns the state at first.
func begin(m api.Model) []int {
	state := make([]int, len(m.Vars))
	for i, v := range m.Vars {
		state[i] = v.Start
	}
	return state
}

// isPossible reports whether a move is possible in a state.
func isPossible(move api.Move, state []int) bool { return value(move.When, state) != 0 }

// after returns the state to which a possible move leads, and false if it breaks the rules.
func after(m api.Model, state []int, move api.Move) ([]int, bool) {
	next := slices.Clone(state)
	for _, s := range move.Sets {
		x := value(s.To, state)
		if !has(m.Vars[s.Var], x) {
			return nil, false
		}
		next[s.Var] = x
	}
	return next, true
}

// bad returns the first test that is true in a state, or -1.
func bad(m api.Model, state []int) int {
	return slices.IndexFunc(m.Tests, func(t api.Test) bool { return value(t.Bad, state) != 0 })
}

// breaks reports whether some possible move breaks the rules in a state.
func breaks(m api.Model, state []int) bool {
	return slices.ContainsFunc(m.Moves, func(move api.Move) bool {
		if !isPossible(move, state) {
			return false
		}
		_, kept := after(m, state, move)
		return !kept
	})
}

// states yields all valid states of a model in ascending order.
func states(m api.Model) iter.Seq[[]int] {
	return func(yield func([]int) bool) {
		var state []int
		for _, v := range m.Vars {
			state = append(state, v.Low)
		}
		for yield(slices.Clone(state)) && advance(m.Vars, state) {
		}
	}
}

// advance makes the next valid state in ascending order, or returns false if there is none.
func advance(vars []api.Var, state []int) bool {
	for i, v := range slices.Backward(vars) {
		if state[i] < v.High {
			state[i]++
			return true
		}
		state[i] = v.Low
	}
	return false
}

// check returns the errors that functions of a model and a state have first.
func check(m api.Model, state []int) api.Errno {
	if e := Check(m); e != api.OK {
		return e
	}
	if !slices.EqualFunc(m.Vars, state, has) {
		return api.ErrArg
	}
	return api.OK
}

// Start returns the state at first; ErrModel.
func Start(m api.Model) ([]int, api.Errno) {
	if e := Check(m); e != api.OK {
		return nil, e
	}
	return begin(m), api.OK
}

// Next returns the moves that are possible in a state, also those that break the rules; ErrModel, ErrArg if the state is not valid.
func Next(m api.Model, state []int) ([]int, api.Errno) {
	if e := check(m, state); e != api.OK {
		return nil, e
	}
	var moves []int
	for i, move := range m.Moves {
		if isPossible(move, state) {
			moves = append(moves, i)
		}
	}
	return moves, api.OK
}

// Step returns the state to which a move leads; ErrModel, ErrArg if the state is not valid, ErrRange if there is no such move, ErrState if it is not possible, ErrRules if it breaks the rules.
func Step(m api.Model, state []int, move int) ([]int, api.Errno) {
	if e := check(m, state); e != api.OK {
		return nil, e
	}
	if move < 0 || move >= len(m.Moves) {
		return nil, api.ErrRange
	}
	if !isPossible(m.Moves[move], state) {
		return nil, api.ErrState
	}
	next, kept := after(m, state, m.Moves[move])
	if !kept {
		return nil, api.ErrRules
	}
	return next, api.OK
}

// Bad returns the first test that is true in a state, or -1; ErrModel, ErrArg if the state is not valid.
func Bad(m api.Model, state []int) (int, api.Errno) {
	if e := check(m, state); e != api.OK {
		return 0, e
	}
	return bad(m, state), api.OK
}
