package guard

import (
	"slices"

	"venturi/api"
)

// Finding is what looking at all states found.
type Finding struct {
	Safe   bool
	States int   // how many were looked at
	Depth  int   // the most moves that a state needs
	Path   []int // the moves to what is wrong
	Test   int   // the test that is true there, or -1
}

// key is the values of a state, and 0 behind them.
type key [api.MaxVars]uint8

// keyOf returns the key of a valid state.
func keyOf(state []int) key {
	var k key
	for i, x := range state {
		k[i] = uint8(x)
	}
	return k
}

// reached is a state that can be reached, and the last move of its path, from the state with the number from.
type reached struct {
	state      []int
	from, move int
}

// search is the states of a valid model that were found: as each one adds what its moves lead to in their order, they are in the order of Explore.
type search struct {
	model api.Model
	found []reached
	known map[key]bool
}

// add keeps a state unless it is known, or there are already more than may be looked at.
func (s *search) add(r reached) {
	k := keyOf(r.state)
	if s.known[k] || len(s.found) > api.MaxStates {
		return
	}
	s.known[k] = true
	s.found = append(s.found, r)
}

// look adds the states to which moves lead from the state with a number, and reports whether this one is not wrong.
func (s *search) look(from int) bool {
	state := s.found[from].state
	if bad(s.model, state) >= 0 {
		return false
	}
	for i, move := range s.model.Moves {
		if !isPossible(move, state) {
			continue
		}
		next, kept := after(s.model, state, move)
		if !kept {
			return false
		}
		s.add(reached{next, from, i})
	}
	return true
}

// path returns the path of the state with a number.
func (s *search) path(number int) []int {
	var path []int
	for ; number > 0; number = s.found[number].from {
		path = append(path, s.found[number].move)
	}
	slices.Reverse(path)
	return path
}

// explore looks at states as Explore does, and returns the number of the first one that is wrong, or -1; its errors are those of Explore.
func explore(m api.Model) (*search, int, api.Errno) {
	if e := Check(m); e != api.OK {
		return nil, 0, e
	}
	s := &search{model: m, known: map[key]bool{}}
	s.add(reached{state: begin(m)})
	for i := 0; i < len(s.found); i++ {
		if i == api.MaxStates {
			return nil, 0, api.ErrMany
		}
		if !s.look(i) {
			return s, i, api.OK
		}
	}
	return s, -1, api.OK
}

// Explore looks at all states that can be reached, up to the first one that is wrong; ErrModel, ErrMany if there are more than may be looked at.
func Explore(m api.Model) (Finding, api.Errno) {
	s, wrong, e := explore(m)
	if e != api.OK {
		return Finding{}, e
	}
	if wrong < 0 {
		last := len(s.found) - 1
		return Finding{Safe: true, States: len(s.found), Depth: len(s.path(last)), Test: -1}, api.OK
	}
	path := s.path(wrong)
	return Finding{States: wrong, Depth: len(path), Path: path, Test: bad(m, s.found[wrong].state)}, api.OK
}

// Follow returns the state that a path reaches; ErrModel, ErrLong if the path has more than MaxStates moves, ErrPath if it reaches none.
func Follow(m api.Model, path []int) ([]int, api.Errno) {
	if e := Check(m); e != api.OK {
		return nil, e
	}
	if len(path) > api.MaxStates {
		return nil, api.ErrLong
	}
	state := begin(m)
	for _, i := range path {
		if i < 0 || i >= len(m.Moves) || !isPossible(m.Moves[i], state) {
			return nil, api.ErrPath
		}
		next, kept := after(m, state, m.Moves[i])
		if !kept {
			return nil, api.ErrPath
		}
		state = next
	}
	return state, api.OK
}

// Faulty returns the first test that is true in the state that a path reaches, or -1 if a move breaks the rules there; the errors of Follow, ErrSafe if the state is not wrong.
func Faulty(m api.Model, path []int) (int, api.Errno) {
	state, e := Follow(m, path)
	if e != api.OK {
		return 0, e
	}
	test := bad(m, state)
	if test < 0 && !breaks(m, state) {
		return 0, api.ErrSafe
	}
	return test, api.OK
}
