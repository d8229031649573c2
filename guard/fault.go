package guard

import (
	"slices"
	"strconv"

	"venturi/api"
)

// copyModel returns an equal model in new memory.
func copyModel(m api.Model) api.Model {
	copySet := func(s api.Set) api.Set { return api.Set{Var: s.Var, To: copyTerm(s.To)} }
	copyMove := func(move api.Move) api.Move {
		return api.Move{Name: move.Name, When: copyTerm(move.When), Sets: copied(move.Sets, copySet)}
	}
	copyTest := func(t api.Test) api.Test { return api.Test{Name: t.Name, Bad: copyTerm(t.Bad)} }
	return api.Model{Vars: slices.Clone(m.Vars), Moves: copied(m.Moves, copyMove), Tests: copied(m.Tests, copyTest)}
}

// faults is the sensors of a model that can fail, at most some of them; the variables that tell of it are numbered from first on.
type faults struct {
	sensors     []int
	first, most int
}

// name returns the name of the variable that tells whether the sensor k has failed.
func (f faults) name(k int) string { return "f" + strconv.Itoa(k) }

// guarded replaces the To of an assignment to a sensor: one that has failed keeps its value.
func (f faults) guarded(s *api.Set) {
	if k := slices.Index(f.sensors, s.Var); k >= 0 {
		s.To = op(api.OpIf, variable(f.first+k), variable(s.Var), s.To)
	}
}

// move returns the move by which the sensor k fails at a value.
func (f faults) move(k, value int) api.Move {
	var failed []api.Term
	for i := range f.sensors {
		failed = append(failed, variable(f.first+i))
	}
	more := op(api.OpLess, op(api.OpCount, failed...), number(f.most))
	return api.Move{
		Name: f.name(k) + "_" + strconv.Itoa(value),
		When: op(api.OpAnd, op(api.OpNot, variable(f.first+k)), more),
		Sets: []api.Set{{Var: f.first + k, To: number(1)}, {Var: f.sensors[k], To: number(value)}},
	}
}

// WithFaults returns a model in which some variables can fail; ErrModel, ErrArg if the sensors are not different variables or most is not from 0 to 1000, ErrTwice if a new name is there, ErrFull if the new model is too large.
func WithFaults(m api.Model, sensors []int, most int) (api.Model, api.Errno) {
	if e := Check(m); e != api.OK {
		return api.Model{}, e
	}
	none := func(i int) bool { return i < 0 || i >= len(m.Vars) }
	itself := func(i int) int { return i }
	if slices.ContainsFunc(sensors, none) || !differ(sensors, itself) || most < 0 || most > maxNumber {
		return api.Model{}, api.ErrArg
	}
	f := faults{sensors: sensors, first: len(m.Vars), most: most}
	with := copyModel(m)
	for i := range with.Moves {
		for k := range with.Moves[i].Sets {
			f.guarded(&with.Moves[i].Sets[k])
		}
	}
	for k, sensor := range sensors {
		with.Vars = append(with.Vars, api.Var{Name: f.name(k), High: 1})
		for value := m.Vars[sensor].Low; value <= m.Vars[sensor].High; value++ {
			with.Moves = append(with.Moves, f.move(k, value))
		}
	}
	if !differ(with.Vars, varName) || !differ(with.Moves, moveName) {
		return api.Model{}, api.ErrTwice
	}
	// All that is new is valid, so only its amount can be wrong.
	if Check(with) != api.OK {
		return api.Model{}, api.ErrFull
	}
	return with, api.OK
}
