package guard

import (
	"strconv"

	"venturi/api"
)

// The variables of a test section before those of its doors.
const (
	fan    = 0
	inside = 1
	doors  = 2
)

// isLock reports whether a lock is valid.
func isLock(l api.Lock) bool {
	within := func(n, most int) bool { return 1 <= n && n <= most }
	return within(l.Doors, 3) && within(l.People, 4) && within(l.Coast, 9) && within(l.Sensors, 3) && within(l.Votes, l.Sensors)
}

// doorOf returns the variable of a door; those of its sensors follow it.
func doorOf(l api.Lock, door int) int { return doors + door*(1+l.Sensors) }

// sensorsOf returns the variables of the sensors of a door.
func sensorsOf(l api.Lock, door int) []int {
	var sensors []int
	for k := range l.Sensors {
		sensors = append(sensors, doorOf(l, door)+1+k)
	}
	return sensors
}

// all returns OpAnd of terms.
func all(kids ...api.Term) api.Term { return op(api.OpAnd, kids...) }

// not returns the opposite of a term.
func not(t api.Term) api.Term { return op(api.OpNot, t) }

// isAbove returns the term that is 1 if a number is less than a variable.
func isAbove(n, i int) api.Term { return op(api.OpLess, number(n), variable(i)) }

// isBelow returns the term that is 1 if a variable is less than a number.
func isBelow(i, n int) api.Term { return op(api.OpLess, variable(i), number(n)) }

// less returns the term of a variable less 1.
func less(i int) api.Term { return op(api.OpSub, variable(i), number(1)) }

// gets returns the assignments of one variable.
func gets(i int, to api.Term) []api.Set { return []api.Set{{Var: i, To: to}} }

// fanMoves returns the moves of the fan.
func fanMoves(l api.Lock) []api.Move {
	runs := l.Coast + 1
	free := all(equals(fan, 0), equals(inside, 0))
	for door := range l.Doors {
		var open []api.Term
		for _, sensor := range sensorsOf(l, door) {
			open = append(open, variable(sensor))
		}
		free.Kids = append(free.Kids, not(Vote(open, l.Votes-1)))
	}
	return []api.Move{
		{Name: "start", When: free, Sets: gets(fan, number(runs))},
		{Name: "stop", When: all(equals(fan, runs)), Sets: gets(fan, number(l.Coast))},
		{Name: "tick", When: all(isAbove(0, fan), isBelow(fan, runs)), Sets: gets(fan, less(fan))},
	}
}

// turn returns the assignments by which a door and its sensors get a value.
func turn(l api.Lock, door, value int) []api.Set {
	sets := gets(doorOf(l, door), number(value))
	for _, sensor := range sensorsOf(l, door) {
		sets = append(sets, gets(sensor, number(value))...)
	}
	return sets
}

// doorMoves returns the moves of a door.
func doorMoves(l api.Lock, door int) []api.Move {
	own := strconv.Itoa(door)
	isOpen := func() api.Term { return equals(doorOf(l, door), 1) }
	more := op(api.OpAdd, variable(inside), number(1))
	return []api.Move{
		{Name: "open" + own, When: all(equals(doorOf(l, door), 0), equals(fan, 0)), Sets: turn(l, door, 1)},
		{Name: "close" + own, When: all(isOpen()), Sets: turn(l, door, 0)},
		{Name: "enter" + own, When: all(isOpen(), isBelow(inside, l.People)), Sets: gets(inside, more)},
		{Name: "leave" + own, When: all(isOpen(), isAbove(0, inside)), Sets: gets(inside, less(inside))},
	}
}

// doorVars returns the variables of a door and its sensors.
func doorVars(l api.Lock, door int) []api.Var {
	own := strconv.Itoa(door)
	vars := []api.Var{{Name: "d" + own, High: 1}}
	for k := range l.Sensors {
		vars = append(vars, api.Var{Name: "s" + own + "_" + strconv.Itoa(k), High: 1})
	}
	return vars
}

// Hall returns the model of a test section; ErrArg if the lock is not valid.
func Hall(l api.Lock) (api.Model, api.Errno) {
	if !isLock(l) {
		return api.Model{}, api.ErrArg
	}
	m := api.Model{
		Vars:  []api.Var{{Name: "fan", High: l.Coast + 1}, {Name: "in", High: l.People}},
		Moves: fanMoves(l),
		Tests: []api.Test{{Name: "hurt", Bad: all(isAbove(0, inside), not(equals(fan, 0)))}},
	}
	for door := range l.Doors {
		m.Vars = append(m.Vars, doorVars(l, door)...)
		m.Moves = append(m.Moves, doorMoves(l, door)...)
	}
	return m, api.OK
}

// Sensors returns the variables of the sensors of a test section; ErrArg if the lock is not valid.
func Sensors(l api.Lock) ([]int, api.Errno) {
	if !isLock(l) {
		return nil, api.ErrArg
	}
	var sensors []int
	for door := range l.Doors {
		sensors = append(sensors, sensorsOf(l, door)...)
	}
	return sensors, api.OK
}
