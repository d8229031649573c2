package campaign

import (
	"slices"
	"strconv"
	"strings"

	"venturi/api"
	"venturi/guard"
)

// fan is the number of the variable that is greatest while the fan runs.
const fan = 0

// section is a test section: its model, and the state in which it is.
type section struct {
	model api.Model
	state []int
}

// hasSection reports whether there is a test section.
func (v visit) hasSection() bool { return v.section != nil }

// readLock reads the doors, the people, the coast, the sensors and the votes of a test section.
func readLock(r *reader) act {
	l := api.Lock{Doors: r.integer(r.next()), People: r.integer(r.next()), Coast: r.integer(r.next()), Sensors: r.integer(r.next()), Votes: r.integer(r.next())}
	return silent(func(v visit) api.Errno { return v.lock(l) })
}

// lock sets up the test section; ErrTwice if there is one, ErrArg if the lock is not valid.
func (s *Site) lock(l api.Lock) api.Errno {
	if s.section != nil {
		return api.ErrTwice
	}
	m, e := guard.Hall(l)
	if e != api.OK {
		return e
	}
	state, e := guard.Start(m)
	if e != api.OK {
		return e
	}
	s.section = &section{m, state}
	return api.OK
}

// readMove reads the name of a move.
func readMove(r *reader) act {
	name := r.next()
	return silent(func(v visit) api.Errno { return v.section.move(name) })
}

// move makes a move; ErrNone if there is none with this name, ErrState if it is not possible.
func (s *section) move(name string) api.Errno {
	number := slices.IndexFunc(s.model.Moves, func(m api.Move) bool { return m.Name == name })
	if number < 0 {
		return api.ErrNone
	}
	state, e := guard.Step(s.model, s.state, number)
	if e != api.OK {
		return e
	}
	s.state = state
	return api.OK
}

// runs reports whether the fan runs.
func (s *section) runs() bool {
	return s.state[fan] == s.model.Vars[fan].High
}

// look answers all variables of the test section with their values.
func (v visit) look() (string, api.Errno) {
	var values []string
	for i, variable := range v.section.model.Vars {
		values = append(values, variable.Name+"="+strconv.Itoa(v.section.state[i]))
	}
	return strings.Join(values, " "), api.OK
}

// moves answers the names of the moves that are possible.
func (v visit) moves() (string, api.Errno) {
	m := v.section.model
	possible, e := guard.Next(m, v.section.state)
	if e != api.OK {
		return "", e
	}
	return joined(possible, " ", func(number int) string { return m.Moves[number].Name }), api.OK
}

// safe answers how many states the test section can reach. None of them is wrong: every test section is safe (P9.15).
func (v visit) safe() (string, api.Errno) {
	finding, e := guard.Explore(v.section.model)
	if e != api.OK {
		return "", e
	}
	return "safe " + strconv.Itoa(finding.States), api.OK
}
