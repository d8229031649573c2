package guard_test

import (
	"slices"
	"strconv"
	"strings"
	"testing"

	"venturi/api"
	"venturi/guard"
)

// full returns a model that is as large as a valid one may be.
func full() api.Model {
	var m api.Model
	for i := range api.MaxVars {
		m.Vars = append(m.Vars, api.Var{Name: "x" + strconv.Itoa(i), Start: i, High: api.MaxSpan})
	}
	for i := range api.MaxMoves {
		move := api.Move{Name: "x" + strconv.Itoa(i), When: long(v(23), api.MaxTree)}
		for k := range api.MaxSets {
			move.Sets = append(move.Sets, set(2*k, long(n(k), api.MaxTree)))
		}
		m.Moves = append(m.Moves, move)
	}
	for i := range api.MaxTests {
		m.Tests = append(m.Tests, api.Test{Name: "x" + strconv.Itoa(i), Bad: long(n(0), api.MaxTree)})
	}
	return m
}

// nameOf returns the model of the example 2 in which a name of some kind is another one.
func nameOf(kind int, name string) api.Model {
	m := second()
	switch kind {
	case 0:
		m.Vars[0].Name = name
	case 1:
		m.Moves[1].Name = name
	default:
		m.Tests[0].Name = name
	}
	return m
}

// termOf returns the model of the example 2 with another term at some place.
func termOf(place int, t api.Term) api.Model {
	m := second()
	switch place {
	case 0:
		m.Moves[1].When = t
	case 1:
		m.Moves[1].Sets[0].To = t
	default:
		m.Tests[0].Bad = t
	}
	return m
}

// changed returns a model after a change.
func changed(m api.Model, change func(m *api.Model)) api.Model {
	change(&m)
	return m
}

// wrongTerms returns terms that are not valid for one variable, or are too many.
func wrongTerms() map[string]api.Term {
	wrong := map[string]api.Term{
		"zero value":         {},
		"no kind":            {Op: 12},
		"no kind, with kids": {Op: 255, Kids: []api.Term{n(0), n(0)}},
		"number -1001":       n(-1001),
		"number 1001":        n(1001),
		"number with a kid":  {Op: api.OpNumber, Kids: []api.Term{n(0)}},
		"variable -1":        v(-1),
		"variable 1":         v(1),
		"variable with kids": {Op: api.OpVar, Kids: []api.Term{v(0)}},
		"a wrong kid":        op(api.OpAdd, n(0), n(1001)),
		"a wrong kid's kid":  op(api.OpNot, op(api.OpOr, n(0), op(api.OpCount, v(0), v(1)))),
		"61 terms":           long(n(0), api.MaxTree+1),
		"61 levels":          n(0),
		"many kids":          op(api.OpAnd, make([]api.Term, 1000000)...),
		"many numbers":       op(api.OpAnd, slices.Repeat([]api.Term{n(1)}, 1000000)...),
		"no end":             endless(),
	}
	for range api.MaxTree {
		wrong["61 levels"] = op(api.OpNot, wrong["61 levels"])
	}
	kids := map[api.Op]int{api.OpNot: 1, api.OpSub: 2, api.OpEqual: 2, api.OpLess: 2, api.OpIf: 3}
	for k := api.OpAdd; k <= api.OpIf; k++ {
		wrong["N of kind "+strconv.Itoa(int(k))] = api.Term{Op: k, N: 1, Kids: numbers(make([]int, kids[k]))}
		for count := range 6 {
			if want, fixed := kids[k]; fixed && count != want {
				wrong[strconv.Itoa(count)+" kids of kind "+strconv.Itoa(int(k))] = op(k, numbers(make([]int, count))...)
			}
		}
	}
	return wrong
}

// wrongModels returns models that are not valid.
func wrongModels() map[string]api.Model {
	wrong := map[string]api.Model{
		"zero value": {},
		"no variables": changed(second(), func(m *api.Model) {
			m.Vars, m.Moves, m.Tests = nil, nil, nil
		}),
		"25 variables": changed(full(), func(m *api.Model) {
			m.Vars = append(m.Vars, api.Var{Name: "y"})
		}),
		"41 moves": changed(full(), func(m *api.Model) {
			m.Moves = append(m.Moves, api.Move{Name: "y", When: n(1)})
		}),
		"13 tests": changed(full(), func(m *api.Model) {
			m.Tests = append(m.Tests, api.Test{Name: "y", Bad: n(0)})
		}),
		"13 assignments": changed(full(), func(m *api.Model) {
			m.Moves[39].Sets = append(m.Moves[39].Sets, set(1, n(0)))
		}),
		"a variable's name twice": changed(full(), func(m *api.Model) { m.Vars[23].Name = "x0" }),
		"a move's name twice":     changed(full(), func(m *api.Model) { m.Moves[0].Name = "x39" }),
		"a test's name twice":     changed(full(), func(m *api.Model) { m.Tests[11].Name = "x10" }),
		"two assignments to one":  changed(full(), func(m *api.Model) { m.Moves[39].Sets[11].Var = 0 }),
		"assignment to -1":        changed(second(), func(m *api.Model) { m.Moves[0].Sets[0].Var = -1 }),
		"assignment to 1 of 1":    changed(second(), func(m *api.Model) { m.Moves[0].Sets[0].Var = 1 }),
		"the last assignment":     changed(full(), func(m *api.Model) { m.Moves[39].Sets[11].To = n(1001) }),
	}
	for what, x := range map[string]api.Var{
		"Low -1":           {Low: -1, Start: 0, High: 1},
		"Start below Low":  {Low: 2, Start: 1, High: 3},
		"Start above High": {Low: 2, Start: 4, High: 3},
		"High below Low":   {Low: 2, Start: 2, High: 1},
		"High 64":          {Low: 2, Start: 2, High: 64},
		"all below 0":      {Low: -3, Start: -2, High: -1},
	} {
		x.Name = "x"
		wrong[what] = changed(second(), func(m *api.Model) { m.Vars[0] = x })
	}
	for _, name := range []string{"", "X", "0", "_", "0x", "_x", "xY", "x y", "x-", "x:", "ä", "xä", "x\xff", "\x00", "x\x00", "x`", "x{", "x/", strings.Repeat("x", 21), strings.Repeat("x", 1000000)} {
		for kind := range 3 {
			wrong["name "+strconv.Itoa(kind)+" "+strconv.Quote(name[:min(len(name), 30)])] = nameOf(kind, name)
		}
	}
	for what, t := range wrongTerms() {
		for place := range 3 {
			wrong["term "+strconv.Itoa(place)+" "+what] = termOf(place, t)
		}
	}
	return wrong
}

// P9.1: models that are valid, up to all limits.
func TestCheck(t *testing.T) {
	for what, m := range map[string]api.Model{
		"example 1":     counter(n(1)),
		"example 2":     second(),
		"full":          full(),
		"no moves":      {Vars: []api.Var{{Name: "x"}}},
		"one value":     {Vars: []api.Var{{Name: "x", Low: 63, Start: 63, High: 63}}},
		"no sets":       changed(second(), func(m *api.Model) { m.Moves[0].Sets = nil }),
		"to itself":     termOf(1, v(0)),
		"outside":       termOf(1, n(-1000)),
		"no kids":       termOf(0, op(api.OpAdd)),
		"name x_9":      nameOf(0, "x_9"),
		"name of 20":    nameOf(1, "a"+strings.Repeat("z0_9", 4)+"xyz"),
		"name of a var": nameOf(2, "x"),
	} {
		isError(t, what, guard.Check(m), api.OK)
	}
	for _, m := range models(300) {
		isError(t, "any model", guard.Check(m), api.OK)
	}
}

// P9.1: models that are not valid; the other functions tell it too.
func TestCheckWrong(t *testing.T) {
	for what, m := range wrongModels() {
		isError(t, what, guard.Check(m), api.ErrModel)
		start, e := guard.Start(m)
		isError(t, "Start: "+what, e, api.ErrModel, start)
		next, e := guard.Next(m, nil)
		isError(t, "Next: "+what, e, api.ErrModel, next)
		state, e := guard.Step(m, []int{99}, -1)
		isError(t, "Step: "+what, e, api.ErrModel, state)
		test, e := guard.Bad(m, []int{0, 0})
		isError(t, "Bad: "+what, e, api.ErrModel, test)
		f, e := guard.Explore(m)
		isError(t, "Explore: "+what, e, api.ErrModel, f)
		state, e = guard.Follow(m, make([]int, api.MaxStates+1))
		isError(t, "Follow: "+what, e, api.ErrModel, state)
		test, e = guard.Faulty(m, []int{-1})
		isError(t, "Faulty: "+what, e, api.ErrModel, test)
		x, e := guard.Prove(m, api.Term{})
		isError(t, "Prove: "+what, e, api.ErrModel, x)
		inv, e := guard.Invariant(m)
		isError(t, "Invariant: "+what, e, api.ErrModel, inv)
		with, e := guard.WithFaults(m, []int{-1}, -1)
		isError(t, "WithFaults: "+what, e, api.ErrModel, with)
	}
}
