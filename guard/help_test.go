package guard_test

import (
	"math/rand/v2"
	"reflect"
	"slices"
	"strconv"
	"strings"
	"testing"

	"venturi/api"
	"venturi/guard"
)

// n, v and op make terms.
func n(x int) api.Term { return api.Term{Op: api.OpNumber, N: x} }

func v(i int) api.Term { return api.Term{Op: api.OpVar, N: i} }

func op(k api.Op, kids ...api.Term) api.Term { return api.Term{Op: k, Kids: kids} }

// long returns a term of so many terms that has the value of x, which is one term.
func long(x api.Term, terms int) api.Term {
	t := op(api.OpAdd, x)
	for range terms - 2 {
		t.Kids = append(t.Kids, n(0))
	}
	return t
}

// endless returns a term that is one of its own kids.
func endless() api.Term {
	kids := make([]api.Term, 1)
	kids[0] = api.Term{Op: api.OpNot, Kids: kids}
	return kids[0]
}

// set returns an assignment.
func set(i int, to api.Term) api.Set { return api.Set{Var: i, To: to} }

// counter returns the model of the document's examples; two is when its second move is possible.
func counter(two api.Term) api.Model {
	return api.Model{
		Vars: []api.Var{{Name: "x", High: 3}},
		Moves: []api.Move{
			{Name: "up", When: op(api.OpLess, v(0), n(3)), Sets: []api.Set{set(0, op(api.OpAdd, v(0), n(1)))}},
			{Name: "two", When: two, Sets: []api.Set{set(0, op(api.OpAdd, v(0), n(2)))}},
		},
		Tests: []api.Test{{Name: "three", Bad: op(api.OpEqual, v(0), n(3))}},
	}
}

// second returns the model of the document's example 2.
func second() api.Model { return counter(op(api.OpEqual, v(0), n(1))) }

// grid returns a model of variables from 0 to such ends, each of which a move can count up.
func grid(ends ...int) api.Model {
	var m api.Model
	for i, end := range ends {
		name := "x" + strconv.Itoa(i)
		m.Vars = append(m.Vars, api.Var{Name: name, High: end})
		m.Moves = append(m.Moves, api.Move{Name: name, When: op(api.OpLess, v(i), n(end)), Sets: []api.Set{set(i, op(api.OpAdd, v(i), n(1)))}})
	}
	return m
}

// is compares a result without error with the value that it should have.
func is[T comparable](t *testing.T, what string, got T, e api.Errno, want T) {
	t.Helper()
	if e != api.OK || got != want {
		t.Errorf("%s: %v, error %d, instead of %v", what, got, e, want)
	}
}

// isList compares a list without error with what it should have.
func isList(t *testing.T, what string, got []int, e api.Errno, want ...int) {
	t.Helper()
	if e != api.OK || !slices.Equal(got, want) {
		t.Errorf("%s: %v, error %d, instead of %v", what, got, e, want)
	}
}

// isValue compares a result without error, in which there may be lists, with the value that it should have.
func isValue(t *testing.T, what string, got any, e api.Errno, want any) {
	t.Helper()
	if e != api.OK || !equal(reflect.ValueOf(got), reflect.ValueOf(want)) {
		t.Errorf("%s: %v, error %d, instead of %v", what, got, e, want)
	}
}

// equal reports whether two values of one type are equal, an empty list and none too (R3).
func equal(a, b reflect.Value) bool {
	switch a.Kind() {
	case reflect.Slice:
		same := a.Len() == b.Len()
		for i := 0; same && i < a.Len(); i++ {
			same = equal(a.Index(i), b.Index(i))
		}
		return same
	case reflect.Struct:
		for i := range a.NumField() {
			if !equal(a.Field(i), b.Field(i)) {
				return false
			}
		}
		return true
	}
	return a.Equal(b)
}

// isError checks an error, and that the results beside it are zero values.
func isError(t *testing.T, what string, e, want api.Errno, results ...any) {
	t.Helper()
	if e != want {
		t.Errorf("%s: error %d instead of %d", what, e, want)
	}
	for _, r := range results {
		if x := reflect.ValueOf(r); !equal(x, reflect.Zero(x.Type())) {
			t.Errorf("%s: result %v beside an error", what, r)
		}
	}
}

// text writes a term.
func text(t api.Term) string {
	var kids []string
	for _, k := range t.Kids {
		kids = append(kids, text(k))
	}
	signs := map[api.Op]string{api.OpAdd: "+", api.OpSub: "-", api.OpEqual: "=", api.OpLess: "<", api.OpNot: "not", api.OpAnd: "and", api.OpOr: "or", api.OpCount: "count", api.OpIf: "if"}
	switch {
	case t.Op == api.OpNumber:
		return strconv.Itoa(t.N)
	case t.Op == api.OpVar:
		return "v" + strconv.Itoa(t.N)
	case t.N != 0:
		return "an N that is not 0"
	}
	return signs[t.Op] + "(" + strings.Join(kids, " ") + ")"
}

// isText compares a term with the one whose text is given.
func isText(t *testing.T, what string, got api.Term, want string) {
	t.Helper()
	if text(got) != want {
		t.Errorf("%s: %s instead of %s", what, text(got), want)
	}
}

// moveText writes a move.
func moveText(m api.Move) string {
	var sets []string
	for _, s := range m.Sets {
		sets = append(sets, "v"+strconv.Itoa(s.Var)+" := "+text(s.To))
	}
	return m.Name + ": " + text(m.When) + ": " + strings.Join(sets, ", ")
}

// modelText writes a model, a line for each of its parts.
func modelText(m api.Model) []string {
	var lines []string
	for _, x := range m.Vars {
		lines = append(lines, x.Name+" "+strconv.Itoa(x.Low)+" "+strconv.Itoa(x.High)+" "+strconv.Itoa(x.Start))
	}
	for _, x := range m.Moves {
		lines = append(lines, moveText(x))
	}
	for _, x := range m.Tests {
		lines = append(lines, x.Name+": "+text(x.Bad))
	}
	return lines
}

// isModel compares a model without error with the lines that write it.
func isModel(t *testing.T, what string, got api.Model, e api.Errno, want ...string) {
	t.Helper()
	lines := modelText(got)
	if e != api.OK || len(lines) != len(want) {
		t.Errorf("%s: error %d, %d lines instead of %d:\n%s", what, e, len(lines), len(want), strings.Join(lines, "\n"))
		return
	}
	for i, line := range lines {
		if line != want[i] {
			t.Errorf("%s: %s instead of %s", what, line, want[i])
		}
	}
}

// meaning returns the value of a term as the comments at the kinds say, from the values of all its kids.
func meaning(t api.Term, state []int) int {
	var kids []int
	sum, yes := 0, 0
	for _, k := range t.Kids {
		x := meaning(k, state)
		kids = append(kids, x)
		sum += x
		if x != 0 {
			yes++
		}
	}
	asked := map[api.Op]func() bool{
		api.OpEqual: func() bool { return kids[0] == kids[1] },
		api.OpLess:  func() bool { return kids[1] > kids[0] },
		api.OpNot:   func() bool { return yes == 0 },
		api.OpAnd:   func() bool { return yes == len(kids) },
		api.OpOr:    func() bool { return yes > 0 },
	}
	if q := asked[t.Op]; q != nil {
		if q() {
			return 1
		}
		return 0
	}
	switch t.Op {
	case api.OpNumber:
		return t.N
	case api.OpVar:
		return state[t.N]
	case api.OpAdd:
		return sum
	case api.OpSub:
		return kids[0] - kids[1]
	case api.OpCount:
		return yes
	}
	if kids[0] == 0 {
		return kids[2]
	}
	return kids[1]
}

// moved returns where a move leads, whether it is possible, and whether it breaks the rules.
func moved(m api.Model, state []int, i int) (next []int, possible, breaks bool) {
	next = slices.Clone(state)
	for _, s := range m.Moves[i].Sets {
		x := meaning(s.To, state)
		breaks = breaks || x < m.Vars[s.Var].Low || x > m.Vars[s.Var].High
		next[s.Var] = x
	}
	return next, meaning(m.Moves[i].When, state) != 0, breaks
}

// wrong reports whether a state is wrong, with the first test that is true there, or -1.
func wrong(m api.Model, state []int) (bool, int) {
	for i, x := range m.Tests {
		if meaning(x.Bad, state) != 0 {
			return true, i
		}
	}
	for i := range m.Moves {
		if _, possible, breaks := moved(m, state, i); possible && breaks {
			return true, -1
		}
	}
	return false, -1
}

// way is a state and its path.
type way struct{ state, path []int }

// ways returns the states that can be reached with their paths, in the order of Explore: those of each length are sorted by their paths, of all that lead to them.
func ways(m api.Model) []way {
	var first []int
	for _, x := range m.Vars {
		first = append(first, x.Start)
	}
	name := func(state []int) string { return text(op(api.OpAdd, numbers(state)...)) }
	seen := map[string]bool{name(first): true}
	level := []way{{state: first}}
	var all []way
	for len(level) > 0 {
		all = append(all, level...)
		best := map[string]way{}
		for _, w := range level {
			for i := range m.Moves {
				next, possible, breaks := moved(m, w.state, i)
				if !possible || breaks || seen[name(next)] {
					continue
				}
				path := append(slices.Clone(w.path), i)
				if old, there := best[name(next)]; !there || slices.Compare(path, old.path) < 0 {
					best[name(next)] = way{next, path}
				}
			}
		}
		level = nil
		for state, w := range best {
			seen[state] = true
			level = append(level, w)
		}
		slices.SortFunc(level, func(a, b way) int { return slices.Compare(a.path, b.path) })
	}
	return all
}

// numbers returns the terms of numbers.
func numbers(l []int) []api.Term {
	var all []api.Term
	for _, x := range l {
		all = append(all, n(x))
	}
	return all
}

// every returns all valid states of a model in ascending order.
func every(m api.Model) [][]int {
	all := [][]int{nil}
	for _, x := range m.Vars {
		var more [][]int
		for _, state := range all {
			for value := x.Low; value <= x.High; value++ {
				more = append(more, append(slices.Clone(state), value))
			}
		}
		all = more
	}
	return all
}

// explored returns what Explore should find.
func explored(m api.Model) guard.Finding {
	f := guard.Finding{Safe: true, Test: -1}
	for _, w := range ways(m) {
		if is, test := wrong(m, w.state); is {
			return guard.Finding{States: f.States, Depth: len(w.path), Path: w.path, Test: test}
		}
		f.States++
		f.Depth = len(w.path)
	}
	return f
}

// anyOf returns one of some values.
func anyOf[T any](r *rand.Rand, l ...T) T { return l[r.IntN(len(l))] }

// anyTerm returns a term for so many variables, of at most so many levels.
func anyTerm(r *rand.Rand, vars, levels int) api.Term {
	if levels == 1 || r.IntN(4) == 0 {
		return anyOf(r, n(r.IntN(7)-2), v(r.IntN(vars)), v(r.IntN(vars)))
	}
	k := api.OpAdd + api.Op(r.IntN(9))
	count := r.IntN(3)
	switch k {
	case api.OpNot:
		count = 1
	case api.OpSub, api.OpEqual, api.OpLess:
		count = 2
	case api.OpIf:
		count = 3
	}
	t := op(k)
	for range count {
		t.Kids = append(t.Kids, anyTerm(r, vars, levels-1))
	}
	return t
}

// anyTarget returns a term for the value that a variable gets: mostly one of its range.
func anyTarget(r *rand.Rand, m api.Model, i int) api.Term {
	x := m.Vars[i]
	up := op(api.OpIf, op(api.OpLess, v(i), n(x.High)), op(api.OpAdd, v(i), n(1)), n(x.Low))
	down := op(api.OpIf, op(api.OpLess, n(x.Low), v(i)), op(api.OpSub, v(i), n(1)), n(x.Start))
	if r.IntN(12) == 0 {
		return anyTerm(r, len(m.Vars), 2)
	}
	return anyOf(r, up, up, down, n(x.Low+r.IntN(x.High-x.Low+1)))
}

// anyModel returns a valid model with few states.
func anyModel(r *rand.Rand) api.Model {
	var m api.Model
	for i := range 1 + r.IntN(3) {
		low := r.IntN(3)
		start := low + r.IntN(3)
		m.Vars = append(m.Vars, api.Var{Name: "x" + strconv.Itoa(i), Low: low, Start: start, High: start + r.IntN(3)})
	}
	for i := range r.IntN(6) {
		move := api.Move{Name: "m" + strconv.Itoa(i), When: anyTerm(r, len(m.Vars), 3)}
		for _, i := range r.Perm(len(m.Vars))[:r.IntN(len(m.Vars)+1)] {
			move.Sets = append(move.Sets, set(i, anyTarget(r, m, i)))
		}
		m.Moves = append(m.Moves, move)
	}
	for i := range r.IntN(3) {
		bad := op(api.OpAnd, anyTerm(r, len(m.Vars), 2), op(api.OpEqual, anyTerm(r, len(m.Vars), 2), n(r.IntN(5))))
		m.Tests = append(m.Tests, api.Test{Name: "t" + strconv.Itoa(i), Bad: bad})
	}
	return m
}

// models yields many models, the first ones of the document.
func models(count int) func(yield func(*rand.Rand, api.Model) bool) {
	return func(yield func(*rand.Rand, api.Model) bool) {
		r := rand.New(rand.NewPCG(9, 9))
		for k := range count {
			m := anyModel(r)
			switch k {
			case 0:
				m = counter(n(1))
			case 1:
				m = second()
			}
			if !yield(r, m) {
				return
			}
		}
	}
}

// hall returns the model of a test section, and its sensors.
func hall(t *testing.T, l api.Lock) (api.Model, []int) {
	t.Helper()
	m, e := guard.Hall(l)
	if e != api.OK {
		t.Fatal("Hall", l, e)
	}
	s, e := guard.Sensors(l)
	if e != api.OK {
		t.Fatal("Sensors", l, e)
	}
	return m, s
}

// faulty returns a model in which sensors can fail.
func faulty(t *testing.T, m api.Model, sensors []int, most int) api.Model {
	t.Helper()
	with, e := guard.WithFaults(m, sensors, most)
	if e != api.OK {
		t.Fatal("WithFaults", sensors, most, e)
	}
	return with
}
