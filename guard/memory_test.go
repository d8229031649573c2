package guard_test

import (
	"math/rand/v2"
	"reflect"
	"testing"

	"venturi/api"
	"venturi/guard"
)

// memory returns where all lists in a value are.
func memory(v reflect.Value) []uintptr {
	var found []uintptr
	switch v.Kind() {
	case reflect.Interface:
		return memory(v.Elem())
	case reflect.Slice:
		if v.Len() > 0 {
			found = append(found, v.Pointer())
		}
		for i := range v.Len() {
			found = append(found, memory(v.Index(i))...)
		}
	case reflect.Struct:
		for i := range v.NumField() {
			found = append(found, memory(v.Field(i))...)
		}
	}
	return found
}

// apart checks that a result shares no memory with an argument, nor with itself.
func apart(t *testing.T, what string, arguments, result any) {
	t.Helper()
	seen := map[uintptr]bool{}
	for _, p := range memory(reflect.ValueOf(arguments)) {
		seen[p] = true
	}
	for _, p := range memory(reflect.ValueOf(result)) {
		if seen[p] {
			t.Errorf("%s shares memory", what)
		}
		seen[p] = true
	}
}

// given is all that the functions get.
type given struct {
	Model         api.Model
	Terms         []api.Term
	State, Places []int
	Path          []int
	Lock          api.Lock
}

// anyGiven returns the same as another call with the same numbers, in new memory.
func anyGiven(a, b uint64) given {
	r := rand.New(rand.NewPCG(a, b))
	g := given{Model: anyModel(r), Lock: anyOf(r, locks()...)}
	for range r.IntN(4) {
		g.Terms = append(g.Terms, anyTerm(r, len(g.Model.Vars), 3))
	}
	for _, x := range g.Model.Vars {
		g.State = append(g.State, x.Low+r.IntN(x.High-x.Low+1))
	}
	g.Places = r.Perm(len(g.Model.Vars))[:r.IntN(len(g.Model.Vars)+1)]
	for range r.IntN(3) {
		g.Path = append(g.Path, r.IntN(len(g.Model.Moves)+1))
	}
	return g
}

// R4: results are new memory, and no argument is changed.
func TestMemory(t *testing.T) {
	for k := range uint64(1000) {
		g, before := anyGiven(k, 9), anyGiven(k, 9)
		check := func(what string, results ...any) { t.Helper(); apart(t, what, g, results) }
		guard.Check(g.Model)
		for _, term := range g.Terms {
			guard.Value(term, g.State)
			x, _ := guard.Prove(g.Model, term)
			check("Prove", x)
		}
		start, _ := guard.Start(g.Model)
		next, _ := guard.Next(g.Model, g.State)
		check("Start, Next", start, next)
		for i := range g.Model.Moves {
			state, _ := guard.Step(g.Model, g.State, i)
			check("Step", state)
		}
		guard.Bad(g.Model, g.State)
		f, _ := guard.Explore(g.Model)
		state, _ := guard.Follow(g.Model, g.Path)
		guard.Faulty(g.Model, g.Path)
		inv, _ := guard.Invariant(g.Model)
		check("Explore, Follow, Invariant", f, state, inv)
		check("Vote, Among", guard.Vote(g.Terms, 1), guard.Among(g.Terms, 1, 2))
		with, _ := guard.WithFaults(g.Model, g.Places, 1)
		check("WithFaults", with)
		m, _ := guard.Hall(g.Lock)
		sensors, _ := guard.Sensors(g.Lock)
		check("Hall, Sensors", m, sensors)
		if !reflect.DeepEqual(g, before) {
			t.Fatal("an argument was changed", g, before)
		}
	}
}

// R4: a change of a result changes no other one.
func TestNewEachTime(t *testing.T) {
	lock := api.Lock{Doors: 1, People: 1, Coast: 1, Sensors: 1, Votes: 1}
	for range 2 {
		m, sensors := hall(t, lock)
		is(t, "Hall", m.Vars[0].Name+m.Moves[0].Name+m.Tests[0].Name, api.OK, "fanstarthurt")
		isText(t, "Hall", m.Moves[0].When.Kids[0], "=(v0 0)")
		isList(t, "Sensors", sensors, api.OK, 3)
		m.Vars[0], m.Moves[0].When.Kids[0], m.Tests[0], sensors[0] = api.Var{}, n(7), api.Test{}, 9
		m.Moves[0] = api.Move{}
	}
}

// R3: it makes no difference whether a list is nil or empty.
func TestEmpty(t *testing.T) {
	zero := api.Term{Op: api.OpNumber, N: 1, Kids: []api.Term{}}
	x, e := guard.Value(zero, []int{})
	is(t, "Value", x, e, 1)
	m := api.Model{
		Vars:  []api.Var{{Name: "x"}},
		Moves: []api.Move{{Name: "stay", When: zero, Sets: []api.Set{}}},
		Tests: []api.Test{},
	}
	isError(t, "Check", guard.Check(m), api.OK)
	isError(t, "Check", guard.Check(api.Model{Vars: []api.Var{}, Moves: []api.Move{}, Tests: []api.Test{}}), api.ErrModel)
	state, e := guard.Follow(m, []int{})
	isList(t, "Follow", state, e, 0)
	next, e := guard.Next(m, []int{})
	isError(t, "Next", e, api.ErrArg, next)
	with, e := guard.WithFaults(m, []int{}, 0)
	isValue(t, "WithFaults", with, e, m)
	isText(t, "Vote", guard.Vote([]api.Term{}, 3), "<(3 count())")
}
