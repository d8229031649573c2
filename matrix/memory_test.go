package matrix_test

import (
	"math"
	"math/rand/v2"
	"reflect"
	"testing"

	"venturi/api"
	"venturi/matrix"
)

// memory returns where all lists in a value are.
func memory(v reflect.Value) []uintptr {
	var found []uintptr
	switch v.Kind() {
	case reflect.Interface:
		return memory(v.Elem())
	case reflect.Slice:
		if v.Len() > 0 {
			found = append(found, v.Pointer())
		}
		for i := range v.Len() {
			found = append(found, memory(v.Index(i))...)
		}
	case reflect.Struct:
		for i := range v.NumField() {
			found = append(found, memory(v.Field(i))...)
		}
	}
	return found
}

// apart checks that a result shares no memory with an argument, nor with itself.
func apart(t *testing.T, what string, arguments, result any) {
	t.Helper()
	seen := map[uintptr]bool{}
	for _, p := range memory(reflect.ValueOf(arguments)) {
		seen[p] = true
	}
	for _, p := range memory(reflect.ValueOf(result)) {
		if seen[p] {
			t.Errorf("%s shares memory", what)
		}
		seen[p] = true
	}
}

// given is all that the functions get.
type given struct {
	Plan     api.Plan
	Settings []api.Setting
	Order    []int
	Fraction api.Fraction
}

// anyGiven returns the same as another call with the same numbers, in new memory.
func anyGiven(a, b uint64) given {
	r := rand.New(rand.NewPCG(a, b))
	p := anyPlan(r)
	s := anySettings(r, p, r.IntN(9))
	return given{p, s, r.Perm(len(s)), anyFraction(r, 5, 4)}
}

// R4: results are new memory, and no argument is changed.
func TestMemory(t *testing.T) {
	for k := range uint64(300) {
		g, before := anyGiven(k, 6), anyGiven(k, 6)
		p, s := g.Plan, g.Settings
		check := func(what string, results ...any) { t.Helper(); apart(t, what, g, results) }
		matrix.CheckPlan(p)
		levels, _ := matrix.Settings(p)
		check("Settings", levels)
		matrix.Allowed(p, make([]int, len(p.Factors)))
		order, _ := matrix.Order(p, s, k)
		cheapest, _, _ := matrix.Cheapest(p, s)
		check("Order, Cheapest", order, cheapest)
		matrix.Changes(p, s, g.Order)
		matrix.Least(p, s)
		matrix.CheckFraction(g.Fraction)
		runs, _ := matrix.Runs(g.Fraction)
		relation, _ := matrix.Relation(g.Fraction)
		matrix.Resolution(g.Fraction)
		aliases, _ := matrix.Aliases(g.Fraction, 1)
		check("Runs, Relation, Aliases", runs, relation, aliases)
		b, _ := matrix.NewBook(p, s, k)
		check("Open", b.Open(), b.Open())
		b.Next()
		for _, i := range order {
			b.Declare(i, "leak")
			b.Reopen(i)
			b.Take(i)
		}
		if !reflect.DeepEqual(g, before) {
			t.Fatal("an argument was changed", g, before)
		}
	}
}

// R4: a change of a result, or of an argument after the call, changes no other result.
func TestNewEachTime(t *testing.T) {
	l, e := matrix.Settings(example())
	l[0][0], l[0][1] = 7, 7
	isList(t, "the next levels", l[1], e, 0, 1)
	l, e = matrix.Settings(example())
	isList(t, "once more", l[0], e, 0, 0)
	relation, _ := matrix.Relation(five())
	relation[0] = odd(1)
	relation, e = matrix.Relation(five())
	isList(t, "once more", relation, e, api.Word{Mask: 7}, odd(25), odd(30))

	p, s := plan(2, 2), settings(0, []int{0, 0}, []int{0, 1}, []int{1, 0})
	b, other := book(t, p, s), book(t, p, s)
	first := b.Open()
	p.Factors[0].Levels, s[0].Levels[0], s[1].Block = 1, 9, 5
	open := b.Open()
	open[0], open[1] = open[1], open[0]
	isList(t, "the same order", b.Open(), api.OK, first...)
	isError(t, "in the old block", b.Take(first[2]), api.ErrBefore)
	isError(t, "Take", b.Take(first[0]), api.OK)
	isList(t, "another book", other.Open(), api.OK, first...)
}

// P1: lists of any length, and numbers of any size, end without a panic.
func TestAnyValue(t *testing.T) {
	const many = 1000000
	isError(t, "many factors", matrix.CheckPlan(api.Plan{Factors: make([]api.Factor, many)}), api.ErrArg)
	isError(t, "many combinations", matrix.CheckPlan(api.Plan{Forbidden: make([][]api.Pair, many)}), api.ErrArg)
	long := plan(2)
	long.Forbidden = [][]api.Pair{make([]api.Pair, many)}
	isError(t, "many pairs", matrix.CheckPlan(long), api.ErrArg)
	ok, e := matrix.Allowed(plan(2), make([]int, many))
	isError(t, "many levels", e, api.ErrArg, ok)
	l, e := matrix.Order(plan(2), settings(0, make([]int, many)), 0)
	isError(t, "many levels of a setting", e, api.ErrArg, l)
	l, e = matrix.Order(plan(2), make([]api.Setting, many), 0)
	isError(t, "many settings", e, api.ErrLong, l)
	n, e := matrix.Changes(plan(2), settings(0, []int{0}), make([]int, many))
	isError(t, "a long order", e, api.ErrArg, n)
	isError(t, "many words", matrix.CheckFraction(api.Fraction{Factors: 2, Words: make([]api.Word, many)}), api.ErrArg)
	for _, n := range []int{math.MinInt, -2, 1001, 1 << 32, math.MaxInt} {
		isError(t, "levels", matrix.CheckPlan(plan(2, n)), api.ErrArg)
		isError(t, "a cost", matrix.CheckPlan(priced(plan(2, 2), 0, n)), api.ErrArg)
		isError(t, "a factor", matrix.CheckPlan(without(plan(2, 2), n, 0)), api.ErrArg)
		isError(t, "a level", matrix.CheckPlan(without(plan(2, 2), 0, n)), api.ErrArg)
	}
	for _, n := range []int{math.MinInt, -1, 16, 64, 1000, math.MaxInt} {
		isError(t, "factors", matrix.CheckFraction(api.Fraction{Factors: n, Words: even(1)}), api.ErrArg)
		aliases, e := matrix.Aliases(api.Fraction{Factors: n}, 1)
		isError(t, "factors", e, api.ErrArg, aliases)
	}
	for _, block := range []int{math.MinInt, math.MaxInt} {
		b, e := matrix.NewBook(plan(2), settings(block, []int{0}), 0)
		isError(t, "a block", e, api.ErrArg, b)
	}
}
