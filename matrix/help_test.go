package matrix_test

import (
	"math/rand/v2"
	"reflect"
	"slices"
	"testing"

	"venturi/api"
	"venturi/matrix"
)

// is compares a result without error with the value that it should have.
func is[T comparable](t *testing.T, what string, got T, e api.Errno, want T) {
	t.Helper()
	if e != api.OK || got != want {
		t.Errorf("%s: %v, error %d, instead of %v", what, got, e, want)
	}
}

// isList compares a list without error with what it should have.
func isList[T comparable](t *testing.T, what string, got []T, e api.Errno, want ...T) {
	t.Helper()
	if e != api.OK || !slices.Equal(got, want) {
		t.Errorf("%s: %v, error %d, instead of %v", what, got, e, want)
	}
}

// isError checks an error, and that the results beside it are zero values.
func isError(t *testing.T, what string, e, want api.Errno, results ...any) {
	t.Helper()
	if e != want {
		t.Errorf("%s: error %d instead of %d", what, e, want)
	}
	for _, r := range results {
		v := reflect.ValueOf(r)
		if empty := v.Kind() == reflect.Slice && v.Len() == 0; !empty && !v.IsZero() { // R3
			t.Errorf("%s: result %v beside an error", what, r)
		}
	}
}

// plan returns a plan of factors with so many levels, without costs and forbidden combinations.
func plan(levels ...int) api.Plan {
	var p api.Plan
	for _, n := range levels {
		p.Factors = append(p.Factors, api.Factor{Levels: n})
	}
	return p
}

// without returns the same plan with one more forbidden combination: factors and their levels by turns.
func without(p api.Plan, numbers ...int) api.Plan {
	var pairs []api.Pair
	for i := 0; i < len(numbers); i += 2 {
		pairs = append(pairs, api.Pair{Factor: numbers[i], Level: numbers[i+1]})
	}
	p.Forbidden = append(slices.Clone(p.Forbidden), pairs)
	return p
}

// priced returns the same plan with costs.
func priced(p api.Plan, costs ...int) api.Plan {
	p.Factors = slices.Clone(p.Factors)
	for i, c := range costs {
		p.Factors[i].Cost = c
	}
	return p
}

// hard returns the same plan with some factors that are hard to change.
func hard(p api.Plan, factors ...int) api.Plan {
	p.Factors = slices.Clone(p.Factors)
	for _, i := range factors {
		p.Factors[i].Hard = true
	}
	return p
}

// example returns the plan of the document's example 1.
func example() api.Plan { return without(plan(2, 3), 0, 1, 1, 2) }

// wrongPlans returns plans that are not valid.
func wrongPlans() map[string]api.Plan {
	return map[string]api.Plan{
		"nine factors":          plan(1, 1, 1, 1, 1, 1, 1, 1, 1),
		"no levels":             plan(0),
		"negative levels":       plan(-1),
		"nine levels":           plan(9),
		"a later factor":        plan(2, 8, 9),
		"negative cost":         priced(plan(1), -1),
		"cost above 1000":       priced(plan(2, 2), 1000, 1001),
		"41 combinations":       {Factors: plan(2).Factors, Forbidden: make([][]api.Pair, 41)},
		"factor -1":             without(plan(2, 2), -1, 0),
		"factor 2 of two":       without(plan(2, 2), 2, 0),
		"a pair without factor": without(plan(), 0, 0),
		"level -1":              without(plan(2, 2), 0, -1),
		"level 2 of two":        without(plan(2, 3), 0, 2),
		"a factor twice":        without(plan(2, 2), 1, 0, 1, 1),
		"a pair twice":          without(plan(2, 2), 1, 1, 0, 0, 1, 1),
		"a later combination":   without(example(), 1, 0, 0, 2),
		"the last one of 40":    without(api.Plan{Factors: plan(2, 2).Factors, Forbidden: make([][]api.Pair, 39)}, 0, 2),
	}
}

// settings returns settings of one block.
func settings(block int, levels ...[]int) []api.Setting {
	var l []api.Setting
	for _, x := range levels {
		l = append(l, api.Setting{Levels: x, Block: block})
	}
	return l
}

// all returns all settings of a plan that are allowed, in the block 0.
func all(t *testing.T, p api.Plan) []api.Setting {
	t.Helper()
	l, e := matrix.Settings(p)
	if e != api.OK {
		t.Fatal("Settings", p, e)
	}
	return settings(0, l...)
}

// wrongSettings returns settings that are not valid for the plan of example 1.
func wrongSettings() map[string][]api.Setting {
	return map[string][]api.Setting{
		"no levels":       {{}},
		"too few levels":  settings(0, []int{0}),
		"too many levels": settings(0, []int{0, 0, 0}),
		"level -1":        settings(0, []int{0, -1}),
		"level 2 of two":  settings(0, []int{2, 0}),
		"forbidden":       settings(0, []int{1, 2}),
		"block -1":        settings(-1, []int{0, 0}),
		"block 1001":      settings(1001, []int{0, 0}),
		"a later setting": slices.Concat(settings(3, []int{0, 0}, []int{1, 1}), settings(0, []int{1, 2})),
		"the last one of 2000": slices.Concat(slices.Repeat(settings(3, []int{0, 0}), 1999),
			settings(0, []int{1, 2})),
	}
}

// many returns n settings of the plan of example 1.
func many(n int) []api.Setting { return slices.Repeat(settings(0, []int{0, 0}), n) }

// settingsErrors checks the errors that all functions with a plan and settings have first. The call returns an error and the results beside it.
func settingsErrors(t *testing.T, what string, call func(p api.Plan, s []api.Setting) (api.Errno, []any)) {
	t.Helper()
	for name, p := range wrongPlans() {
		for _, s := range [][]api.Setting{nil, many(2001)} {
			e, results := call(p, s)
			isError(t, what+" of a plan with "+name, e, api.ErrArg, results...)
		}
	}
	for name, s := range wrongSettings() {
		e, results := call(example(), s)
		isError(t, what+" of settings with "+name, e, api.ErrArg, results...)
		e, results = call(example(), slices.Concat(s, many(2001-len(s))))
		isError(t, what+" of 2001 settings with "+name, e, api.ErrLong, results...)
	}
	e, results := call(example(), many(2001))
	isError(t, what+" of 2001 settings", e, api.ErrLong, results...)
}

// anyOf returns one of some values.
func anyOf[T any](r *rand.Rand, l ...T) T {
	return l[r.IntN(len(l))]
}

// anyLevels returns some level for each factor.
func anyLevels(r *rand.Rand, p api.Plan) []int {
	var l []int
	for _, f := range p.Factors {
		l = append(l, r.IntN(f.Levels))
	}
	return l
}

// anyPlan returns a plan with at most four factors that allows something.
func anyPlan(r *rand.Rand) api.Plan {
	var p api.Plan
	for range r.IntN(5) {
		p.Factors = append(p.Factors, api.Factor{Levels: 1 + r.IntN(4), Cost: anyOf(r, 0, 1, 2, 7, 1000), Hard: r.IntN(3) == 0})
	}
	kept := anyLevels(r, p)
	for range r.IntN(4) {
		var pairs []api.Pair
		for _, i := range r.Perm(len(p.Factors)) {
			if r.IntN(2) == 0 {
				pairs = append(pairs, api.Pair{Factor: i, Level: r.IntN(p.Factors[i].Levels)})
			}
		}
		if !hasAll(kept, pairs) {
			p.Forbidden = append(p.Forbidden, pairs)
		}
	}
	return p
}

// hasAll reports whether levels have all pairs.
func hasAll(levels []int, pairs []api.Pair) bool {
	n := 0
	for _, pair := range pairs {
		if levels[pair.Factor] == pair.Level {
			n++
		}
	}
	return n == len(pairs)
}

// isAllowed reports whether levels have not all pairs of any forbidden combination.
func isAllowed(p api.Plan, levels []int) bool {
	for _, pairs := range p.Forbidden {
		if hasAll(levels, pairs) {
			return false
		}
	}
	return true
}

// anySettings returns n settings that are valid for a plan that allows something, some of them equal.
func anySettings(r *rand.Rand, p api.Plan, n int) []api.Setting {
	blocks := []int{r.IntN(1001), r.IntN(1001), 0, 1000}
	var l []api.Setting
	for len(l) < n {
		if levels := anyLevels(r, p); isAllowed(p, levels) {
			l = append(l, api.Setting{Levels: levels, Block: anyOf(r, blocks...)})
		}
	}
	return l
}
