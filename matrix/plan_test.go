package matrix_test

import (
	"math"
	"math/rand/v2"
	"slices"
	"testing"

	"venturi/api"
	"venturi/matrix"
)

// P6.1
func TestCheckPlan(t *testing.T) {
	for what, p := range map[string]api.Plan{
		"no factors":           {},
		"empty lists":          {Factors: []api.Factor{}, Forbidden: [][]api.Pair{}},
		"the example":          example(),
		"eight factors":        plan(8, 8, 8, 8, 8, 8, 8, 8),
		"one level":            plan(1),
		"costs":                priced(plan(2, 2), 0, 1000),
		"40 combinations":      {Factors: plan(2).Factors, Forbidden: make([][]api.Pair, 40)},
		"all factors":          without(plan(2, 3, 8), 2, 7, 0, 1, 1, 2),
		"one combination more": without(example(), 0, 1, 1, 2),
	} {
		if e := matrix.CheckPlan(p); e != api.OK {
			t.Errorf("%s: error %d", what, e)
		}
	}
	for what, p := range wrongPlans() {
		isError(t, what, matrix.CheckPlan(p), api.ErrArg)
	}
}

// P6.1
func TestAllowed(t *testing.T) {
	two := without(without(plan(2, 3, 2), 0, 1, 2, 1), 1, 2)
	for _, c := range []struct {
		p      api.Plan
		levels []int
		want   bool
	}{
		{example(), []int{1, 2}, false},
		{example(), []int{1, 1}, true},
		{example(), []int{0, 2}, true},
		{example(), []int{0, 0}, true},
		{two, []int{1, 0, 1}, false},
		{two, []int{1, 1, 1}, false},
		{two, []int{0, 2, 0}, false},
		{two, []int{1, 2, 1}, false},
		{two, []int{1, 1, 0}, true},
		{two, []int{0, 1, 1}, true},
		{plan(), nil, true},
		{plan(), []int{}, true},
		{plan(8), []int{7}, true},
		{without(plan()), nil, false},
		{without(plan(2)), []int{1}, false},
		{without(without(plan(2), 0, 0)), []int{1}, false},
	} {
		ok, e := matrix.Allowed(c.p, c.levels)
		is(t, "Allowed", ok, e, c.want)
	}
	for _, levels := range [][]int{nil, {0}, {0, 0, 0}, {-1, 0}, {2, 0}, {0, 3}, {0, -1}, {math.MaxInt, 0}, {0, math.MinInt}} {
		for _, p := range []api.Plan{plan(2, 3), example(), without(plan(2, 3))} {
			ok, e := matrix.Allowed(p, levels)
			isError(t, "other levels", e, api.ErrArg, ok)
		}
	}
	for what, p := range wrongPlans() {
		ok, e := matrix.Allowed(p, make([]int, len(p.Factors)))
		isError(t, "Allowed with "+what, e, api.ErrArg, ok)
	}
}

// areLevels compares lists of levels without error with what they should have.
func areLevels(t *testing.T, what string, got [][]int, e api.Errno, want ...[]int) {
	t.Helper()
	if e != api.OK || !slices.EqualFunc(got, want, slices.Equal) {
		t.Errorf("%s: %v, error %d, instead of %v", what, got, e, want)
	}
}

// P6.2
func TestSettings(t *testing.T) {
	l, e := matrix.Settings(example())
	areLevels(t, "the example", l, e, []int{0, 0}, []int{0, 1}, []int{0, 2}, []int{1, 0}, []int{1, 1})
	l, e = matrix.Settings(plan())
	areLevels(t, "no factors", l, e, nil)
	l, e = matrix.Settings(plan(1, 1))
	areLevels(t, "one setting", l, e, []int{0, 0})
	l, e = matrix.Settings(without(plan(2, 1, 2), 2, 0))
	areLevels(t, "half of four", l, e, []int{0, 0, 1}, []int{1, 0, 1})
	for what, p := range map[string]api.Plan{
		"no combination of nothing": without(plan()),
		"everything forbidden":      without(plan(2, 2)),
		"one by one":                without(without(plan(2, 2), 1, 0), 1, 1),
	} {
		l, e = matrix.Settings(p)
		areLevels(t, what, l, e)
	}
	l, e = matrix.Settings(plan(5, 5, 5, 4, 4))
	is(t, "as many as can be", len(l), e, 2000)
	isList(t, "the last one", l[1999], e, 4, 4, 4, 3, 3)
	l, e = matrix.Settings(without(plan(5, 5, 5, 4, 4), 0, 3))
	is(t, "four fifths", len(l), e, 1600)
}

// P6.2
func TestSettingsErrors(t *testing.T) {
	for _, p := range []api.Plan{plan(8, 7, 6, 6), plan(8, 8, 8, 4), plan(8, 8, 8, 8, 8, 8, 8, 8), without(plan(8, 8, 8, 4)), without(plan(8, 8, 8, 4), 0, 3)} {
		l, e := matrix.Settings(p)
		isError(t, "too many", e, api.ErrLong, l)
	}
	for what, p := range wrongPlans() {
		l, e := matrix.Settings(p)
		isError(t, "Settings with "+what, e, api.ErrArg, l)
	}
	l, e := matrix.Settings(plan(8, 8, 8, 8, 9))
	isError(t, "too many, and a bad factor", e, api.ErrArg, l)
}

// combinations returns the levels of all factors, in ascending order.
func combinations(factors []api.Factor) [][]int {
	if len(factors) == 0 {
		return [][]int{nil}
	}
	var out [][]int
	for level := range factors[0].Levels {
		for _, rest := range combinations(factors[1:]) {
			out = append(out, slices.Concat([]int{level}, rest))
		}
	}
	return out
}

// P6.1, P6.2: the settings are the combinations that are allowed.
func TestSettingsAreAllowed(t *testing.T) {
	r := rand.New(rand.NewPCG(6, 2))
	forbidden := 0
	for range 500 {
		p := anyPlan(r)
		var want [][]int
		for _, levels := range combinations(p.Factors) {
			ok, e := matrix.Allowed(p, levels)
			is(t, "Allowed", ok, e, isAllowed(p, levels))
			if ok {
				want = append(want, levels)
			} else {
				forbidden++
			}
		}
		l, e := matrix.Settings(p)
		areLevels(t, "Settings", l, e, want...)
	}
	if forbidden < 500 {
		t.Error("few combinations were forbidden:", forbidden)
	}
}
