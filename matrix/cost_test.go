package matrix_test

import (
	"math"
	"math/rand/v2"
	"slices"
	"testing"

	"venturi/api"
	"venturi/matrix"
)

// cube returns the plan of the document's example 3.
func cube() api.Plan { return priced(plan(2, 2, 2), 1, 10, 100) }

// P6.5
func TestChanges(t *testing.T) {
	p := priced(plan(8, 3), 7, 1000)
	s := settings(0, []int{0, 0}, []int{7, 0}, []int{1, 2}, []int{7, 0})
	s[1].Block = 5
	for _, c := range []struct {
		order []int
		want  int
	}{
		{[]int{0, 1, 2, 3}, 7 + 1007 + 1007},
		{[]int{0, 1, 3, 2}, 7 + 1007},
		{[]int{2, 0, 1, 3}, 1007 + 7},
	} {
		n, e := matrix.Changes(p, s, c.order)
		is(t, "Changes", n, e, c.want)
	}
	n, e := matrix.Changes(hard(p, 0, 1), s, []int{0, 1, 2, 3})
	is(t, "hard factors", n, e, 2021)
	n, e = matrix.Changes(cube(), all(t, cube()), []int{0, 1, 2, 3, 4, 5, 6, 7})
	is(t, "the cube", n, e, 731)
	n, e = matrix.Changes(p, s[:1], []int{0})
	is(t, "one setting", n, e, 0)
	for _, none := range [][]int{nil, {}} {
		n, e = matrix.Changes(p, nil, none)
		is(t, "no settings", n, e, 0)
	}
	most := priced(plan(2, 2, 2, 2, 2, 2, 2, 2), 1000, 1000, 1000, 1000, 1000, 1000, 1000, 1000)
	s = slices.Repeat(settings(0, make([]int, 8), []int{1, 1, 1, 1, 1, 1, 1, 1}), 1000)
	var order []int
	for i := range s {
		order = append(order, i)
	}
	n, e = matrix.Changes(most, s, order)
	is(t, "the most", n, e, 1999*8000)
}

// P6.5
func TestChangesErrors(t *testing.T) {
	for _, order := range [][]int{nil, {0}, {0, 1}, {1, 0}} {
		settingsErrors(t, "Changes", func(p api.Plan, s []api.Setting) (api.Errno, []any) {
			n, e := matrix.Changes(p, s, order)
			return e, []any{n}
		})
	}
	p, s := plan(3), settings(0, []int{0}, []int{1}, []int{2})
	for _, order := range [][]int{nil, {}, {0, 1}, {0, 1, 2, 0}, {0, 1, 2, 3}, {0, 1, 1}, {0, 0, 2}, {1, 2, 3}, {0, 1, -1}, {0, 1, 3}, {0, 1, math.MaxInt}, {math.MinInt, 1, 2}} {
		n, e := matrix.Changes(p, s, order)
		isError(t, "no order", e, api.ErrArg, n)
	}
	n, e := matrix.Changes(p, nil, []int{0})
	isError(t, "no settings", e, api.ErrArg, n)
}

// P6.6
func TestCheapest(t *testing.T) {
	line := priced(plan(8), 3)
	near := priced(plan(8, 2), 1, 100)
	for _, c := range []struct {
		what     string
		p        api.Plan
		s        []api.Setting
		cost     int
		order    []int
		leastSum int
	}{
		{"the example", cube(), all(t, cube()), 124, []int{0, 4, 6, 2, 3, 7, 5, 1}, 124},
		{"no settings", cube(), nil, 0, nil, 0},
		{"one setting", cube(), all(t, cube())[3:4], 0, []int{0}, 0},
		{"two settings", cube(), all(t, cube())[6:], 100, []int{0, 1}, 100},
		{"equal costs", line, settings(0, []int{4}, []int{3}, []int{0}), 6, []int{0, 1, 2}, 6},
		{"an equal setting at last", line, settings(0, []int{4}, []int{3}, []int{4}), 3, []int{0, 2, 1}, 3},
		{"all equal", line, settings(0, []int{4}, []int{4}, []int{4}), 0, []int{0, 1, 2}, 0},
		{"no costs", plan(8), settings(0, []int{4}, []int{3}, []int{4}), 0, []int{0, 1, 2}, 0},
		{"not from the first one", near, settings(0, []int{0, 1}, []int{1, 0}, []int{1, 1}), 101, []int{0, 2, 1}, 101},
		{"from the second one", near, settings(0, []int{1, 1}, []int{0, 1}, []int{1, 0}), 101, []int{1, 0, 2}, 101},
		{"a star", priced(plan(2, 2, 2), 1, 1, 1), settings(0, []int{0, 0, 0}, []int{1, 0, 0}, []int{0, 1, 0}, []int{0, 0, 1}), 4, []int{1, 0, 2, 3}, 3},
	} {
		order, n, e := matrix.Cheapest(c.p, c.s)
		isList(t, c.what, order, e, c.order...)
		is(t, c.what, n, e, c.cost)
		n, e = matrix.Least(c.p, c.s)
		is(t, c.what+", Least", n, e, c.leastSum)
	}
}

// P6.6: blocks and groups do not matter.
func TestCheapestOfBlocks(t *testing.T) {
	s := all(t, cube())
	for i := range s {
		s[i].Block = 1000 - 100*i
	}
	order, n, e := matrix.Cheapest(hard(cube(), 0, 1), s)
	isList(t, "blocks and groups", order, e, 0, 4, 6, 2, 3, 7, 5, 1)
	is(t, "blocks and groups", n, e, 124)
	n, e = matrix.Least(hard(cube(), 0, 1), s)
	is(t, "blocks and groups, Least", n, e, 124)
}

// P6.6
func TestCheapestErrors(t *testing.T) {
	settingsErrors(t, "Cheapest", func(p api.Plan, s []api.Setting) (api.Errno, []any) {
		order, n, e := matrix.Cheapest(p, s)
		return e, []any{order, n}
	})
	settingsErrors(t, "Least", func(p api.Plan, s []api.Setting) (api.Errno, []any) {
		n, e := matrix.Least(p, s)
		return e, []any{n}
	})
	order, n, e := matrix.Cheapest(example(), many(9))
	isList(t, "nine settings", order, e, 0, 1, 2, 3, 4, 5, 6, 7, 8)
	for _, k := range []int{10, 100, 2000} {
		order, n, e = matrix.Cheapest(example(), many(k))
		isError(t, "more than nine", e, api.ErrLong, order, n)
		order, n, e = matrix.Cheapest(example(), append(many(k-1), settings(0, []int{1, 2})...))
		isError(t, "more than nine, and a bad one", e, api.ErrArg, order, n)
	}
	n, e = matrix.Least(example(), many(2000))
	is(t, "Least of 2000", n, e, 0)
}

// permutations returns all orders of n settings, in ascending order.
func permutations(n int) [][]int {
	var out [][]int
	var grow func(l []int)
	grow = func(l []int) {
		if len(l) == n {
			out = append(out, l)
		}
		for i := range n {
			if !slices.Contains(l, i) {
				grow(slices.Concat(l, []int{i}))
			}
		}
	}
	grow(nil)
	return out
}

// changes returns what Changes returns, but only without error.
func changes(t *testing.T, p api.Plan, s []api.Setting, order []int) int {
	t.Helper()
	n, e := matrix.Changes(p, s, order)
	if e != api.OK {
		t.Fatal("Changes", p, s, order, e)
	}
	return n
}

// P6.6, P6.13: Cheapest's is the first one of all orders with the least Changes.
func TestNoneIsCheaper(t *testing.T) {
	r := rand.New(rand.NewPCG(6, 13))
	above := 0
	for range 600 {
		p := anyOf(r, anyPlan(r), priced(plan(2, 2, 2, 2), 1, 1, 1, 1), priced(plan(3, 3, 3), 1, 1, 2))
		s := anySettings(r, p, r.IntN(7))
		var best []int
		least := math.MaxInt
		for _, order := range permutations(len(s)) {
			if n := changes(t, p, s, order); n < least {
				best, least = order, n
			}
		}
		order, n, e := matrix.Cheapest(p, s)
		isList(t, "Cheapest", order, e, best...)
		is(t, "Cheapest", n, e, least)
		bound, e := matrix.Least(p, s)
		if e != api.OK || bound > n {
			t.Fatal("Least", p, s, bound, e, n)
		}
		if bound < n {
			above++
		}
	}
	if above < 5 {
		t.Error("few cheapest orders are above the bound:", above)
	}
}

// P6.13: no order of many settings is below the bounds.
func TestBoundsOfMany(t *testing.T) {
	r := rand.New(rand.NewPCG(13, 6))
	for range 200 {
		p := anyPlan(r)
		s := anySettings(r, p, 1+r.IntN(9))
		order, n, e := matrix.Cheapest(p, s)
		if e != api.OK || n != changes(t, p, s, order) {
			t.Fatal("Cheapest", p, s, order, n, e)
		}
		for range 20 {
			if some := r.Perm(len(s)); changes(t, p, s, some) < n {
				t.Fatal("Cheapest", p, s, order, n, "but", some)
			}
		}
		s = anySettings(r, p, 40)
		bound, e := matrix.Least(p, s)
		if ordered, _ := matrix.Order(p, s, r.Uint64()); e != api.OK || bound > changes(t, p, s, ordered) {
			t.Fatal("Least", p, s, bound, e, "but", ordered)
		}
	}
}

// joined returns the least cost of a tree: the cheapest pairs first, but none of two settings that are joined already.
func joined(t *testing.T, p api.Plan, s []api.Setting) int {
	t.Helper()
	type pair struct{ a, b, cost int }
	var pairs []pair
	tree := make([]int, len(s))
	for a := range s {
		tree[a] = a
		for b := range a {
			pairs = append(pairs, pair{a, b, changes(t, p, []api.Setting{s[a], s[b]}, []int{0, 1})})
		}
	}
	slices.SortFunc(pairs, func(x, y pair) int { return x.cost - y.cost })
	sum := 0
	for _, x := range pairs {
		old, other := tree[x.a], tree[x.b]
		if old == other {
			continue
		}
		sum += x.cost
		for i := range tree {
			if tree[i] == old {
				tree[i] = other
			}
		}
	}
	return sum
}

// P6.6
func TestLeast(t *testing.T) {
	r := rand.New(rand.NewPCG(6, 6))
	for range 200 {
		p := anyPlan(r)
		s := anySettings(r, p, r.IntN(25))
		n, e := matrix.Least(p, s)
		is(t, "Least", n, e, joined(t, p, s))
	}
}
