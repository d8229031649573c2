package matrix_test

import (
	"math"
	"math/big"
	"math/rand/v2"
	"slices"
	"testing"

	"venturi/api"
	"venturi/matrix"
)

// P6.3
func TestShuffle(t *testing.T) {
	for _, c := range []struct {
		seed uint64
		want []int
	}{
		{0, nil},
		{0, []int{0}},
		{0, []int{1, 0}},
		{1, []int{1, 0}},
		{0, []int{7, 3, 1, 8, 5, 6, 2, 4, 9, 0}},
		{1, []int{3, 1, 0, 7, 6, 8, 2, 5, 9, 4}},
		{math.MaxUint64, []int{9, 0, 1, 8, 3, 5, 2, 4, 6, 7}},
		{12345678901234567890, []int{7, 15, 13, 10, 4, 14, 1, 5, 12, 6, 9, 8, 2, 11, 0, 3}},
	} {
		l, e := matrix.Shuffle(c.seed, len(c.want))
		isList(t, "Shuffle", l, e, c.want...)
	}
	l, e := matrix.Shuffle(7, 2000)
	isList(t, "the first ones of 2000", l[:5], e, 1463, 1355, 1257, 1897, 587)
	isList(t, "the last ones of 2000", l[1995:], e, 531, 544, 1811, 1910, 986)
	for _, n := range []int{-1, 2001, math.MinInt, math.MaxInt} {
		l, e := matrix.Shuffle(0, n)
		isError(t, "Shuffle", e, api.ErrRange, l)
	}
}

// bigShuffle is Shuffle in numbers of any size.
func bigShuffle(seed uint64, n int) []int {
	state := new(big.Int).SetUint64(seed)
	factor, summand := new(big.Int).SetUint64(6364136223846793005), new(big.Int).SetUint64(1442695040888963407)
	word := new(big.Int).Lsh(big.NewInt(1), 64)
	half := new(big.Int).Lsh(big.NewInt(1), 32)
	var l []int
	for i := range n {
		l = append(l, i)
	}
	for i := n - 1; i >= 1; i-- {
		state.Mul(state, factor).Add(state, summand).Mod(state, word)
		upper := new(big.Int).Quo(state, half)
		draw := int(upper.Mul(upper, big.NewInt(int64(i+1))).Quo(upper, half).Int64())
		l[i], l[draw] = l[draw], l[i]
	}
	return l
}

// P6.3
func TestShuffleOfAnySeed(t *testing.T) {
	r := rand.New(rand.NewPCG(6, 3))
	for range 300 {
		seed, n := anyOf(r, r.Uint64(), r.Uint64N(9), -r.Uint64N(9)), r.IntN(40)
		l, e := matrix.Shuffle(seed, n)
		isList(t, "Shuffle", l, e, bigShuffle(seed, n)...)
	}
}

// mixed returns twelve settings of a plan with a hard factor of three levels, by turns of the blocks 7 and 3.
func mixed(t *testing.T) (api.Plan, []api.Setting) {
	p := hard(plan(2, 3, 2), 1)
	s := all(t, p)
	for i := range s {
		s[i].Block = []int{7, 3}[i%2]
	}
	return p, s
}

// P6.4
func TestOrder(t *testing.T) {
	p, s := mixed(t)
	for _, c := range []struct {
		seed uint64
		want []int
	}{
		{0, []int{7, 1, 3, 9, 5, 11, 2, 8, 6, 0, 4, 10}},
		{1, []int{3, 9, 11, 5, 1, 7, 10, 4, 2, 8, 0, 6}},
		{math.MaxUint64, []int{11, 5, 7, 1, 9, 3, 10, 4, 6, 0, 8, 2}},
	} {
		l, e := matrix.Order(p, s, c.seed)
		isList(t, "Order", l, e, c.want...)
	}
	cube := plan(2, 2, 2)
	l, e := matrix.Order(hard(cube, 2), all(t, cube), 0)
	isList(t, "two groups", l, e, 7, 5, 1, 3, 0, 4, 6, 2)
	l, e = matrix.Order(cube, all(t, cube), 0)
	isList(t, "one group", l, e, 0, 2, 4, 5, 1, 6, 7, 3)
	l, e = matrix.Order(hard(cube, 0, 1, 2), all(t, cube), 0)
	isList(t, "a group each", l, e, 4, 6, 5, 1, 2, 3, 7, 0)
	l, e = matrix.Order(plan(2), settings(0, []int{0}, []int{1}), 0)
	isList(t, "that of Shuffle of the seed 1", l, e, 1, 0)
	for _, none := range [][]api.Setting{nil, {}} {
		l, e = matrix.Order(example(), none, 5)
		isList(t, "no settings", l, e)
	}
	l, e = matrix.Order(plan(), slices.Concat(settings(1000, nil), settings(0, []int{})), 5)
	isList(t, "no factors", l, e, 1, 0)
	l, e = matrix.Order(example(), many(2000), 5)
	is(t, "2000 settings", len(l), e, 2000)
}

// P6.4
func TestOrderErrors(t *testing.T) {
	settingsErrors(t, "Order", func(p api.Plan, s []api.Setting) (api.Errno, []any) {
		l, e := matrix.Order(p, s, 0)
		return e, []any{l}
	})
}

// sameGroup reports whether two settings are in one group.
func sameGroup(p api.Plan, a, b api.Setting) bool {
	same := a.Block == b.Block
	for i, f := range p.Factors {
		same = same && (!f.Hard || a.Levels[i] == b.Levels[i])
	}
	return same
}

// groups returns the numbers of the settings of each group of a block.
func groups(p api.Plan, s []api.Setting, block int) [][]int {
	var out [][]int
	for i := range s {
		if s[i].Block != block {
			continue
		}
		k := slices.IndexFunc(out, func(l []int) bool { return sameGroup(p, s[l[0]], s[i]) })
		if k < 0 {
			k = len(out)
			out = append(out, nil)
		}
		out[k] = append(out[k], i)
	}
	return out
}

// orderOf returns the order of settings as P6.4 says it.
func orderOf(p api.Plan, s []api.Setting, seed uint64) []int {
	var order []int
	for block := range 1001 {
		own := groups(p, s, block)
		for _, k := range bigShuffle(seed+uint64(block)*1000003, len(own)) {
			for _, i := range bigShuffle(seed+1+uint64(own[k][0])*7919, len(own[k])) {
				order = append(order, own[k][i])
			}
		}
	}
	return order
}

// P6.4
func TestOrderOfAnySettings(t *testing.T) {
	r := rand.New(rand.NewPCG(6, 4))
	for range 300 {
		p := anyPlan(r)
		s, seed := anySettings(r, p, r.IntN(30)), anyOf(r, r.Uint64(), r.Uint64N(9), -r.Uint64N(9))
		l, e := matrix.Order(p, s, seed)
		isList(t, "Order", l, e, orderOf(p, s, seed)...)
	}
}

// P6.12
func TestOrders(t *testing.T) {
	r := rand.New(rand.NewPCG(6, 12))
	for range 300 {
		p := anyPlan(r)
		s, seed := anySettings(r, p, 1+r.IntN(30)), r.Uint64()
		l, e := matrix.Order(p, s, seed)
		again, _ := matrix.Order(p, s, seed)
		isList(t, "the same seed", again, e, l...)
		sorted := slices.Sorted(slices.Values(l))
		for i, n := range sorted {
			is(t, "an order", n, e, i)
		}
		is(t, "an order", len(l), e, len(s))
		for place, i := range l[1:] {
			before := l[:place+1]
			last := before[place]
			if s[i].Block < s[last].Block {
				t.Fatal("blocks do not ascend", p, s, l)
			}
			left := func(k int) bool { return sameGroup(p, s[k], s[i]) }
			if !left(last) && slices.ContainsFunc(before, left) {
				t.Fatal("a group with a break", p, s, l)
			}
		}
	}
}

// P6.12: other seeds have other orders.
func TestSeeds(t *testing.T) {
	seen := map[int]int{}
	for seed := range uint64(600) {
		l, e := matrix.Order(plan(6), settings(0, []int{0}, []int{1}, []int{2}, []int{3}, []int{4}, []int{5}), seed)
		if e != api.OK {
			t.Fatal("Order", e)
		}
		seen[l[0]]++
	}
	for i := range 6 {
		if seen[i] < 50 {
			t.Error("few orders begin with", i, seen)
		}
	}
}
