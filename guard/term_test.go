package guard_test

import (
	"math/rand/v2"
	"slices"
	"testing"

	"venturi/api"
	"venturi/guard"
)

// P9.2: the value of each kind of term.
func TestValue(t *testing.T) {
	state := []int{2, 5, 0, -3}
	for _, c := range []struct {
		t    api.Term
		want int
	}{
		{n(-1000), -1000}, {n(1000), 1000}, {n(0), 0}, {v(0), 2}, {v(3), -3},
		{op(api.OpAdd), 0}, {op(api.OpAdd, v(1)), 5}, {op(api.OpAdd, v(0), v(1), v(3), n(10)), 14},
		{op(api.OpSub, v(0), v(1)), -3}, {op(api.OpSub, v(1), v(3)), 8},
		{op(api.OpEqual, v(0), n(2)), 1}, {op(api.OpEqual, v(0), n(-2)), 0}, {op(api.OpEqual, op(api.OpAdd), v(2)), 1},
		{op(api.OpLess, v(0), v(1)), 1}, {op(api.OpLess, v(1), v(0)), 0}, {op(api.OpLess, v(0), n(2)), 0}, {op(api.OpLess, v(3), v(2)), 1},
		{op(api.OpNot, v(2)), 1}, {op(api.OpNot, v(3)), 0}, {op(api.OpNot, v(1)), 0},
		{op(api.OpAnd), 1}, {op(api.OpAnd, v(1)), 1}, {op(api.OpAnd, v(0), v(3)), 1}, {op(api.OpAnd, v(0), v(2)), 0}, {op(api.OpAnd, v(2), v(0)), 0},
		{op(api.OpOr), 0}, {op(api.OpOr, v(3)), 1}, {op(api.OpOr, v(2), v(1)), 1}, {op(api.OpOr, v(2), n(0)), 0},
		{op(api.OpCount), 0}, {op(api.OpCount, v(0), v(1), v(2), v(3), n(0), n(1)), 4}, {op(api.OpCount, v(2)), 0},
		{op(api.OpIf, v(3), n(7), n(8)), 7}, {op(api.OpIf, v(2), n(7), n(8)), 8}, {op(api.OpIf, n(1), v(1), v(0)), 5},
		{long(v(1), api.MaxTree), 5},
	} {
		x, e := guard.Value(c.t, state)
		is(t, text(c.t), x, e, c.want)
	}
	x, e := guard.Value(op(api.OpAdd, n(1)), nil)
	is(t, "a state without values", x, e, 1)
	x, e = guard.Value(v(999), append(make([]int, 999), 4))
	is(t, "a state of many values", x, e, 4)
}

// P9.2: any terms, against their meaning.
func TestValueOfAny(t *testing.T) {
	r := rand.New(rand.NewPCG(9, 2))
	for range 20000 {
		term := anyTerm(r, 3, 4)
		state := []int{r.IntN(9) - 4, r.IntN(64), r.IntN(2)}
		x, e := guard.Value(term, state)
		if len(numbersOf(term)) > api.MaxTree {
			isError(t, text(term), e, api.ErrArg, x)
			continue
		}
		is(t, text(term), x, e, meaning(term, state))
	}
}

// numbersOf returns the kinds of a term and all below it.
func numbersOf(t api.Term) []api.Op {
	all := []api.Op{t.Op}
	for _, k := range t.Kids {
		all = append(all, numbersOf(k)...)
	}
	return all
}

// P9.2: terms that are not valid for a state.
func TestValueErrors(t *testing.T) {
	for what, term := range wrongTerms() {
		x, e := guard.Value(term, []int{1})
		isError(t, what, e, api.ErrArg, x)
	}
	x, e := guard.Value(v(0), nil)
	isError(t, "a variable of none", e, api.ErrArg, x)
	x, e = guard.Value(op(api.OpIf, n(1), n(1), v(2)), []int{1, 2})
	isError(t, "a variable that does not matter", e, api.ErrArg, x)
}

// P9.9: the terms of votes.
func TestVote(t *testing.T) {
	kids := []api.Term{v(0), op(api.OpNot, v(1)), n(7)}
	isText(t, "Vote", guard.Vote(kids, 2), "<(2 count(v0 not(v1) 7))")
	isText(t, "Vote of none", guard.Vote(nil, -1), "<(-1 count())")
	isText(t, "Among", guard.Among(kids, 1, 2), "and(not(<(count(v0 not(v1) 7) 1)) not(<(2 count(v0 not(v1) 7))))")
	isText(t, "Among of none", guard.Among(nil, 5, 3), "and(not(<(count() 5)) not(<(3 count())))")
	bad := []api.Term{{Op: 77, N: 5, Kids: []api.Term{{}}}}
	isValue(t, "nothing is checked", guard.Vote(bad, 5000), api.OK, op(api.OpLess, n(5000), op(api.OpCount, bad...)))
}

// P9.9: what votes tell.
func TestVoteValue(t *testing.T) {
	truth := map[bool]int{true: 1}
	for bits := range 16 {
		var kids []api.Term
		yes := 0
		for k := range 4 {
			kids = append(kids, n(-3*(bits>>k&1)))
			yes += bits >> k & 1
		}
		for most := -2; most <= 5; most++ {
			x, e := guard.Value(guard.Vote(kids, most), nil)
			is(t, "Vote", x, e, truth[yes > most])
			for least := -2; least <= 5; least++ {
				x, e := guard.Value(guard.Among(kids, least, most), nil)
				is(t, "Among", x, e, truth[least <= yes && yes <= most])
			}
		}
	}
}

// P9.9: the kids are copied, with all below them.
func TestVoteCopies(t *testing.T) {
	kids := []api.Term{op(api.OpNot, op(api.OpAdd, v(0), n(3))), v(1)}
	before := []api.Term{op(api.OpNot, op(api.OpAdd, v(0), n(3))), v(1)}
	vote, among := guard.Vote(kids, 1), guard.Among(kids, 1, 1)
	apart(t, "Vote", kids, vote)
	apart(t, "Among", kids, among)
	isValue(t, "the kids", kids, api.OK, before)
	kids[0].Kids[0].Kids[1].N = 9
	kids = slices.Delete(kids, 0, 1)
	isText(t, "Vote", vote, "<(1 count(not(+(v0 3)) v1))")
	isText(t, "Among", among, "and(not(<(count(not(+(v0 3)) v1) 1)) not(<(1 count(not(+(v0 3)) v1))))")
}

// P1: terms of many levels.
func TestDeep(t *testing.T) {
	deep := n(0)
	for range 1 << 16 {
		deep = op(api.OpNot, deep)
	}
	x, e := guard.Value(deep, nil)
	isError(t, "Value", e, api.ErrArg, x)
	levels := 0
	for k := guard.Vote([]api.Term{deep}, 0).Kids[1].Kids[0]; k.Op == api.OpNot; k = k.Kids[0] {
		levels++
	}
	is(t, "levels of a copy", levels, api.OK, 1<<16)
}
