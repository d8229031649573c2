package campaign_test

import (
	"fmt"
	"slices"
	"strconv"
	"strings"
	"testing"

	"venturi/api"
	"venturi/campaign"
	"venturi/matrix"
)

// P12.6
func TestMatrix(t *testing.T) {
	s := bare(t)
	do(t, s, "hall enrol bob y")
	refuses(t, s,
		fails("ada:x matrix 2 2/0 -1", api.ErrRange),
		fails("ada:x matrix 2 0/0 -999999999", api.ErrRange),
		fails("ada:x matrix 0 0/0 1", api.ErrArg),
		fails("ada:x matrix -2 0/0 1", api.ErrArg),
		fails("ada:x matrix 9 0/0 1", api.ErrArg),
		fails("ada:x matrix 1,1,1,1,1,1,1,1,1 0,0,0,0,0,0,0,0,0/0 1", api.ErrArg),
		fails("ada:x matrix 2 2/0 1", api.ErrArg),
		fails("ada:x matrix 2 -1/0 1", api.ErrArg),
		fails("ada:x matrix 2 0,0/0 1", api.ErrArg),
		fails("ada:x matrix 2,2 0,0/0;1/0 1", api.ErrArg),
		fails("ada:x matrix 2 0/-1 1", api.ErrArg),
		fails("ada:x matrix 2 0/1001 1", api.ErrArg),
	)
	play(t, s, done("ada:x matrix 8,1,1,1,1,1,1,2 7,0,0,0,0,0,0,1/1000 999999999", "1"), done("ada:x next", "0 7,0,0,0,0,0,0,1"), done("ada:x book", "0 open"))
	refuses(t, s,
		fails("ada:x matrix 2 0/0 1", api.ErrState),
		fails("ada:x matrix 2 0/0 -1", api.ErrState),
		fails("ada:x matrix 0 0/0 1", api.ErrState),
		fails("bob:y book", api.ErrState),
	)
	do(t, s, "ada:x declare 0 leak")
	refuses(t, s, fails("ada:x matrix 2 0/0 -1", api.ErrRange), fails("ada:x matrix 2 2/0 1", api.ErrArg))
	play(t, s,
		done("ada:x book", "0 declared leak"),
		done("ada:x next", "none"),
		done("ada:x matrix 2,3 0,0/0;0,0/0;1,2/0 1", "3"),
	)
}

// P12.6: the order is that of a plan without costs, hard factors and forbidden levels.
func TestOrderOfPoints(t *testing.T) {
	for r := range cases(40) {
		plan := api.Plan{Factors: make([]api.Factor, 1+r.IntN(4))}
		for i := range plan.Factors {
			plan.Factors[i].Levels = 1 + r.IntN(8)
		}
		levelsOf := func() []int {
			var l []int
			for _, f := range plan.Factors {
				l = append(l, r.IntN(f.Levels))
			}
			return l
		}
		var settings []api.Setting
		var words []string
		for range 1 + r.IntN(60) {
			setting := api.Setting{Levels: levelsOf(), Block: anyOf(r, 0, 0, 5, 1000)}
			settings = append(settings, setting)
			words = append(words, commas(setting.Levels)+"/"+strconv.Itoa(setting.Block))
		}
		seed := r.IntN(1000)
		order, e := matrix.Order(plan, settings, uint64(seed))
		if e != api.OK {
			t.Fatal("Order", e)
		}
		var factors []int
		for _, f := range plan.Factors {
			factors = append(factors, f.Levels)
		}
		s := siteOf(t, "hall enrol ada x")
		play(t, s, done(fmt.Sprint("ada:x matrix ", commas(factors), " ", strings.Join(words, ";"), " ", seed), strconv.Itoa(len(settings))))
		for _, point := range order {
			play(t, s, done("ada:x next", strconv.Itoa(point)+" "+commas(settings[point].Levels)), done("ada:x declare "+strconv.Itoa(point)+" x", ""))
		}
		play(t, s, done("ada:x next", "none"))
	}
}

// A book without a customer's points is none.
func TestNoBook(t *testing.T) {
	s := bare(t)
	do(t, s, by("ada:x", double, "model 0 0,0,0", "chain -")...)
	refuses(t, s,
		fails("ada:x next", api.ErrState),
		fails("ada:x take 0 6 2 -", api.ErrState),
		fails("ada:x declare 0 leak", api.ErrState),
		fails("ada:x declare 0 Leak", api.ErrState),
		fails("ada:x reopen 0", api.ErrState),
		fails("ada:x book", api.ErrState),
		fails("ada:x again 0", api.ErrRange),
		fails("ada:x again 1", api.ErrRange),
	)
}

func TestDeclareAndReopen(t *testing.T) {
	s := ready(t)
	refuses(t, s,
		fails("ada:x declare 2 Leak", api.ErrRange),
		fails("ada:x declare -1 leak", api.ErrRange),
		fails("ada:x declare 0 Leak", api.ErrForm),
		fails("ada:x declare 0 -", api.ErrForm),
		fails("ada:x declare 0 "+strings.Repeat("a", 21), api.ErrForm),
		fails("ada:x reopen 2", api.ErrRange),
		fails("ada:x reopen -1", api.ErrRange),
		fails("ada:x reopen 0", api.ErrNone),
	)
	play(t, s,
		done("ada:x declare 1 "+strings.Repeat("a", 20), ""),
		done("ada:x book", "0 open; 1 declared "+strings.Repeat("a", 20)),
		fails("ada:x declare 1 leak", api.ErrTwice),
		done("ada:x reopen 1", ""),
		done("ada:x declare 1 leak", ""),
		done("ada:x next", "0 0"),
		done("ada:x take 0 6 2 -", "1 c=1.5..1.5"),
		done("ada:x book", "0 taken; 1 declared leak"),
	)
	refuses(t, s,
		fails("ada:x reopen 1", api.ErrState),
		fails("ada:x reopen 0", api.ErrNone),
		fails("ada:x declare 0 leak", api.ErrTwice),
		fails("ada:x declare 0 Leak", api.ErrForm),
		fails("ada:x take 1 6 2 -", api.ErrTwice),
	)
}

// plainBook is points in their order.
type plainBook struct {
	order, blocks []int
	states        []string
}

// some reports whether a point of the block of another one has a state, before it or behind it in the order.
func (b plainBook) some(point int, state string, before bool) bool {
	place := slices.Index(b.order, point)
	near := b.order[:place]
	if !before {
		near = b.order[place+1:]
	}
	return slices.ContainsFunc(near, func(i int) bool { return b.blocks[i] == b.blocks[point] && b.states[i] == state })
}

// do carries out an order of a point, and returns its error.
func (b plainBook) do(order string, point int) api.Errno {
	if point < 0 || point >= len(b.states) {
		return api.ErrRange
	}
	state := b.states[point]
	switch {
	case order == "reopen" && !strings.HasPrefix(state, "declared"):
		return api.ErrNone
	case order == "reopen" && b.some(point, "taken", false):
		return api.ErrState
	case order != "reopen" && state != "open":
		return api.ErrTwice
	case order == "take" && b.some(point, "open", true):
		return api.ErrBefore
	}
	b.states[point] = map[string]string{"take": "taken", "declare": "declared leak", "reopen": "open"}[order]
	return api.OK
}

// text returns what the order book answers.
func (b plainBook) text() string {
	return strings.Join(each(len(b.states), func(i int) string { return strconv.Itoa(i) + " " + b.states[i] }), "; ")
}

// P12.8, P12.13: points of several blocks, beside a plain book.
func TestAnyBook(t *testing.T) {
	errors := map[api.Errno]int{}
	for r := range cases(100) {
		blocks := make([]int, 1+r.IntN(8))
		settings := make([]api.Setting, len(blocks))
		for i := range blocks {
			blocks[i] = r.IntN(3)
			settings[i] = api.Setting{Levels: []int{i % 2}, Block: blocks[i]}
		}
		seed := r.IntN(100)
		s := bare(t)
		do(t, s, by("ada:x", double, "model 0 0,0,0", "chain -", fmt.Sprint("matrix 2 ", strings.Join(each(len(blocks), func(i int) string { return fmt.Sprint(i%2, "/", blocks[i]) }), ";"), " ", seed))...)
		b := plainBook{blocks: blocks, states: slices.Repeat([]string{"open"}, len(blocks))}
		b.order, _ = matrix.Order(api.Plan{Factors: []api.Factor{{Levels: 2}}}, settings, uint64(seed))
		for range 30 {
			order, point := anyOf(r, "take", "take", "declare", "reopen"), r.IntN(len(blocks)+2)-1
			e := b.do(order, point)
			errors[e]++
			line := fmt.Sprint("ada:x ", order, " ", point) + map[string]string{"take": " 6 2 -", "declare": " leak"}[order]
			if a := s.Do(line); a.Err != e {
				t.Error(line, a, "instead of", e, b)
			}
			play(t, s, done("ada:x book", b.text()))
			nextIs(t, s, b)
		}
	}
	for _, e := range []api.Errno{api.OK, api.ErrRange, api.ErrNone, api.ErrState, api.ErrTwice, api.ErrBefore} {
		if errors[e] < 10 {
			t.Error("few errors", e, errors[e])
		}
	}
}

// nextIs checks the first open point of a book.
func nextIs(t *testing.T, s *campaign.Site, b plainBook) {
	t.Helper()
	want := "none"
	for _, i := range slices.Backward(b.order) {
		if b.states[i] == "open" {
			want = fmt.Sprint(i, " ", i%2)
		}
	}
	play(t, s, done("ada:x next", want))
}

// P12.8: when a book can not take a point, that comes before the errors of the reduction and of Seal, in each state of it.
func TestErrorsOfTheBookFirst(t *testing.T) {
	wrong := " 1,1 0 9:1"
	s := ready(t)
	do(t, s, "ada:x declare 1 leak", "ada:x reopen 1")
	for range 30 {
		do(t, s, "ada:x seal note 9 text")
	}
	refuses(t, s,
		fails("ada:x take 2"+wrong, api.ErrRange),
		fails("ada:x take -1"+wrong, api.ErrRange),
		fails("ada:x take 0"+wrong, api.ErrBefore),
		fails("ada:x take 1"+wrong, api.ErrArg),
	)
	do(t, s, "ada:x declare 1 leak")
	refuses(t, s, fails("ada:x take 1"+wrong, api.ErrTwice), fails("ada:x take 0"+wrong, api.ErrArg), fails("ada:x take 0 6 2 -", api.ErrFull))
	do(t, s, "ada:x declare 0 leak")
	play(t, s, done("ada:x matrix 2 0/0;1/0 0", "2"))
}
