package matrix_test

import (
	"math"
	"math/rand/v2"
	"slices"
	"strings"
	"testing"

	"venturi/api"
	"venturi/matrix"
)

// pair returns the book of the document's example 5.
func pair(t *testing.T) *matrix.Book {
	return book(t, plan(2), settings(0, []int{0}, []int{1}))
}

// book returns the book of settings with the seed 0.
func book(t *testing.T, p api.Plan, s []api.Setting) *matrix.Book {
	t.Helper()
	b, e := matrix.NewBook(p, s, 0)
	if e != api.OK || b == nil {
		t.Fatal("NewBook", p, s, e)
	}
	return b
}

// isNext compares Next with what it should be.
func isNext(t *testing.T, what string, b *matrix.Book, want int, some bool) {
	t.Helper()
	if n, ok := b.Next(); n != want || ok != some {
		t.Errorf("%s: next is %d, %v, instead of %d, %v", what, n, ok, want, some)
	}
}

// isState compares the state of a point with what it should be.
func isState(t *testing.T, what string, b *matrix.Book, point int, want api.PointState, reason string) {
	t.Helper()
	if state, text, e := b.State(point); state != want || text != reason || e != api.OK {
		t.Errorf("%s: the point %d is %d, %q, error %d, instead of %d, %q", what, point, state, text, e, want, reason)
	}
}

// P6.10, P6.11: the document's example 5.
func TestExampleOfBook(t *testing.T) {
	b := pair(t)
	isList(t, "Open", b.Open(), api.OK, 1, 0)
	isNext(t, "at first", b, 1, true)
	isError(t, "Take of 0", b.Take(0), api.ErrBefore)
	isState(t, "refused", b, 0, api.PointOpen, "")
	isError(t, "Declare of 1", b.Declare(1, "leak"), api.OK)
	isNext(t, "without 1", b, 0, true)
	isList(t, "without 1", b.Open(), api.OK, 0)
	is(t, "Done", b.Done(), api.OK, false)
	isError(t, "Take of 0", b.Take(0), api.OK)
	isError(t, "Reopen of 1", b.Reopen(1), api.ErrState)
	isState(t, "declared", b, 1, api.PointDeclared, "leak")
	isState(t, "taken", b, 0, api.PointTaken, "")
	isNext(t, "at last", b, 0, false)
	isList(t, "at last", b.Open(), api.OK)
	is(t, "Done", b.Done(), api.OK, true)
}

// P6.10
func TestNewBook(t *testing.T) {
	p, s := mixed(t)
	for _, seed := range []uint64{0, 1, math.MaxUint64} {
		b, e := matrix.NewBook(p, s, seed)
		order, _ := matrix.Order(p, s, seed)
		isList(t, "Open", b.Open(), e, order...)
		isNext(t, "at first", b, order[0], true)
		is(t, "Done", b.Done(), e, false)
		for i := range s {
			isState(t, "at first", b, i, api.PointOpen, "")
		}
		for _, i := range order {
			isNext(t, "one after another", b, i, true)
			isError(t, "one after another", b.Take(i), api.OK)
		}
		is(t, "Done", b.Done(), e, true)
	}
	settingsErrors(t, "NewBook", func(p api.Plan, s []api.Setting) (api.Errno, []any) {
		b, e := matrix.NewBook(p, s, 0)
		return e, []any{b}
	})
}

// P6.10: a book without points.
func TestEmptyBook(t *testing.T) {
	for _, b := range []*matrix.Book{book(t, plan(), nil), book(t, example(), []api.Setting{})} {
		isNext(t, "no points", b, 0, false)
		isList(t, "no points", b.Open(), api.OK)
		is(t, "no points", b.Done(), api.OK, true)
		isError(t, "no points", b.Take(0), api.ErrRange)
	}
}

// P6.10, P6.11
func TestNumbersOfPoints(t *testing.T) {
	b := pair(t)
	for _, n := range []int{-1, 2, 3, math.MinInt, math.MaxInt} {
		state, reason, e := b.State(n)
		isError(t, "State", e, api.ErrRange, state, reason)
		isError(t, "Take", b.Take(n), api.ErrRange)
		isError(t, "Declare", b.Declare(n, "leak"), api.ErrRange)
		isError(t, "Declare with no reason", b.Declare(n, ""), api.ErrRange)
		isError(t, "Reopen", b.Reopen(n), api.ErrRange)
	}
	isList(t, "nothing has changed", b.Open(), api.OK, 1, 0)
}

// P6.11
func TestReasons(t *testing.T) {
	for _, reason := range []string{"a", "z", "leak", "a0", "z9_", "a_______", strings.Repeat("q", 20)} {
		b := pair(t)
		isError(t, reason, b.Declare(0, reason), api.OK)
		isState(t, reason, b, 0, api.PointDeclared, reason)
	}
	b := pair(t)
	isError(t, "declared", b.Declare(0, "leak"), api.OK)
	for _, reason := range []string{"", strings.Repeat("q", 21), "0", "9a", "_", "_a", "A", "aB", "Z", "a-b", "a b", " a", "a ", "a.", "`", "{", "a`", "a{", "a/", "a:", "a@", "a\x00", "\x00", "é", "aé", "a\xff", strings.Repeat("q", 100000)} {
		isError(t, reason, b.Declare(1, reason), api.ErrForm)
		isError(t, reason+" of a declared point", b.Declare(0, reason), api.ErrForm)
		isState(t, reason, b, 1, api.PointOpen, "")
		isState(t, reason, b, 0, api.PointDeclared, "leak")
	}
}

// P6.11
func TestTwice(t *testing.T) {
	b := pair(t)
	isError(t, "Reopen of an open point", b.Reopen(1), api.ErrNone)
	isError(t, "Take", b.Take(1), api.OK)
	isError(t, "Take twice", b.Take(1), api.ErrTwice)
	isError(t, "Declare of a taken point", b.Declare(1, "leak"), api.ErrTwice)
	isError(t, "Reopen of a taken point", b.Reopen(1), api.ErrNone)
	isState(t, "taken", b, 1, api.PointTaken, "")
	isError(t, "Declare", b.Declare(0, "leak"), api.OK)
	isError(t, "Declare twice", b.Declare(0, "dust"), api.ErrTwice)
	isError(t, "Take of a declared point", b.Take(0), api.ErrTwice)
	isState(t, "declared", b, 0, api.PointDeclared, "leak")
	isError(t, "Reopen", b.Reopen(0), api.OK)
	isState(t, "open again", b, 0, api.PointOpen, "")
	isNext(t, "open again", b, 0, true)
	isError(t, "Declare with another reason", b.Declare(0, "dust"), api.OK)
	isState(t, "declared again", b, 0, api.PointDeclared, "dust")
	b = pair(t)
	isError(t, "Declare before its turn", b.Declare(0, "leak"), api.OK)
	isError(t, "Take of a declared point behind an open one", b.Take(0), api.ErrTwice)
}

// P6.11: points of other blocks do not matter.
func TestBlocksOfBook(t *testing.T) {
	b := book(t, plan(2), slices.Concat(settings(5, []int{0}, []int{1}), settings(4, []int{0}, []int{1})))
	order := b.Open()
	isList(t, "blocks ascend", []bool{order[0] >= 2, order[1] >= 2, order[2] < 2, order[3] < 2}, api.OK, true, true, true, true)
	isError(t, "the second one of the second block", b.Take(order[3]), api.ErrBefore)
	isError(t, "the second block first", b.Take(order[2]), api.OK)
	isError(t, "the second one of the first block", b.Take(order[1]), api.ErrBefore)
	isError(t, "all of the second block", b.Take(order[3]), api.OK)
	isNext(t, "the first block", b, order[0], true)
	isError(t, "declared", b.Declare(order[1], "dust"), api.OK)
	isError(t, "declared behind which another block was taken", b.Reopen(order[1]), api.OK)
	isError(t, "declared", b.Declare(order[0], "dust"), api.OK)
	isError(t, "behind a declared one", b.Take(order[1]), api.OK)
	isError(t, "taken behind it", b.Reopen(order[0]), api.ErrState)
	is(t, "Done", b.Done(), api.OK, true)
}

// R3
func TestNoBook(t *testing.T) {
	for _, b := range []*matrix.Book{nil, {}, new(matrix.Book)} {
		isNext(t, "no book", b, 0, false)
		isList(t, "no book", b.Open(), api.OK)
		is(t, "no book", b.Done(), api.OK, false)
		for _, n := range []int{0, -1} {
			state, reason, e := b.State(n)
			isError(t, "State", e, api.ErrNil, state, reason)
			isError(t, "Take", b.Take(n), api.ErrNil)
			isError(t, "Declare", b.Declare(n, "leak"), api.ErrNil)
			isError(t, "Declare with no reason", b.Declare(n, ""), api.ErrNil)
			isError(t, "Reopen", b.Reopen(n), api.ErrNil)
		}
	}
}

// follower does what P6.11 says to states in the order of the points.
type follower struct {
	settings []api.Setting
	order    []int
	states   []api.PointState
	reasons  []string
}

// some reports whether a point before a place, or behind it, in the same block has the state.
func (f follower) some(point int, before bool, state api.PointState) bool {
	place := slices.Index(f.order, point)
	for i, other := range f.order {
		if (i < place) == before && i != place && f.states[other] == state && f.settings[other].Block == f.settings[point].Block {
			return true
		}
	}
	return false
}

func (f follower) take(point int) api.Errno {
	switch {
	case f.states[point] != api.PointOpen:
		return api.ErrTwice
	case f.some(point, true, api.PointOpen):
		return api.ErrBefore
	}
	f.states[point] = api.PointTaken
	return api.OK
}

func (f follower) declare(point int, reason string) api.Errno {
	if f.states[point] != api.PointOpen {
		return api.ErrTwice
	}
	f.states[point], f.reasons[point] = api.PointDeclared, reason
	return api.OK
}

func (f follower) reopen(point int) api.Errno {
	switch {
	case f.states[point] != api.PointDeclared:
		return api.ErrNone
	case f.some(point, false, api.PointTaken):
		return api.ErrState
	}
	f.states[point], f.reasons[point] = api.PointOpen, ""
	return api.OK
}

// open returns the open points in the order.
func (f follower) open() []int {
	return slices.DeleteFunc(slices.Clone(f.order), func(i int) bool { return f.states[i] != api.PointOpen })
}

// same checks that a book is as the follower knows it.
func (f follower) same(t *testing.T, b *matrix.Book) {
	t.Helper()
	open := f.open()
	isList(t, "Open", b.Open(), api.OK, open...)
	is(t, "Done", b.Done(), api.OK, len(open) == 0)
	isNext(t, "Next", b, append(open, 0)[0], len(open) > 0)
	for i, state := range f.states {
		isState(t, "State", b, i, state, f.reasons[i])
	}
}

// anyBook returns a book and its follower.
func anyBook(t *testing.T, r *rand.Rand) (*matrix.Book, follower) {
	p := anyPlan(r)
	s, seed := anySettings(r, p, 1+r.IntN(8)), r.Uint64()
	order, e := matrix.Order(p, s, seed)
	b, f := matrix.NewBook(p, s, seed)
	if e != api.OK || f != api.OK {
		t.Fatal("NewBook", p, s, e, f)
	}
	return b, follower{s, order, make([]api.PointState, len(s)), make([]string, len(s))}
}

// P6.10, P6.11
func TestAnyBook(t *testing.T) {
	r := rand.New(rand.NewPCG(6, 11))
	counts := map[api.Errno]int{}
	for range 200 {
		b, f := anyBook(t, r)
		for range 40 {
			point, reason := r.IntN(len(f.order)), anyOf(r, "leak", "dust")
			var e, want api.Errno
			switch r.IntN(4) {
			case 0:
				e, want = b.Declare(point, reason), f.declare(point, reason)
			case 1:
				e, want = b.Reopen(point), f.reopen(point)
			default:
				e, want = b.Take(point), f.take(point)
			}
			isError(t, "a book", e, want)
			counts[e]++
			f.same(t, b)
		}
	}
	for _, e := range []api.Errno{api.OK, api.ErrTwice, api.ErrBefore, api.ErrNone, api.ErrState} {
		if counts[e] < 50 {
			t.Error("few calls have the error", e, counts)
		}
	}
}

// P6.15
func TestTakenInOrder(t *testing.T) {
	r := rand.New(rand.NewPCG(6, 15))
	for range 200 {
		b, f := anyBook(t, r)
		var taken []int
		for !b.Done() {
			point := r.IntN(len(f.order))
			switch r.IntN(5) {
			case 0:
				b.Declare(point, "leak")
			case 1:
				b.Reopen(point)
			default:
				if b.Take(point) == api.OK {
					taken = append(taken, point)
				}
			}
		}
		for i, point := range taken {
			isState(t, "taken", b, point, api.PointTaken, "")
			for _, later := range taken[i+1:] {
				if later == point || f.settings[later].Block == f.settings[point].Block && slices.Index(f.order, later) < slices.Index(f.order, point) {
					t.Fatal("not taken in the order", f, taken)
				}
			}
		}
		for i := range f.order {
			if !slices.Contains(taken, i) {
				isState(t, "not taken", b, i, api.PointDeclared, "leak")
			}
		}
	}
}
