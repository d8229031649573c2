package matrix

import (
	"slices"

	"venturi/api"
)

// maxReason is the greatest length of a reason.
const maxReason = 20

// entry is what a book knows of a point.
type entry struct {
	block  int
	place  int // in the order
	state  api.PointState
	reason string
}

// Book is the book of the points of a plan.
type Book struct {
	made   bool // a book without points is not the zero value
	points []entry
	order  []int
}

// NewBook returns a book of settings as points, all of them open; its errors are those of Order.
func NewBook(p api.Plan, settings []api.Setting, seed uint64) (*Book, api.Errno) {
	order, e := Order(p, settings, seed)
	if e != api.OK {
		return nil, e
	}
	b := &Book{made: true, points: make([]entry, len(settings)), order: order}
	for place, i := range order {
		b.points[i] = entry{block: settings[i].Block, place: place, state: api.PointOpen}
	}
	return b, api.OK
}

// isReason reports whether a text is a reason.
func isReason(s string) bool {
	if len(s) < 1 || len(s) > maxReason {
		return false
	}
	for i := range len(s) {
		letter, digit := 'a' <= s[i] && s[i] <= 'z', '0' <= s[i] && s[i] <= '9'
		if !letter && (i == 0 || !digit && s[i] != '_') {
			return false
		}
	}
	return true
}

// isBook reports whether NewBook returned the book.
func (b *Book) isBook() bool {
	return b != nil && b.made
}

// check returns ErrNil if it is no book, ErrRange unless it has a point with the number.
func (b *Book) check(number int) api.Errno {
	if !b.isBook() {
		return api.ErrNil
	}
	if number < 0 || number >= len(b.points) {
		return api.ErrRange
	}
	return api.OK
}

// some reports whether one of some points is in a block and in a state.
func (b *Book) some(numbers []int, block int, state api.PointState) bool {
	return slices.ContainsFunc(numbers, func(i int) bool {
		return b.points[i].block == block && b.points[i].state == state
	})
}

// Next returns the first open point in the order, and true, or 0 and false.
func (b *Book) Next() (int, bool) {
	open := b.Open()
	if len(open) == 0 {
		return 0, false
	}
	return open[0], true
}

// Take makes an open point taken; ErrRange unless it is a point, ErrTwice if it is not open, ErrBefore if a point of its block before it is open.
func (b *Book) Take(point int) api.Errno {
	if e := b.check(point); e != api.OK {
		return e
	}
	p := &b.points[point]
	if p.state != api.PointOpen {
		return api.ErrTwice
	}
	if b.some(b.order[:p.place], p.block, api.PointOpen) {
		return api.ErrBefore
	}
	p.state = api.PointTaken
	return api.OK
}

// Declare makes an open point declared; ErrRange unless it is a point, ErrForm if the reason is not one, ErrTwice if it is not open.
func (b *Book) Declare(point int, reason string) api.Errno {
	if e := b.check(point); e != api.OK {
		return e
	}
	if !isReason(reason) {
		return api.ErrForm
	}
	p := &b.points[point]
	if p.state != api.PointOpen {
		return api.ErrTwice
	}
	p.state, p.reason = api.PointDeclared, reason
	return api.OK
}

// Reopen makes a declared point open again; ErrRange unless it is a point, ErrNone if it is not declared, ErrState if a point of its block behind it was taken.
func (b *Book) Reopen(point int) api.Errno {
	if e := b.check(point); e != api.OK {
		return e
	}
	p := &b.points[point]
	if p.state != api.PointDeclared {
		return api.ErrNone
	}
	if b.some(b.order[p.place:], p.block, api.PointTaken) {
		return api.ErrState
	}
	p.state, p.reason = api.PointOpen, ""
	return api.OK
}

// State returns the state of a point, and its reason if it is declared; ErrRange unless it is a point.
func (b *Book) State(point int) (api.PointState, string, api.Errno) {
	if e := b.check(point); e != api.OK {
		return 0, "", e
	}
	p := b.points[point]
	return p.state, p.reason, api.OK
}

// Open returns the open points in the order.
func (b *Book) Open() []int {
	if !b.isBook() {
		return nil
	}
	closed := func(i int) bool { return b.points[i].state != api.PointOpen }
	return slices.DeleteFunc(slices.Clone(b.order), closed)
}

// Done reports whether no point is open.
func (b *Book) Done() bool {
	return b.isBook() && len(b.Open()) == 0
}
