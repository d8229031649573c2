package campaign

import (
	"slices"
	"strconv"
	"strings"

	"venturi/api"
	"venturi/matrix"
)

// book is a book of points.
type book struct {
	*matrix.Book
	settings []api.Setting // of the points
}

// mayPlan reports whether the customer has no open points.
func (v visit) mayPlan() bool { return v.own.book == nil || v.own.book.Done() }

// hasBook reports whether the customer has a book.
func (v visit) hasBook() bool { return v.own.book != nil }

// readMatrix reads how many levels each factor has, the settings, and the seed of a book.
func readMatrix(r *reader) act {
	factors := each(r.integers(r.next()), func(levels int) api.Factor { return api.Factor{Levels: levels} })
	settings := list(r.next(), ";", r.setting)
	seed := r.integer(r.next())
	return func(v visit) (string, api.Errno) { return v.own.plan(api.Plan{Factors: factors}, settings, seed) }
}

// plan begins a book, and answers how many points it has; ErrRange if the seed is negative, then the errors of NewBook.
func (c *customer) plan(p api.Plan, settings []api.Setting, seed int) (string, api.Errno) {
	if seed < 0 {
		return "", api.ErrRange
	}
	points, e := matrix.NewBook(p, settings, uint64(seed))
	if e != api.OK {
		return "", e
	}
	c.book = &book{points, settings}
	return strconv.Itoa(len(settings)), api.OK
}

// nextPoint answers the first open point.
func (v visit) nextPoint() (string, api.Errno) {
	point, some := v.own.book.Next()
	if !some {
		return "none", api.OK
	}
	return strconv.Itoa(point) + " " + levelsText(v.own.book.settings[point].Levels), api.OK
}

// readDeclare reads a point and a reason.
func readDeclare(r *reader) act {
	point, reason := r.integer(r.next()), r.next()
	return silent(func(v visit) api.Errno { return v.own.book.Declare(point, reason) })
}

// readReopen reads a point.
func readReopen(r *reader) act {
	point := r.integer(r.next())
	return silent(func(v visit) api.Errno { return v.own.book.Reopen(point) })
}

// points answers what became of all points.
func (v visit) points() (string, api.Errno) {
	var points []string
	for point := range v.own.book.settings {
		points = append(points, strconv.Itoa(point)+" "+v.own.book.fate(point))
	}
	return strings.Join(points, "; "), api.OK
}

// fate returns what became of a point.
func (b *book) fate(point int) string {
	state, reason, _ := b.State(point)
	switch state {
	case api.PointTaken:
		return "taken"
	case api.PointDeclared:
		return "declared " + reason
	}
	return "open"
}

// mayTake returns the error that Take of a point would have. What a book took it can not give back, so all that can go wrong has to be known before.
func (b *book) mayTake(point int) api.Errno {
	state, _, e := b.State(point)
	if e != api.OK {
		return e
	}
	if state != api.PointOpen {
		return api.ErrTwice
	}
	open := b.Open()
	first := slices.IndexFunc(open, func(other int) bool { return b.settings[other].Block == b.settings[point].Block })
	if open[first] != point {
		return api.ErrBefore
	}
	return api.OK
}
