package correct

import (
	"slices"

	"venturi/api"
	"venturi/exact"
)

// Table is knots that are joined by straight lines.
type Table struct {
	Name string
	X, Y []exact.Num
}

// isValid reports whether a table is valid.
func (t Table) isValid() bool {
	if !isName(t.Name) || len(t.X) < 2 || len(t.X) > api.MaxKnots || len(t.Y) != len(t.X) {
		return false
	}
	for i, x := range t.X[1:] {
		if t.X[i].Cmp(x) >= 0 {
			return false
		}
	}
	return true
}

// at returns the value of a valid table at a number from its first to its last X.
func (t Table) at(x exact.Num) exact.Num {
	i, found := slices.BinarySearchFunc(t.X, x, exact.Num.Cmp)
	if found {
		return t.Y[i]
	}
	rise, run := t.Y[i].Sub(t.Y[i-1]), t.X[i].Sub(t.X[i-1])
	part, _ := x.Sub(t.X[i-1]).Div(run)
	return t.Y[i-1].Add(part.Mul(rise))
}

// look returns the box of all values of a valid table for the numbers of x; ErrDomain if it says nothing about one of them.
func (t Table) look(x exact.Box) (exact.Box, api.Errno) {
	domain, _ := exact.Span(t.X[0], t.X[len(t.X)-1])
	if !x.Inside(domain) {
		return exact.Box{}, api.ErrDomain
	}
	// Between two knots the value is on a straight line, so that it is least and greatest at the ends of x or at knots.
	values := []exact.Box{exact.Point(t.at(x.Lo())), exact.Point(t.at(x.Hi()))}
	for i, knot := range t.X {
		if x.Has(knot) {
			values = append(values, exact.Point(t.Y[i]))
		}
	}
	return least(values), api.OK
}

// Look returns the box of all values of a table for the numbers of x; ErrArg if the table is not valid, ErrDomain unless x is inside the box from its first to its last X.
func Look(t Table, x exact.Box) (exact.Box, api.Errno) {
	if !t.isValid() {
		return exact.Box{}, api.ErrArg
	}
	return t.look(x)
}
