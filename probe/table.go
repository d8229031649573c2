package probe

import (
	"venturi/api"
	"venturi/exact"
)

// Knot is a point of a table.
type Knot struct{ Read, Value exact.Num }

// CheckTable returns ErrArg if a table is not valid.
func CheckTable(t []Knot) api.Errno {
	if len(t) < 2 || len(t) > api.MaxTable {
		return api.ErrArg
	}
	for i, k := range t[1:] {
		if t[i].Read.Cmp(k.Read) >= 0 {
			return api.ErrArg
		}
	}
	return api.OK
}

// line returns the value at x on the straight line through two knots.
func line(from, to Knot, x exact.Num) exact.Num {
	slope := over(to.Value.Sub(from.Value), to.Read.Sub(from.Read))
	return from.Value.Add(slope.Mul(x.Sub(from.Read)))
}

// Look returns the least box that has the values of all readings of b; ErrArg if the table is not valid, ErrKnots if it says nothing about a reading of b.
func Look(t []Knot, b exact.Box) (exact.Box, api.Errno) {
	if e := CheckTable(t); e != api.OK {
		return exact.Box{}, e
	}
	if !b.Inside(least(t[0].Read, t[len(t)-1].Read)) {
		return exact.Box{}, api.ErrKnots
	}
	var values []exact.Num
	for i, to := range t[1:] {
		from := t[i]
		if part, ok := b.Meet(least(from.Read, to.Read)); ok {
			values = append(values, line(from, to, part.Lo()), line(from, to, part.Hi()))
		}
	}
	return least(values...), api.OK
}

// Back returns the box of all readings that have a value of b; ErrArg if the table is not valid or does not rise, ErrKnots if a number of b is the value of no reading.
func Back(t []Knot, b exact.Box) (exact.Box, api.Errno) {
	if e := CheckTable(t); e != api.OK {
		return exact.Box{}, e
	}
	// The table of the readings for the values is valid just if the given one rises.
	turned := make([]Knot, len(t))
	for i, k := range t {
		turned[i] = Knot{Read: k.Value, Value: k.Read}
	}
	return Look(turned, b)
}

// Coefficient returns the least box that has the coefficients of all pressures of three boxes; ErrClose if their divisor may be 0.
func Coefficient(front, left, right exact.Box) (exact.Box, api.Errno) {
	two := exact.Whole(2)
	divisor := func(f, l, r exact.Num) exact.Num { return f.Sub(over(l.Add(r), two)) }
	if corners(divisor, front, left, right).Has(exact.Num{}) {
		return exact.Box{}, api.ErrClose
	}
	// As a function of one pressure it is a fraction of two straight lines, which rises or falls if it has no pole.
	coefficient := func(f, l, r exact.Num) exact.Num { return over(l.Sub(r), divisor(f, l, r)) }
	return corners(coefficient, front, left, right), api.OK
}

// Angle returns Look of a table for the box of Coefficient; ErrArg if the table is not valid, then the errors of Coefficient, then those of Look.
func Angle(t []Knot, front, left, right exact.Box) (exact.Box, api.Errno) {
	if e := CheckTable(t); e != api.OK {
		return exact.Box{}, e
	}
	b, e := Coefficient(front, left, right)
	if e != api.OK {
		return exact.Box{}, e
	}
	return Look(t, b)
}
