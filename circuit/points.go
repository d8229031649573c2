package circuit

import (
	"venturi/api"
	"venturi/exact"
)

// Point is an operating point.
type Point struct {
	Flow exact.Box
	Kind api.Stability
}

// zero is a flow at which the balance of a piece of the curve is 0. It need not be rational: it is mid less the square root of square if side is -1, mid plus it if side is 1, and mid if side is 0.
type zero struct {
	mid, square exact.Num
	side        int
}

// zeros returns where the line of a piece meets the losses of a ring with that resistance, also beyond the knots, in ascending order. The balance there is a polynomial of the degree 2, since a resistance is never 0.
func (p piece) zeros(resistance exact.Num) []zero {
	mid := half(over(p.slope(), resistance))
	square := mid.Mul(mid).Add(over(p.at(exact.Num{}), resistance))
	switch square.Sign() {
	case -1:
		return nil
	case 0:
		return []zero{{mid: mid}}
	}
	return []zero{{mid, square, -1}, {mid, square, 1}}
}

// cmp returns -1, 0 or 1 if the zero is less than, equal to, or greater than x.
func (z zero) cmp(x exact.Num) int {
	d := z.mid.Sub(x)
	if z.side == 0 || d.Sign() == z.side {
		return d.Sign()
	}
	return z.side * z.square.Cmp(d.Mul(d))
}

// inside reports whether the zero is between the ends of a box, or is its only number.
func (z zero) inside(b exact.Box) bool {
	low, high := z.cmp(b.Lo()), z.cmp(b.Hi())
	return low > 0 && high < 0 || low == 0 && high == 0
}

// box returns the least box with ends on a grid that has the zero.
func (z zero) box(grid exact.Num) exact.Box {
	root, _ := exact.Point(z.square).Root(grid)
	if z.side < 0 {
		root = root.Neg()
	}
	around, _ := exact.Point(z.mid).Add(root).Out(grid)
	lo := around.Lo()
	// The root is enclosed by multiples of the grid that follow each other, so that this ends after two steps at most.
	for next := lo.Add(grid); z.cmp(next) >= 0; next = lo.Add(grid) {
		lo = next
	}
	if z.cmp(lo) == 0 {
		return exact.Point(lo)
	}
	b, _ := exact.Span(lo, lo.Add(grid))
	return b
}

// sides returns the signs of the piece's balance just below and just above the zero: it is greater than 0 only between two zeros.
func (z zero) sides() (below, above int) {
	switch z.side {
	case -1:
		return -1, 1
	case 1:
		return 1, -1
	}
	return -1, -1
}

// crossing is an operating point, with the signs of the balance just below and just above it; they are 0 at the ends of the curve.
type crossing struct {
	zero
	below, above int
}

// kind returns the stability of an operating point.
func (c crossing) kind() api.Stability {
	if c.below > 0 && c.above < 0 {
		return api.Stable
	}
	if c.below < 0 && c.above > 0 {
		return api.Unstable
	}
	return api.OneSided
}

// crossings returns all operating points, in ascending order.
func crossings(r Ring, f Fan) []crossing {
	var found []crossing
	total := resistance(r)
	for i, p := range f.pieces() {
		for _, z := range p.zeros(total) {
			begin, end := z.cmp(p.from.Flow), z.cmp(p.to.Flow)
			if begin < 0 || end > 0 {
				continue
			}
			c := crossing{zero: z}
			c.below, c.above = z.sides()
			if end == 0 {
				c.above = 0 // until the next piece tells it, if there is one
			}
			switch {
			case begin > 0:
				found = append(found, c)
			case i == 0:
				c.below = 0
				found = append(found, c)
			default: // the piece before ends here, so that it is the point found last
				found[len(found)-1].above = c.above
			}
		}
	}
	return found
}

// Points returns all operating points in ascending order, enclosed by multiples of the grid; ErrArg if the ring or the fan is not valid, ErrRange unless grid is greater than 0.
func Points(r Ring, f Fan, grid exact.Num) ([]Point, api.Errno) {
	if e := checkBoth(r, f); e != api.OK {
		return nil, e
	}
	if grid.Sign() <= 0 {
		return nil, api.ErrRange
	}
	var l []Point
	for _, c := range crossings(r, f) {
		l = append(l, Point{c.box(grid), c.kind()})
	}
	return l, api.OK
}

// Certify reports whether a list describes all operating points; ErrArg if the ring or the fan is not valid.
func Certify(r Ring, f Fan, l []Point) (bool, api.Errno) {
	if e := checkBoth(r, f); e != api.OK {
		return false, e
	}
	all := crossings(r, f)
	apart := func(a, b Point) bool { return a.Flow.Hi().Cmp(b.Flow.Lo()) <= 0 }
	if len(l) != len(all) || !chained(l, apart) {
		return false, api.OK
	}
	// Boxes that are apart have no operating point in common, so that each one must have its own, in this order. The same number twice fails too, since no two operating points are equal.
	for i, c := range all {
		if l[i].Kind != c.kind() || !c.inside(l[i].Flow) {
			return false, api.OK
		}
	}
	return true, api.OK
}
