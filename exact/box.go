package exact

import (
	"iter"

	"venturi/api"
)

// Box is all numbers from one end to the other one, both included; the zero value is the box of 0 alone.
type Box struct{ lo, hi Num }

// span returns the least box that has the numbers.
func span(first Num, others ...Num) Box {
	least, greatest := first, first
	for _, x := range others {
		if x.Cmp(least) < 0 {
			least = x
		}
		if x.Cmp(greatest) > 0 {
			greatest = x
		}
	}
	return Box{least.copied(), greatest.copied()}
}

// results returns the box of an operation's results for all numbers of b and c; the operation rises or falls in each of its arguments, if the other one stays the same.
func results(operation func(x, y Num) Num, b, c Box) Box {
	return span(operation(b.lo, c.lo), operation(b.lo, c.hi), operation(b.hi, c.lo), operation(b.hi, c.hi))
}

// ends returns the box of a rising function's results for all numbers of b.
func (b Box) ends(rising func(x Num) Num) Box {
	return Box{rising(b.lo), rising(b.hi)}
}

// Point returns the box of x alone.
func Point(x Num) Box {
	return Box{x.copied(), x.copied()}
}

// Span returns the box from lo to hi; ErrOrder if lo is greater than hi.
func Span(lo, hi Num) (Box, api.Errno) {
	if lo.Cmp(hi) > 0 {
		return Box{}, api.ErrOrder
	}
	return Box{lo.copied(), hi.copied()}, api.OK
}

// Lo returns the lower end.
func (b Box) Lo() Num { return b.lo.copied() }

// Hi returns the upper end.
func (b Box) Hi() Num { return b.hi.copied() }

// Mid returns the middle: the sum of the ends, divided by 2.
func (b Box) Mid() Num {
	return b.lo.Add(b.hi).over(Whole(2))
}

// Width returns the difference of the ends.
func (b Box) Width() Num {
	return b.hi.Sub(b.lo)
}

// Has reports whether b has the number x.
func (b Box) Has(x Num) bool {
	return b.lo.Cmp(x) <= 0 && x.Cmp(b.hi) <= 0
}

// Inside reports whether c has all numbers of b.
func (b Box) Inside(c Box) bool {
	return c.lo.Cmp(b.lo) <= 0 && b.hi.Cmp(c.hi) <= 0
}

// Equal reports whether both have the same numbers.
func (b Box) Equal(c Box) bool {
	return b.lo.Cmp(c.lo) == 0 && b.hi.Cmp(c.hi) == 0
}

// Add returns the box of all sums.
func (b Box) Add(c Box) Box {
	return Box{b.lo.Add(c.lo), b.hi.Add(c.hi)}
}

// Sub returns the box of all differences.
func (b Box) Sub(c Box) Box {
	return Box{b.lo.Sub(c.hi), b.hi.Sub(c.lo)}
}

// Mul returns the box of all products.
func (b Box) Mul(c Box) Box {
	return results(Num.Mul, b, c)
}

// Div returns the box of all quotients; ErrZero if c has 0.
func (b Box) Div(c Box) (Box, api.Errno) {
	if c.Has(Num{}) {
		return Box{}, api.ErrZero
	}
	return results(Num.over, b, c), api.OK
}

// Neg returns the box of all -x.
func (b Box) Neg() Box {
	return Box{b.hi.Neg(), b.lo.Neg()}
}

// Abs returns the box of all absolute values.
func (b Box) Abs() Box {
	if b.Has(Num{}) {
		return span(Num{}, b.lo.Abs(), b.hi.Abs())
	}
	return span(b.lo.Abs(), b.hi.Abs())
}

// Pow returns the box of all powers n; ErrRange unless n is from 0 to MaxPower.
func (b Box) Pow(n int) (Box, api.Errno) {
	if n < 0 || n > api.MaxPower {
		return Box{}, api.ErrRange
	}
	if n%2 == 0 {
		b = b.Abs() // where an even power rises
	}
	return b.ends(func(x Num) Num { return x.power(n) }), api.OK
}

// Root encloses the square roots: its ends are the nearest multiples of grid that are sure to have them between; ErrRange unless grid is greater than 0, ErrMinus if b has a number below 0.
func (b Box) Root(grid Num) (Box, api.Errno) {
	if grid.Sign() <= 0 {
		return Box{}, api.ErrRange
	}
	if b.lo.Sign() < 0 {
		return Box{}, api.ErrMinus
	}
	// The square of k times grid is at most x just if that of k is at most x / (grid * grid), or the greatest integer in it.
	square := grid.Mul(grid)
	low := b.lo.over(square).Floor().top
	high := b.hi.over(square).ceil().top
	up := high.root()
	if up.mul(up).cmp(high) < 0 {
		up = up.add(nat{1})
	}
	return Box{Num{top: low.root()}.Mul(grid), Num{top: up}.Mul(grid)}, api.OK
}

// Hull returns the least box that has both.
func (b Box) Hull(c Box) Box {
	return span(b.lo, b.hi, c.lo, c.hi)
}

// Meet returns the box of the numbers that both have, and true; or false if there is none.
func (b Box) Meet(c Box) (Box, bool) {
	if b.hi.Cmp(c.lo) < 0 || c.hi.Cmp(b.lo) < 0 {
		return Box{}, false
	}
	return Box{span(b.lo, c.lo).hi, span(b.hi, c.hi).lo}, true
}

// Out returns the least box with ends on a grid that has b; ErrRange unless grid is greater than 0.
func (b Box) Out(grid Num) (Box, api.Errno) {
	if grid.Sign() <= 0 {
		return Box{}, api.ErrRange
	}
	return Box{b.lo.over(grid).Floor().Mul(grid), b.hi.over(grid).ceil().Mul(grid)}, api.OK
}

// Parts cuts b into n boxes of equal widths, in ascending order; ErrRange unless n is from 1 to MaxParts.
func (b Box) Parts(n int) ([]Box, api.Errno) {
	if n < 1 || n > api.MaxParts {
		return nil, api.ErrRange
	}
	width := b.Width().over(Whole(int64(n)))
	cut := func(i int) Num { return b.lo.Add(width.Mul(Whole(int64(i)))) }
	parts := make([]Box, n)
	for i := range parts {
		parts[i] = Box{cut(i), cut(i + 1)}
	}
	return parts, api.OK
}

// Poly encloses the values of the polynomial coefs[0] + coefs[1] * x + .. for all x of b, part by part; ErrLong if there are more than MaxTerms coefficients, ErrRange unless parts is from 1 to MaxParts.
func Poly(coefs []Num, b Box, parts int) (Box, api.Errno) {
	if len(coefs) > api.MaxTerms {
		return Box{}, api.ErrLong
	}
	cuts, e := b.Parts(parts)
	if e != api.OK {
		return Box{}, e
	}
	all := horner(coefs, cuts[0])
	for _, part := range cuts[1:] {
		all = all.Hull(horner(coefs, part))
	}
	return all, api.OK
}

// horner encloses the values of a polynomial on one part.
func horner(coefs []Num, part Box) Box {
	var value Box
	for c := range fromLast(coefs) {
		value = value.Mul(part).Add(Point(c))
	}
	return value
}

// fromLast yields the numbers of a list, the last one first.
func fromLast(l []Num) iter.Seq[Num] {
	return func(yield func(Num) bool) {
		for i := len(l) - 1; i >= 0; i-- {
			if !yield(l[i]) {
				return
			}
		}
	}
}
