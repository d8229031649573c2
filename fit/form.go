package fit

import (
	"slices"

	"venturi/api"
	"venturi/exact"
)

// CheckForm returns ErrArg if a form is not valid.
func CheckForm(f Form) api.Errno {
	if f.Inputs < 0 || f.Inputs > api.MaxInputs || len(f.Terms) > api.MaxMonomials {
		return api.ErrArg
	}
	for i, term := range f.Terms {
		same := func(earlier []int) bool { return slices.Equal(earlier, term) }
		if !isTerm(term, f.Inputs) || slices.ContainsFunc(f.Terms[:i], same) {
			return api.ErrArg
		}
	}
	return api.OK
}

// isTerm reports whether a term has an exponent for each input, all within their range.
func isTerm(term []int, inputs int) bool {
	outside := func(exponent int) bool { return exponent < 0 || exponent > api.MaxExponent }
	return len(term) == inputs && !slices.ContainsFunc(term, outside)
}

// suits reports whether a form is valid and there are as many coefficients and inputs, numbers or boxes, as it wants.
func suits[T any](f Form, coefs, x []T) bool {
	return CheckForm(f) == api.OK && len(coefs) == len(f.Terms) && len(x) == f.Inputs
}

// product returns the value of a term, for numbers or for boxes: it is told what 1 is, and how to multiply.
func product[T any](term []int, x []T, one T, times func(a, b T) T, power func(a T, n int) (T, api.Errno)) T {
	value := one
	for k, exponent := range term {
		factor, _ := power(x[k], exponent) // exponents of a form are less than MaxPower
		value = times(value, factor)
	}
	return value
}

// termAt returns the value of a term at x.
func termAt(term []int, x []exact.Num) exact.Num {
	return product(term, x, exact.Whole(1), exact.Num.Mul, exact.Num.Pow)
}

// values returns the values of all terms of a form at x.
func values(f Form, x []exact.Num) []exact.Num {
	l := make([]exact.Num, len(f.Terms))
	for t, term := range f.Terms {
		l[t] = termAt(term, x)
	}
	return l
}

// Term returns the value of a term; ErrRange unless there is one with this number, ErrArg unless there is a number for each input.
func Term(f Form, term int, x []exact.Num) (exact.Num, api.Errno) {
	if e := CheckForm(f); e != api.OK {
		return exact.Num{}, e
	}
	if term < 0 || term >= len(f.Terms) {
		return exact.Num{}, api.ErrRange
	}
	if len(x) != f.Inputs {
		return exact.Num{}, api.ErrArg
	}
	return termAt(f.Terms[term], x), api.OK
}

// Value returns the value of a form with coefficients; ErrArg unless there are as many as it wants.
func Value(f Form, coefs, x []exact.Num) (exact.Num, api.Errno) {
	if !suits(f, coefs, x) {
		return exact.Num{}, api.ErrArg
	}
	return dot(coefs, values(f, x)), api.OK
}

// Range encloses the values of a form for all coefficients and inputs in boxes; ErrArg unless there are as many as it wants.
func Range(f Form, coefs, x []exact.Box) (exact.Box, api.Errno) {
	if !suits(f, coefs, x) {
		return exact.Box{}, api.ErrArg
	}
	one := exact.Point(exact.Whole(1))
	var sum exact.Box
	for t, term := range f.Terms {
		value := product(term, x, one, exact.Box.Mul, exact.Box.Pow)
		sum = sum.Add(coefs[t].Mul(value))
	}
	return sum, api.OK
}

// Full returns the form with all terms up to a degree; ErrRange unless inputs and degree are within their limits, ErrLong if there were too many terms.
func Full(inputs, degree int) (Form, api.Errno) {
	if inputs < 0 || inputs > api.MaxInputs || degree < 0 || degree > api.MaxExponent {
		return Form{}, api.ErrRange
	}
	f := Form{Inputs: inputs}
	for sum := range degree + 1 {
		eachTerm(inputs, sum, func(term []int) { f.Terms = append(f.Terms, term) })
	}
	if len(f.Terms) > api.MaxMonomials {
		return Form{}, api.ErrLong
	}
	return f, api.OK
}

// eachTerm hands over all terms whose exponents have a sum, the greatest list of exponents first.
func eachTerm(inputs, sum int, take func(term []int)) {
	if inputs == 0 {
		if sum == 0 {
			take([]int{})
		}
		return
	}
	for first := sum; first >= 0; first-- {
		eachTerm(inputs-1, sum-first, func(rest []int) {
			take(append([]int{first}, rest...))
		})
	}
}
