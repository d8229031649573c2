package fit

import (
	"slices"

	"venturi/api"
	"venturi/exact"
)

// influences returns, for each point, what each coefficient grows by if the reading there grows by 1: the coefficients for this reading alone, since they are linear in the readings. Its error is ErrHidden.
func influences(f Form, data []Point) ([][]exact.Num, api.Errno) {
	alone := make([][]exact.Num, len(data))
	for i := range alone {
		alone[i] = make([]exact.Num, len(data))
		alone[i][i] = exact.Whole(1)
	}
	coefs, told := best(f, data, alone...)
	if !told {
		return nil, api.ErrHidden
	}
	return coefs, api.OK
}

// Gains returns, for each term, and for each point, what the coefficient grows by if the reading of the point grows by 1; ErrHidden if the form is not told.
func Gains(f Form, data []Point) ([][]exact.Num, api.Errno) {
	if e := checkData(f, data); e != api.OK {
		return nil, e
	}
	points, e := influences(f, data)
	if e != api.OK {
		return nil, e
	}
	gains := make([][]exact.Num, len(f.Terms))
	for t := range gains {
		for _, coefs := range points {
			gains[t] = append(gains[t], coefs[t])
		}
	}
	return gains, api.OK
}

// Leverage returns, for each point, what the value there grows by if its reading grows by 1; ErrHidden if the form is not told.
func Leverage(f Form, data []Point) ([]exact.Num, api.Errno) {
	if e := checkData(f, data); e != api.OK {
		return nil, e
	}
	points, e := influences(f, data)
	if e != api.OK {
		return nil, e
	}
	leverages := make([]exact.Num, len(data))
	for i, p := range data {
		leverages[i] = dot(points[i], values(f, p.X))
	}
	return leverages, api.OK
}

// Without returns what Solve returns without one point, with the residual of this point in its place; ErrRange unless there is a point with this number, ErrHidden if the other points do not tell the form.
func Without(f Form, data []Point, point int) (Fit, api.Errno) {
	if e := checkData(f, data); e != api.OK {
		return Fit{}, e
	}
	if point < 0 || point >= len(data) {
		return Fit{}, api.ErrRange
	}
	result, e := Solve(f, slices.Concat(data[:point], data[point+1:]))
	if e != api.OK {
		return Fit{}, e
	}
	result.Residuals = slices.Insert(result.Residuals, point, residual(f, result.Coefs, data[point]))
	return result, api.OK
}

// Enclose returns, for each term, where its coefficient can be; ErrArg unless there is an error for each point, none of them negative, then ErrHidden.
func Enclose(f Form, data []Point, errors []exact.Num) ([]exact.Box, api.Errno) {
	if e := checkErrors(f, data, errors); e != api.OK {
		return nil, e
	}
	gains, e := Gains(f, data)
	if e != api.OK {
		return nil, e
	}
	boxes := make([]exact.Box, len(gains))
	for t, l := range gains {
		boxes[t] = reach(l, data, errors)
	}
	return boxes, api.OK
}

// Predict returns where the value at x can be; errors as of Enclose, with ErrArg unless there is a number for each input before ErrHidden.
func Predict(f Form, data []Point, errors []exact.Num, x []exact.Num) (exact.Box, api.Errno) {
	if e := checkErrors(f, data, errors); e != api.OK {
		return exact.Box{}, e
	}
	if len(x) != f.Inputs {
		return exact.Box{}, api.ErrArg
	}
	points, e := influences(f, data)
	if e != api.OK {
		return exact.Box{}, e
	}
	terms := values(f, x)
	gains := make([]exact.Num, len(data))
	for i, coefs := range points {
		gains[i] = dot(coefs, terms)
	}
	return reach(gains, data, errors), api.OK
}

// checkErrors returns the errors of a form and data, and ErrArg unless there is an error for each point, none of them negative.
func checkErrors(f Form, data []Point, errors []exact.Num) api.Errno {
	if e := checkData(f, data); e != api.OK {
		return e
	}
	negative := func(x exact.Num) bool { return x.Sign() < 0 }
	if len(errors) != len(data) || slices.ContainsFunc(errors, negative) {
		return api.ErrArg
	}
	return api.OK
}

// reach returns the box of all sums of gains times readings, each of which is wrong by at most its error.
func reach(gains []exact.Num, data []Point, errors []exact.Num) exact.Box {
	var sum exact.Box
	for i, p := range data {
		reading, _ := exact.Span(p.Y.Sub(errors[i]), p.Y.Add(errors[i]))
		sum = sum.Add(exact.Point(gains[i]).Mul(reading))
	}
	return sum
}

// Better compares two forms by what each point is when it was left out: -1 if a is better; ErrHidden if some points do not tell one of them.
func Better(a, b Form, data []Point) (int, api.Errno) {
	for _, f := range [2]Form{a, b} {
		if e := checkData(f, data); e != api.OK {
			return 0, e
		}
	}
	squaresOfA, e := leftOut(a, data)
	if e != api.OK {
		return 0, e
	}
	squaresOfB, e := leftOut(b, data)
	if e != api.OK {
		return 0, e
	}
	return squaresOfA.Cmp(squaresOfB), api.OK
}

// leftOut returns the sum of the squares of the residuals of all points, each one of a fit without this point; ErrHidden if the other points do not tell the form.
func leftOut(f Form, data []Point) (exact.Num, api.Errno) {
	if len(data) == 0 {
		return exact.Num{}, api.OK // with no point to leave out, nothing need be told
	}
	whole, e := Solve(f, data)
	if e != api.OK {
		return exact.Num{}, e
	}
	leverages, e := Leverage(f, data)
	if e != api.OK {
		return exact.Num{}, e
	}
	var sum exact.Num
	for i, leverage := range leverages {
		// P2.13: with all points the residual is smaller by this factor, which is 0 just if the others do not tell the form.
		rest := exact.Whole(1).Sub(leverage)
		left, e := whole.Residuals[i].Div(rest)
		if e != api.OK {
			return exact.Num{}, api.ErrHidden
		}
		sum = sum.Add(left.Mul(left))
	}
	return sum, api.OK
}
