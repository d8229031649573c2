package balance

import (
	"slices"

	"venturi/api"
	"venturi/exact"
	"venturi/fit"
)

// Inverse is boxes of loads, and whether it is proved that they have loads for all readings.
type Inverse struct {
	Loads  []exact.Box
	Proved bool
}

// rests is polynomials of one form for all readings: their values without the linear terms, or the slopes of these.
type rests struct {
	form  fit.Form
	coefs [][]exact.Box
}

// restsOf returns the values of all readings of a valid calibration without the linear terms.
func restsOf(c Calibration) rests {
	r := rests{fit.Form{Inputs: c.Form.Inputs}, make([][]exact.Box, len(c.Coefs))}
	for t, term := range c.Form.Terms {
		if isLinear(term) {
			continue
		}
		r.form.Terms = append(r.form.Terms, term)
		for i, coefs := range c.Coefs {
			r.coefs[i] = append(r.coefs[i], exact.Point(coefs[t]))
		}
	}
	return r
}

// slopes returns the slopes in the direction of a load.
func (r rests) slopes(load int) rests {
	s := rests{fit.Form{Inputs: r.form.Inputs}, make([][]exact.Box, len(r.coefs))}
	for t, term := range r.form.Terms {
		exponent := term[load]
		if exponent == 0 {
			continue
		}
		lower := slices.Clone(term)
		lower[load]--
		s.form.Terms = append(s.form.Terms, lower)
		times := exact.Point(exact.Whole(int64(exponent)))
		for i, coefs := range r.coefs {
			s.coefs[i] = append(s.coefs[i], coefs[t].Mul(times))
		}
	}
	return s
}

// on encloses the values for all loads in boxes.
func (r rests) on(loads []exact.Box) []exact.Box {
	values := make([]exact.Box, len(r.coefs))
	for i, coefs := range r.coefs {
		values[i], _ = fit.Range(r.form, coefs, loads) // the form is a part of a valid one
	}
	return values
}

// matrix is rows of numbers.
type matrix [][]exact.Num

// matrixOf returns the coefficients of the linear terms of a valid calibration: a row for each reading.
func matrixOf(c Calibration) matrix {
	m := make(matrix, len(c.Coefs))
	for i, coefs := range c.Coefs {
		for j := range c.Form.Inputs {
			m[i] = append(m[i], coefs[linear(c.Form, j)])
		}
	}
	return m
}

// inverse returns the inverse of a square matrix; or false if it has none.
func (m matrix) inverse() (matrix, bool) {
	rows := m.besideOne()
	for k := range rows {
		from := slices.IndexFunc(rows[k:], func(row []exact.Num) bool { return row[k].Sign() != 0 })
		if from < 0 {
			return nil, false
		}
		rows[k], rows[k+from] = rows[k+from], rows[k]
		pivot := rows[k][k]
		for j, x := range rows[k] {
			rows[k][j] = over(x, pivot)
		}
		for i, row := range rows {
			if i != k {
				subtract(row, rows[k], row[k])
			}
		}
	}
	for i, row := range rows {
		rows[i] = row[len(rows):]
	}
	return rows, true
}

// besideOne returns the matrix with that of 1 on its right.
func (m matrix) besideOne() matrix {
	rows := make(matrix, len(m))
	for i, row := range m {
		one := make([]exact.Num, len(m))
		one[i] = exact.Whole(1)
		rows[i] = slices.Concat(row, one)
	}
	return rows
}

// subtract takes a multiple of another row from a row.
func subtract(row, other []exact.Num, factor exact.Num) {
	for j, x := range other {
		row[j] = row[j].Sub(factor.Mul(x))
	}
}

// times returns, for each row, the sum of its numbers times the boxes.
func (m matrix) times(boxes []exact.Box) []exact.Box {
	sums := make([]exact.Box, len(m))
	for j, row := range m {
		for i, x := range row {
			sums[j] = sums[j].Add(exact.Point(x).Mul(boxes[i]))
		}
	}
	return sums
}

// checkBoxes returns ErrArg if a calibration is not valid, or a list does not have a box for each component.
func checkBoxes(c Calibration, lists ...[]exact.Box) api.Errno {
	other := func(l []exact.Box) bool { return len(l) != c.Form.Inputs }
	return argument(CheckCalibration(c) == api.OK && !slices.ContainsFunc(lists, other))
}

// copies returns equal boxes in new memory, that of their numbers too.
func copies(l []exact.Box) []exact.Box {
	boxes := slices.Clone(l)
	for i, b := range boxes {
		boxes[i] = b.Hull(b)
	}
	return boxes
}

// Invert encloses the loads within boxes that can have given readings, and tells whether it is proved that there are some; ErrArg if the calibration is not valid, or there is not one box for each component, ErrRange unless rounds is from 0 to MaxRounds and grid is not negative, ErrSingular if the matrix has no inverse, ErrEmpty if no loads are left.
func Invert(c Calibration, readings, within []exact.Box, rounds int, grid exact.Num) (Inverse, api.Errno) {
	if e := checkBoxes(c, readings, within); e != api.OK {
		return Inverse{}, e
	}
	if rounds < 0 || rounds > api.MaxRounds || grid.Sign() < 0 {
		return Inverse{}, api.ErrRange
	}
	inverse, ok := matrixOf(c).inverse()
	if !ok {
		return Inverse{}, api.ErrSingular
	}
	rest := restsOf(c)
	result := Inverse{Loads: copies(within)}
	for range rounds {
		image := imageOf(inverse, readings, rest.on(result.Loads), grid)
		if !result.narrow(image) {
			return Inverse{}, api.ErrEmpty
		}
	}
	return result, api.OK
}

// imageOf returns what the inverse of a matrix makes of readings less their rests, on a grid if it is not 0.
func imageOf(inverse matrix, readings, rests []exact.Box, grid exact.Num) []exact.Box {
	straight := make([]exact.Box, len(readings))
	for i, b := range readings {
		straight[i] = b.Sub(rests[i])
	}
	image := inverse.times(straight)
	if grid.Sign() == 0 {
		return image
	}
	for j, b := range image {
		image[j], _ = b.Out(grid)
	}
	return image
}

// narrow leaves of the loads what an image has too, or returns false if there is nothing. They have loads for all readings, by Brouwer, if the image is inside them.
func (v *Inverse) narrow(image []exact.Box) bool {
	inside := true
	for j, b := range image {
		both, ok := v.Loads[j].Meet(b)
		if !ok {
			return false
		}
		inside = inside && b.Inside(v.Loads[j])
		v.Loads[j] = both
	}
	v.Proved = v.Proved || inside
	return true
}

// Slope returns a bound on how fast loads can differ without a difference of the readings; ErrArg if the calibration is not valid, or there is not one box for each component, ErrSingular if the matrix has no inverse.
func Slope(c Calibration, within []exact.Box) (exact.Num, api.Errno) {
	if e := checkBoxes(c, within); e != api.OK {
		return exact.Num{}, e
	}
	inverse, ok := matrixOf(c).inverse()
	if !ok {
		return exact.Num{}, api.ErrSingular
	}
	rest := restsOf(c)
	rows := make([]exact.Num, c.Form.Inputs)
	for k := range c.Form.Inputs {
		for j, b := range inverse.times(rest.slopes(k).on(within)) {
			rows[j] = rows[j].Add(b.Abs().Hi())
		}
	}
	return slices.MaxFunc(rows, exact.Num.Cmp), api.OK
}
