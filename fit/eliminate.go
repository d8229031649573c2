package fit

import (
	"slices"

	"venturi/exact"
)

// column is a list of whole numbers: numbers, each multiplied by the scale. Products and sums of whole numbers need no search for common divisors, which would take most of the time.
type column struct {
	wholes []exact.Num
	scale  exact.Num
}

// columnOf multiplies numbers by the least number that makes all of them whole.
func columnOf(l []exact.Num) column {
	scale := exact.Whole(1)
	for _, x := range l {
		_, missing := x.Mul(scale).Frac()
		scale = scale.Mul(missing)
	}
	c := column{make([]exact.Num, len(l)), scale}
	for i, x := range l {
		c.wholes[i] = x.Mul(scale)
	}
	return c
}

// columnsOf returns, for each term of a form, its values at all points.
func columnsOf(f Form, data []Point) []column {
	columns := make([]column, len(f.Terms))
	for t, term := range f.Terms {
		l := make([]exact.Num, len(data))
		for i, p := range data {
			l[i] = termAt(term, p.X)
		}
		columns[t] = columnOf(l)
	}
	return columns
}

// normal returns the equations of least squares: the coefficients of the terms are best if all terms have the same products with the values as they have with the readings. There is a row for each term: its products with all terms, and then with all lists of readings.
func normal(terms, lists []column) [][]exact.Num {
	rows := make([][]exact.Num, len(terms))
	for t, term := range terms {
		for _, other := range slices.Concat(terms, lists) {
			rows[t] = append(rows[t], dot(term.wholes, other.wholes))
		}
	}
	return rows
}

// eliminate solves the equations of normal, without fractions (Bareiss): it returns the rows without all terms but their own, and the pivot of each term. A pivot is 0 if the term is not told together with the terms before it, and it is passed over.
//
// If all pivots before the number k are not 0, the column k of the rows before k, divided by the pivot before k, is the coefficients of these terms that give the term k best; with all pivots, this holds for the readings behind the terms, and the last pivot.
func eliminate(equations [][]exact.Num) (rows [][]exact.Num, pivots []exact.Num) {
	rows = make([][]exact.Num, len(equations))
	for i, row := range equations {
		rows[i] = make([]exact.Num, len(row))
		copy(rows[i], row)
	}
	pivots = make([]exact.Num, len(rows))
	before := exact.Whole(1)
	for k, row := range rows {
		// What is left of a row of products is all 0 if its pivot is 0, since the pivot is then the sum of the squares of what is left of the term: no other row need be looked for.
		pivots[k] = row[k]
		if isZero(row[k]) {
			continue
		}
		for i := range rows {
			if i != k {
				subtract(rows[i], row, k, before)
			}
		}
		before = row[k]
	}
	return rows, pivots
}

// subtract takes the term k out of a row with the help of the row k. The pivot before divides all that is left: it is a determinant, as are the numbers of all rows.
func subtract(row, own []exact.Num, k int, before exact.Num) {
	pivot, factor := own[k], row[k]
	for j := k + 1; j < len(row); j++ {
		row[j], _ = pivot.Mul(row[j]).Sub(factor.Mul(own[j])).Div(before)
	}
	row[k] = exact.Num{}
}

func isZero(x exact.Num) bool { return x.Sign() == 0 }

// best returns, for each list of readings at the points of data, the coefficients with the least sum of squares; or false if the form is not told.
func best(f Form, data []Point, lists ...[]exact.Num) ([][]exact.Num, bool) {
	terms := columnsOf(f, data)
	right := make([]column, len(lists))
	for i, l := range lists {
		right[i] = columnOf(l)
	}
	rows, pivots := eliminate(normal(terms, right))
	if slices.ContainsFunc(pivots, isZero) {
		return nil, false
	}
	coefs := make([][]exact.Num, len(lists))
	for i, list := range right {
		coefs[i] = make([]exact.Num, len(terms))
		for t, term := range terms {
			divisor := pivots[len(pivots)-1].Mul(list.scale)
			coefs[i][t], _ = rows[t][len(terms)+i].Mul(term.scale).Div(divisor)
		}
	}
	return coefs, true
}

// hidden returns coefficients with the value 0 at all points, for the first term that is not told together with those before it; or false if the form is told.
func hidden(f Form, data []Point) ([]exact.Num, bool) {
	terms := columnsOf(f, data)
	rows, pivots := eliminate(normal(terms, nil))
	first := slices.IndexFunc(pivots, isZero)
	if first < 0 {
		return nil, false
	}
	coefs := make([]exact.Num, len(terms))
	for t := range first {
		divisor := pivots[first-1].Mul(terms[first].scale)
		coefs[t], _ = rows[t][first].Neg().Mul(terms[t].scale).Div(divisor)
	}
	coefs[first] = exact.Whole(1)
	return coefs, true
}

// rank counts the terms that are told together with those before them.
func rank(f Form, data []Point) int {
	_, pivots := eliminate(normal(columnsOf(f, data), nil))
	count := 0
	for _, pivot := range pivots {
		if !isZero(pivot) {
			count++
		}
	}
	return count
}
