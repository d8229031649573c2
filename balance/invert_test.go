package balance_test

import (
	"math"
	"math/rand/v2"
	"slices"
	"testing"

	"venturi/api"
	"venturi/balance"
	"venturi/exact"
)

// isInverse compares a result of Invert without error with the texts of the ends of its boxes, two for each load.
func isInverse(t *testing.T, what string, v balance.Inverse, e api.Errno, proved bool, ends ...string) {
	t.Helper()
	var l []exact.Num
	for _, b := range v.Loads {
		l = append(l, b.Lo(), b.Hi())
	}
	areNums(t, what, l, e, ends...)
	is(t, what+" proved", v.Proved, e, proved)
}

// P5.6
func TestInvert(t *testing.T) {
	for _, c := range []struct {
		what, reading, within string
		rounds                int
		grid                  string
		proved                bool
		lo, hi                string
	}{
		{"no round", "4.4", "4", 0, "0", false, "0", "4"},
		{"no round on a grid", "4.4", "4", 0, "3", false, "0", "4"},
		{"one round", "4.4", "4", 1, "0", true, "1.4", "2.2"},
		{"two rounds", "4.4", "4", 2, "0", true, "1.958", "2.102"},
		{"one round on a grid", "4.4", "4", 1, "0.1", true, "1.4", "2.2"},
		{"two rounds on a grid", "4.4", "4", 2, "0.1", true, "1.9", "2.2"},
		{"all rounds on a grid", "4.4", "4", 40, "0.1", true, "1.9", "2.1"},
		{"a wide grid", "4.4", "4", 40, "3", true, "0", "3"},
		{"a grid wider than all", "4.4", "4", 40, "5", false, "0", "4"},
		{"an image that touches", "4.4", "2", 1, "0", false, "2", "2"},
		{"an image of one number", "4.4", "2", 2, "0", true, "2", "2"},
		{"an image up to the end", "8", "4", 1, "0", true, "3.2", "4"},
		{"an image beyond the end", "8.4", "4", 1, "0.1", false, "3.4", "4"},
		{"the image after it", "8.4", "4", 2, "0.1", true, "3.4", "3.7"},
		{"the images after that", "8.4", "4", 40, "0.1", true, "3.5", "3.6"},
	} {
		v, e := balance.Invert(bent("2", "0.1"), points(nums(c.reading)), boxes(1, span("0", c.within)), c.rounds, num(c.grid))
		isInverse(t, c.what, v, e, c.proved, c.lo, c.hi)
	}
	v, e := balance.Invert(bent("2", "0.1"), boxes(1, span("4.2", "4.6")), boxes(1, span("0", "4")), 1, num("0"))
	isInverse(t, "readings in a box", v, e, true, "1.3", "2.3")
	v, e = balance.Invert(bent("2", "-0.1"), boxes(1, only("4")), boxes(1, span("0", "2")), 40, num("0.5"))
	isInverse(t, "a grid that hides that there are none", v, e, false, "2", "2")
}

// P5.6
func TestInvertOfTwo(t *testing.T) {
	readings, loads := points(nums("4", "1")), []exact.Box{span("0", "1"), span("0", "2")}
	v, e := balance.Invert(linked(), readings, loads, 0, num("0"))
	isInverse(t, "no round", v, e, false, "0", "1", "0", "2")
	v, e = balance.Invert(linked(), readings, loads, 1, num("0"))
	isInverse(t, "one round", v, e, true, "0.7", "0.95", "0.8", "1")
	v, e = balance.Invert(linked(), readings, loads, 1, num("0.25"))
	isInverse(t, "one round on a grid", v, e, true, "0.5", "1", "0.75", "1")
	loads[0] = span("0", "0.9")
	v, e = balance.Invert(linked(), readings, loads, 1, num("0"))
	isInverse(t, "one box beyond its end", v, e, false, "0.7095", "0.9", "0.838", "1")
	loads[0], loads[1] = span("0", "1"), span("0.9", "2")
	v, e = balance.Invert(linked(), readings, loads, 1, num("0"))
	isInverse(t, "the other one beyond its end", v, e, false, "0.7", "0.95", "0.9", "1")
}

// P5.6
func TestInvertErrors(t *testing.T) {
	c, one, within := bent("2", "0.1"), points(nums("4.4")), boxes(1, span("0", "4"))
	far, zero := points(nums("30")), exact.Num{}
	for _, l := range [][]exact.Box{nil, {}, boxes(2, only("1"))} {
		v, e := balance.Invert(c, l, within, -1, num("-1"))
		isError(t, "not one reading", e, api.ErrArg, v)
		v, e = balance.Invert(c, one, l, -1, num("-1"))
		isError(t, "not one load", e, api.ErrArg, v)
		v, e = balance.Invert(bent("0", "1"), l, l, 1, zero)
		isError(t, "neither, and no inverse", e, api.ErrArg, v)
	}
	v, e := balance.Invert(linked(), one, within, 1, zero)
	isError(t, "boxes for another balance", e, api.ErrArg, v)
	for _, rounds := range []int{-1, 41, math.MinInt, math.MaxInt} {
		v, e := balance.Invert(c, one, within, rounds, zero)
		isError(t, "rounds", e, api.ErrRange, v)
		v, e = balance.Invert(bent("0", "1"), one, within, rounds, zero)
		isError(t, "rounds, and no inverse", e, api.ErrRange, v)
	}
	for _, grid := range nums("-1/1000000", "-5") {
		v, e := balance.Invert(bent("0", "1"), one, within, 0, grid)
		isError(t, "a negative grid", e, api.ErrRange, v)
	}
	for what, singular := range singularCalibrations() {
		n := singular.Form.Inputs
		v, e := balance.Invert(singular, boxes(n, far[0]), boxes(n, within[0]), 0, zero)
		isError(t, what, e, api.ErrSingular, v)
		v, e = balance.Invert(singular, boxes(n, far[0]), boxes(n, within[0]), 40, num("0.1"))
		isError(t, what+" in some rounds", e, api.ErrSingular, v)
		s, e := balance.Slope(singular, boxes(n, within[0]))
		isError(t, "Slope with "+what, e, api.ErrSingular, s)
	}
	v, e = balance.Invert(c, far, within, 0, zero)
	isInverse(t, "nothing is left, without a round", v, e, false, "0", "4")
	for _, grid := range nums("0", "0.1", "5") {
		v, e := balance.Invert(c, far, within, 1, grid)
		isError(t, "nothing is left", e, api.ErrEmpty, v)
	}
	later := bent("2", "-0.1")
	v, e = balance.Invert(later, boxes(1, only("4")), boxes(1, span("0", "2")), 1, zero)
	isInverse(t, "something is left", v, e, false, "2", "2")
	v, e = balance.Invert(later, boxes(1, only("4")), boxes(1, span("0", "2")), 2, zero)
	isError(t, "nothing is left later", e, api.ErrEmpty, v)
	v, e = balance.Invert(linked(), points(nums("4", "1")), []exact.Box{span("0", "1"), span("1.1", "2")}, 1, zero)
	isError(t, "nothing is left of the last load", e, api.ErrEmpty, v)
	v, e = balance.Invert(linked(), points(nums("4", "1")), []exact.Box{span("-1", "0.6"), span("0", "2")}, 1, zero)
	isError(t, "nothing is left of the first load", e, api.ErrEmpty, v)
}

// singularCalibrations returns calibrations whose matrix has no inverse.
func singularCalibrations() map[string]balance.Calibration {
	two, three := linked(), balance.Calibration{Form: form(3, []int{1, 0, 0}, []int{0, 1, 0}, []int{0, 0, 1})}
	two.Coefs = [][]exact.Num{nums("2", "1", "1", "4"), nums("-1", "2", "3", "-2")}
	three.Coefs = [][]exact.Num{nums("1", "2", "3"), nums("4", "5", "6"), nums("7", "8", "9")}
	empty, column := three, three
	empty.Coefs = [][]exact.Num{nums("1", "2", "3"), nums("0", "0", "0"), nums("7", "8", "8")}
	column.Coefs = [][]exact.Num{nums("1", "0", "3"), nums("1", "0", "6"), nums("7", "0", "9")}
	return map[string]balance.Calibration{"no linear part": bent("0", "1"), "dependent rows": two, "a sum of rows": three, "an empty row": empty, "an empty column": column}
}

// P5.7
func TestSlope(t *testing.T) {
	cubic := balance.Calibration{Form: form(1, []int{3}, []int{0}, []int{1}), Coefs: [][]exact.Num{nums("0.1", "7", "-2")}}
	straight := balance.Calibration{Form: form(2, []int{0, 1}, []int{1, 0}, []int{0, 0}), Coefs: [][]exact.Num{nums("1", "0", "5"), nums("0", "1", "6")}}
	product := balance.Calibration{Form: form(2, []int{1, 0}, []int{0, 1}, []int{1, 1}), Coefs: [][]exact.Num{nums("2", "1", "0.1"), nums("1", "1", "0.3")}}
	for _, c := range []struct {
		what        string
		calibration balance.Calibration
		within      []exact.Box
		want        string
	}{
		{"the example", bent("2", "0.1"), boxes(1, span("0", "4")), "0.4"},
		{"below 0", bent("2", "0.1"), boxes(1, span("-5", "4")), "0.5"},
		{"a falling reading", bent("-2", "0.1"), boxes(1, span("-5", "4")), "0.5"},
		{"one load", bent("2", "0.1"), boxes(1, only("-3")), "0.3"},
		{"a power", cubic, boxes(1, span("-1", "2")), "0.6"},
		{"nothing but lines", straight, boxes(2, span("-9", "9")), "0"},
		{"two loads", linked(), []exact.Box{span("0", "1"), span("0", "2")}, "0.5"},
		{"the second row", product, []exact.Box{span("0", "2"), span("-1", "1")}, "1.9"},
	} {
		s, e := balance.Slope(c.calibration, c.within)
		isNum(t, c.what, s, e, c.want)
	}
	product.Coefs[0], product.Coefs[1] = nums("1", "1", "0.3"), nums("1", "2", "0.1") // the inverse is (2, -1), (-1, 1)
	s, e := balance.Slope(product, []exact.Box{span("0", "2"), span("-1", "1")})
	isNum(t, "the first row", s, e, "1.9")
	for _, l := range [][]exact.Box{nil, boxes(1, only("1")), boxes(3, only("1"))} {
		s, e := balance.Slope(product, l)
		isError(t, "other loads", e, api.ErrArg, s)
		s, e = balance.Slope(singularCalibrations()["dependent rows"], l)
		isError(t, "other loads, and no inverse", e, api.ErrArg, s)
	}
}

// minor returns a matrix without a row and a column.
func minor(m [][]exact.Num, row, column int) [][]exact.Num {
	var out [][]exact.Num
	for i, l := range m {
		if i != row {
			out = append(out, slices.Delete(slices.Clone(l), column, column+1))
		}
	}
	return out
}

// determinant returns the determinant of a matrix, by its first row.
func determinant(m [][]exact.Num) exact.Num {
	if len(m) == 0 {
		return whole(1)
	}
	var d exact.Num
	for j, x := range m[0] {
		d = d.Add(x.Mul(whole(1 - j%2*2)).Mul(determinant(minor(m, 0, j))))
	}
	return d
}

// inverseByMinors returns the inverse of the matrix of a calibration, of which the determinant is not 0; nil if it is.
func inverseByMinors(c balance.Calibration) [][]exact.Num {
	n := c.Form.Inputs
	m := make([][]exact.Num, n)
	for i, coefs := range c.Coefs {
		m[i] = make([]exact.Num, n)
		for k, term := range c.Form.Terms {
			if degree(term) == 1 {
				m[i][slices.Index(term, 1)] = coefs[k]
			}
		}
	}
	d := determinant(m)
	if d.Sign() == 0 {
		return nil
	}
	out := make([][]exact.Num, n)
	for j := range n {
		for i := range n {
			out[j] = append(out[j], quotient(determinant(minor(m, i, j)).Mul(whole(1-(i+j)%2*2)), d))
		}
	}
	return out
}

// derived returns the enclosure of the rest of a reading, or of its slope in a direction that is not -1.
func derived(c balance.Calibration, component, direction int, x []exact.Box) exact.Box {
	var all exact.Box
	for k, term := range c.Form.Terms {
		if degree(term) == 1 || direction >= 0 && term[direction] == 0 {
			continue
		}
		value := exact.Point(c.Coefs[component][k])
		for load, exponent := range term {
			if load == direction {
				value = value.Mul(exact.Point(whole(exponent)))
				exponent--
			}
			power, _ := x[load].Pow(exponent)
			value = value.Mul(power)
		}
		all = all.Add(value)
	}
	return all
}

// invertByMinors is Invert for valid arguments; its error is ErrEmpty.
func invertByMinors(c balance.Calibration, readings, within []exact.Box, rounds int, grid exact.Num) (x []exact.Box, proved bool, e api.Errno) {
	x = slices.Clone(within)
	for range rounds {
		next, inside := slices.Clone(x), true
		for j, row := range inverseByMinors(c) {
			var image exact.Box
			for i, factor := range row {
				image = image.Add(exact.Point(factor).Mul(readings[i].Sub(derived(c, i, -1, x))))
			}
			if grid.Sign() > 0 {
				image, _ = image.Out(grid)
			}
			inside = inside && image.Inside(x[j])
			both, ok := image.Meet(x[j])
			if !ok {
				return nil, false, api.ErrEmpty
			}
			next[j] = both
		}
		x, proved = next, proved || inside
	}
	return x, proved, api.OK
}

// slopeByMinors is Slope for valid arguments.
func slopeByMinors(c balance.Calibration, x []exact.Box) exact.Num {
	var greatest exact.Num
	for _, row := range inverseByMinors(c) {
		var all exact.Num
		for k := range x {
			var element exact.Box
			for i, factor := range row {
				element = element.Add(exact.Point(factor).Mul(derived(c, i, k, x)))
			}
			all = all.Add(element.Abs().Hi())
		}
		if all.Cmp(greatest) > 0 {
			greatest = all
		}
	}
	return greatest
}

// P5.6, P5.7
func TestInvertByMinors(t *testing.T) {
	r := rand.New(rand.NewPCG(5, 6))
	counts := map[string]int{}
	for range 300 {
		n := 1 + r.IntN(4)
		c := anyCalibration(r, n)
		if r.IntN(4) == 0 { // any matrix
			c.Coefs[0] = anyNums(r, len(c.Form.Terms))
		}
		if n > 1 && r.IntN(9) == 0 {
			c.Coefs[0] = slices.Clone(c.Coefs[n-1])
		}
		within, readings := anyBoxes(r, n), anyBoxes(r, n)
		if r.IntN(5) > 0 {
			readings = around(reading(c, inAll(r, within)), anyOf(r, nums("0", "1/9", "1")...))
		}
		rounds, grid := r.IntN(4), anyOf(r, nums("0", "1/3", "0.01", "2")...)
		v, e := balance.Invert(c, readings, within, rounds, grid)
		slope, f := balance.Slope(c, within)
		if inverseByMinors(c) == nil {
			isError(t, "no inverse", e, api.ErrSingular, v)
			isError(t, "no inverse for Slope", f, api.ErrSingular, slope)
			counts["singular"]++
			continue
		}
		loads, proved, want := invertByMinors(c, readings, within, rounds, grid)
		if e != want || v.Proved != proved || !sameBoxes(v.Loads, loads) {
			t.Fatalf("Invert of %v with %v, %v, %d, %v: %v, error %d, instead of %v, %v, error %d", c, readings, within, rounds, grid, v, e, loads, proved, want)
		}
		if want := slopeByMinors(c, within); f != api.OK || !sameNum(slope, want) {
			t.Fatalf("Slope of %v with %v: %v, error %d, instead of %v", c, within, slope, f, want)
		}
		switch {
		case want == api.ErrEmpty:
			counts["empty"]++
		case proved:
			counts["proved"]++
		default:
			counts["open"]++
		}
	}
	if counts["empty"] < 20 || counts["proved"] < 20 || counts["open"] < 20 || counts["singular"] < 9 {
		t.Error("not all cases have come:", counts)
	}
}
