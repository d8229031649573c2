package balance_test

import (
	"math"
	"math/rand/v2"
	"slices"
	"testing"

	"venturi/api"
	"venturi/balance"
	"venturi/exact"
	"venturi/fit"
)

// rig returns three hooks for two components.
func rig() []balance.Hook {
	return []balance.Hook{nums("1", "0"), nums("0.5", "-1"), nums("0", "2")}
}

// wrongHooks returns hooks that are not valid for two components.
func wrongHooks() map[string][]balance.Hook {
	return map[string][]balance.Hook{
		"41 hooks":          slices.Repeat([]balance.Hook{nums("1", "2")}, 41),
		"no numbers":        {nil},
		"too few numbers":   append(rig(), nums("1")),
		"too many numbers":  {nums("1", "2", "3"), nums("1", "2")},
		"those of one load": {nums("1")},
	}
}

// wrongLoadings returns loadings that are not valid for three hooks.
func wrongLoadings() map[string]balance.Loading {
	return map[string]balance.Loading{
		"hook 3":             {Hooks: []int{0, 3}, Weights: nums("1", "2")},
		"hook -1":            {Hooks: []int{-1, 0}, Weights: nums("1", "2")},
		"the least hook":     {Hooks: []int{math.MinInt}, Weights: nums("1")},
		"the most hook":      {Hooks: []int{math.MaxInt}, Weights: nums("1")},
		"no weights":         {Hooks: []int{0}},
		"no hooks":           {Weights: nums("1")},
		"more weights":       {Hooks: []int{0}, Weights: nums("1", "2")},
		"more hooks":         {Hooks: []int{0, 1}, Weights: nums("1")},
		"13 weights":         {Hooks: make([]int, 13), Weights: make([]exact.Num, 13)},
		"13 weights, 1 hook": {Hooks: make([]int, 1), Weights: make([]exact.Num, 13)},
		"13 hooks, 1 weight": {Hooks: make([]int, 13), Weights: make([]exact.Num, 1)},
	}
}

// P5.3
func TestApplied(t *testing.T) {
	several := balance.Loading{Hooks: []int{0, 1, 1}, Weights: nums("2", "4", "-1")}
	l, e := balance.Applied(2, rig(), several)
	areNums(t, "several weights", l, e, "3.5", "-3")
	l, e = balance.Applied(2, rig(), balance.Loading{Hooks: []int{2, 0, 2}, Weights: nums("1/3", "-1", "1")})
	areNums(t, "two hooks", l, e, "-1", "8/3")
	for _, hooks := range [][]balance.Hook{rig(), nil, {}} {
		l, e = balance.Applied(2, hooks, balance.Loading{})
		areNums(t, "no weights", l, e, "0", "0")
	}
	l, e = balance.Applied(1, slices.Repeat([]balance.Hook{nums("1/2")}, 40), balance.Loading{Hooks: slices.Repeat([]int{39}, 12), Weights: slices.Repeat(nums("1/3"), 12)})
	areNums(t, "as much as there may be", l, e, "2")
	l, e = balance.Applied(6, []balance.Hook{nums("1", "2", "3", "4", "5", "6")}, balance.Loading{Hooks: []int{0}, Weights: nums("2")})
	areNums(t, "six components", l, e, "2", "4", "6", "8", "10", "12")
}

// P5.3
func TestAppliedErrors(t *testing.T) {
	fine := balance.Loading{Hooks: []int{0}, Weights: nums("1")}
	for _, components := range []int{0, -1, 7, math.MinInt, math.MaxInt} {
		l, e := balance.Applied(components, nil, balance.Loading{})
		isError(t, "no such balance", e, api.ErrRange, l)
		l, e = balance.Applied(components, wrongHooks()["41 hooks"], wrongLoadings()["hook 3"])
		isError(t, "no such balance, and all else", e, api.ErrRange, l)
	}
	for what, hooks := range wrongHooks() {
		l, e := balance.Applied(2, hooks, fine)
		isError(t, what, e, api.ErrArg, l)
	}
	for what, loading := range wrongLoadings() {
		l, e := balance.Applied(2, rig(), loading)
		isError(t, what, e, api.ErrArg, l)
	}
	l, e := balance.Applied(2, nil, fine)
	isError(t, "no hook", e, api.ErrArg, l)
}

// loadings returns loadings of the first hook, each with one weight.
func loadings(weights ...string) []balance.Loading {
	var l []balance.Loading
	for _, w := range weights {
		l = append(l, balance.Loading{Hooks: []int{0}, Weights: nums(w)})
	}
	return l
}

// P5.4
func TestCalibrate(t *testing.T) {
	hooks := []balance.Hook{nums("1")}
	readings := [][]exact.Num{nums("2.1"), nums("4.4"), nums("-1.9"), nums("6.9")}
	c, fits, e := balance.Calibrate(bent("0", "0").Form, hooks, loadings("1", "2", "-1", "3"), readings)
	if e != api.OK || len(c.Coefs) != 1 || len(fits) != 1 || c.Form.Inputs != 1 || !slices.EqualFunc(c.Form.Terms, [][]int{{1}, {2}}, slices.Equal) {
		t.Fatal("Calibrate", c, fits, e)
	}
	areNums(t, "the coefficients", c.Coefs[0], e, "2", "0.1")
	areNums(t, "those of the fit", fits[0].Coefs, e, "2", "0.1")
	areNums(t, "the residuals", fits[0].Residuals, e, "0", "0", "0", "0")
	isNum(t, "the squares", fits[0].Squares, e, "0")

	line := form(2, []int{0, 0}, []int{0, 1}, []int{1, 0})
	rows := []balance.Loading{{}, {Hooks: []int{0, 1}, Weights: nums("0.5", "1")}, {Hooks: []int{1}, Weights: nums("-1")}, {Hooks: []int{2}, Weights: nums("0.5")}}
	readings = [][]exact.Num{nums("1", "0"), nums("2", "1"), nums("0", "2"), nums("3", "7")} // at (0, 0), (1, -1), (-1/2, 1) and (0, 1)
	c, fits, e = balance.Calibrate(line, rig(), rows, readings)
	if e != api.OK || len(c.Coefs) != 2 || len(fits) != 2 {
		t.Fatal("Calibrate of two", c, fits, e)
	}
	for i, want := range [2]int{0, 1} {
		var data []fit.Point
		for k, x := range [][]exact.Num{nums("0", "0"), nums("1", "-1"), nums("-1/2", "1"), nums("0", "1")} {
			data = append(data, fit.Point{X: x, Y: readings[k][want]})
		}
		best, _ := fit.Solve(line, data)
		if !sameNums(c.Coefs[i], best.Coefs) || !sameNums(fits[i].Coefs, best.Coefs) || !sameNums(fits[i].Residuals, best.Residuals) || !sameNum(fits[i].Squares, best.Squares) {
			t.Error("the component", i, c.Coefs[i], fits[i], best)
		}
		if best.Squares.Sign() == 0 {
			t.Error("a fit without residuals")
		}
	}
}

// attempt is arguments of Calibrate with an error.
type attempt struct {
	what     string
	form     fit.Form
	hooks    []balance.Hook
	loadings []balance.Loading
	readings [][]exact.Num
	want     api.Errno
}

// P5.4: each attempt has all errors that come after its own one.
func TestCalibrateErrors(t *testing.T) {
	wrong := bent("0", "0").Form
	missing, fine := form(2, []int{1, 0}, []int{0, 2}), form(2, []int{1, 0}, []int{0, 1})
	hooks := wrongHooks()["41 hooks"]
	many := loadings(slices.Repeat([]string{"1"}, 61)...)
	two := [][]exact.Num{nums("1", "1"), nums("1", "1")}
	for _, a := range []attempt{
		{"a form that is not valid", fit.Form{Inputs: 0, Terms: [][]int{{1}}}, hooks, many, nil, api.ErrArg},
		{"seven inputs", fit.Form{Inputs: 7}, hooks, many, nil, api.ErrArg},
		{"no input", fit.Form{}, hooks, many, nil, api.ErrRange},
		{"no input, but a term", form(0, []int{}), hooks, many, nil, api.ErrRange},
		{"not all linear terms", missing, hooks, many, nil, api.ErrLinear},
		{"not one linear term", form(2, []int{0, 0}, []int{1, 1}), hooks, many, nil, api.ErrLinear},
		{"the last linear term alone", form(2, []int{2, 0}, []int{0, 1}), hooks, many, nil, api.ErrLinear},
		{"41 hooks", fine, hooks, many, nil, api.ErrArg},
		{"hooks for another balance", wrong, rig(), many, nil, api.ErrArg},
		{"61 loadings", fine, rig(), many, nil, api.ErrLong},
		{"too few readings", fine, rig(), many[:2], two[:1], api.ErrArg},
		{"too many readings", fine, rig(), many[:1], two, api.ErrArg},
		{"no readings", fine, rig(), many[:2], nil, api.ErrArg},
		{"readings alone", fine, rig(), nil, two, api.ErrArg},
		{"a list of readings that is short", fine, rig(), many[:2], [][]exact.Num{two[0], nums("1")}, api.ErrArg},
		{"one that is long", fine, rig(), many[:2], [][]exact.Num{nums("1", "1", "1"), two[0]}, api.ErrArg},
		{"no hook", fine, nil, many[:2], two, api.ErrArg},
		{"equal loadings", fine, rig(), many[:2], two, api.ErrHidden},
		{"equal loadings as many as may be", fine, rig(), many[:60], slices.Repeat(two, 30), api.ErrHidden},
		{"no loading", fine, rig(), nil, nil, api.ErrHidden},
	} {
		c, fits, e := balance.Calibrate(a.form, a.hooks, a.loadings, a.readings)
		isError(t, a.what, e, a.want, c, fits)
	}
	for what, l := range wrongLoadings() {
		c, fits, e := balance.Calibrate(fine, rig(), []balance.Loading{many[0], l}, two)
		isError(t, what, e, api.ErrArg, c, fits)
	}
	for what, hooks := range wrongHooks() {
		c, fits, e := balance.Calibrate(fine, hooks, many, nil)
		isError(t, what, e, api.ErrArg, c, fits)
	}
}

// P5.5
func TestCheckCalibration(t *testing.T) {
	for what, c := range wrongCalibrations() {
		isError(t, what, balance.CheckCalibration(c), api.ErrArg)
		n := max(0, c.Form.Inputs)
		l, e := balance.Read(c, make([]exact.Num, n))
		isError(t, "Read with "+what, e, api.ErrArg, l)
		v, e := balance.Invert(c, make([]exact.Box, n), make([]exact.Box, n), 99, num("-1"))
		isError(t, "Invert with "+what, e, api.ErrArg, v)
		s, e := balance.Slope(c, make([]exact.Box, n))
		isError(t, "Slope with "+what, e, api.ErrArg, s)
	}
	full, _ := fit.Full(6, 2)
	for _, c := range []balance.Calibration{bent("0", "0"), linked(), {Form: full, Coefs: slices.Repeat([][]exact.Num{make([]exact.Num, 28)}, 6)}} {
		isError(t, "a valid calibration", balance.CheckCalibration(c), api.OK)
	}
}

// P5.5
func TestRead(t *testing.T) {
	l, e := balance.Read(bent("2", "0.1"), nums("2"))
	areNums(t, "the example", l, e, "4.4")
	l, e = balance.Read(linked(), nums("2", "-1/3"))
	areNums(t, "two loads", l, e, "38/15", "133/30")
	l, e = balance.Read(linked(), nums("0", "0"))
	areNums(t, "no load", l, e, "3", "0")
	for _, loads := range [][]exact.Num{nil, nums("1"), nums("1", "2", "3")} {
		l, e := balance.Read(linked(), loads)
		isError(t, "other loads", e, api.ErrArg, l)
	}
}

// P5.10
func TestCalibrationsAreBest(t *testing.T) {
	r, told := rand.New(rand.NewPCG(5, 10)), 0
	for range 80 {
		n := 1 + r.IntN(3)
		want := anyCalibration(r, n)
		hooks, loadings, loads := anyRig(r, n, len(want.Form.Terms)+r.IntN(4))
		var pure, wrong [][]exact.Num
		for _, l := range loads {
			pure = append(pure, reading(want, l))
			wrong = append(wrong, plus(reading(want, l), num("0.1"), anyNums(r, n)))
		}
		found, _, e := balance.Calibrate(want.Form, hooks, loadings, pure)
		if e == api.ErrHidden {
			continue
		}
		told++
		if e != api.OK || !slices.EqualFunc(found.Coefs, want.Coefs, sameNums) {
			t.Fatalf("Calibrate of the readings of %v: %v, error %d", want, found, e)
		}
		found, fits, e := balance.Calibrate(want.Form, hooks, loadings, wrong)
		other := balance.Calibration{Form: found.Form, Coefs: slices.Clone(found.Coefs)}
		for i := range other.Coefs {
			other.Coefs[i] = plus(other.Coefs[i], num("0.001"), anyNums(r, len(other.Coefs[i])))
		}
		for i, best := range fits {
			squares := squaresOf(found, loads, wrong, i)
			if e != api.OK || !sameNum(squares, best.Squares) || squaresOf(other, loads, wrong, i).Cmp(squares) < 0 {
				t.Fatalf("Calibrate of %v with %v: error %d, the squares %v are not the least ones", want.Form, wrong, e, squares)
			}
		}
	}
	if told < 20 {
		t.Error("few rigs told the form:", told)
	}
}

// anyRig returns hooks and loadings for n components, and the loads that they apply.
func anyRig(r *rand.Rand, n, count int) (hooks []balance.Hook, loadings []balance.Loading, loads [][]exact.Num) {
	for range 5 {
		hooks = append(hooks, anyNums(r, n))
	}
	for range count {
		applied, l := make([]exact.Num, n), balance.Loading{}
		for range r.IntN(6) {
			hook, weight := r.IntN(5), anyNum(r)
			l.Hooks, l.Weights = append(l.Hooks, hook), append(l.Weights, weight)
			applied = plus(applied, weight, hooks[hook])
		}
		loadings, loads = append(loadings, l), append(loads, applied)
	}
	return hooks, loadings, loads
}

// squaresOf returns the sum of squares of a component over all loads.
func squaresOf(c balance.Calibration, loads, readings [][]exact.Num, component int) exact.Num {
	var l []exact.Num
	for k, x := range loads {
		l = append(l, readings[k][component].Sub(reading(c, x)[component]))
	}
	return sum(l, l)
}
