package fit_test

import (
	"math"
	"math/rand/v2"
	"reflect"
	"slices"
	"testing"

	"venturi/api"
	"venturi/exact"
	"venturi/fit"
)

// powers returns the form of one input with the terms from 0 to n - 1.
func powers(n int) fit.Form {
	f := fit.Form{Inputs: 1}
	for k := range n {
		f.Terms = append(f.Terms, []int{k})
	}
	return f
}

// badForms are forms that are not valid, each for one reason.
func badForms() map[string]fit.Form {
	many := fit.Form{Inputs: 2}
	for a := range 7 {
		for b := range 5 {
			many.Terms = append(many.Terms, []int{a, b})
		}
	}
	many.Terms = many.Terms[:api.MaxMonomials+1]
	return map[string]fit.Form{
		"inputs -1":          {Inputs: -1},
		"the least inputs":   {Inputs: math.MinInt},
		"7 inputs":           {Inputs: 7},
		"7 inputs and terms": {Inputs: 7, Terms: [][]int{make([]int, 7)}},
		"the most inputs":    {Inputs: math.MaxInt},
		"29 terms":           many,
		"an exponent less":   {Inputs: 2, Terms: [][]int{{0, 0}, {1}}},
		"an exponent more":   {Inputs: 2, Terms: [][]int{{0, 0}, {1, 0, 0}}},
		"no exponents":       {Inputs: 1, Terms: [][]int{nil}},
		"one for no input":   {Inputs: 0, Terms: [][]int{{0}}},
		"an exponent of -1":  {Inputs: 2, Terms: [][]int{{0, 0}, {1, -1}}},
		"an exponent of 9":   {Inputs: 2, Terms: [][]int{{9, 0}, {1, 1}}},
		"the least exponent": {Inputs: 1, Terms: [][]int{{math.MinInt}}},
		"the most exponent":  {Inputs: 1, Terms: [][]int{{math.MaxInt}}},
		"equal terms":        {Inputs: 2, Terms: [][]int{{1, 2}, {1, 2}}},
		"equal terms apart":  {Inputs: 2, Terms: [][]int{{1, 2}, {2, 1}, {0, 0}, {1, 2}}},
		"equal terms later":  {Inputs: 2, Terms: [][]int{{0, 0}, {1, 2}, {2, 1}, {1, 2}}},
		"the same list":      {Inputs: 0, Terms: [][]int{{}, nil}},
	}
}

// P2.1
func TestCheckForm(t *testing.T) {
	for what, f := range badForms() {
		if e := fit.CheckForm(f); e != api.ErrArg {
			t.Errorf("%s: error %d", what, e)
		}
	}
	all, _ := fit.Full(6, 2)
	for _, f := range []fit.Form{{}, {Inputs: 6}, {Terms: [][]int{nil}}, {Terms: [][]int{{}}}, powers(9), all, {Inputs: 2, Terms: [][]int{{1, 2}, {2, 1}, {8, 8}, {0, 0}}}} {
		if e := fit.CheckForm(f); e != api.OK {
			t.Errorf("%v: error %d", f, e)
		}
	}
}

// P2.1
func TestTerm(t *testing.T) {
	f := fit.Form{Inputs: 3, Terms: [][]int{{0, 0, 0}, {1, 0, 2}, {0, 3, 0}, {8, 1, 1}}}
	for term, want := range []string{"1", "0.5", "-27", "-384"} {
		x, e := fit.Term(f, term, nums(t, "2", "-3", "1/2"))
		isNum(t, "Term", x, e, want)
	}
	for term, want := range []string{"1", "0", "0", "0"} {
		x, e := fit.Term(f, term, nums(t, "0", "0", "0"))
		isNum(t, "Term of zeros", x, e, want)
	}
	x, e := fit.Term(fit.Form{Terms: [][]int{{}}}, 0, nil)
	isNum(t, "Term of no inputs", x, e, "1")
	for _, term := range []int{-1, 4, math.MinInt, math.MaxInt} {
		x, e := fit.Term(f, term, nums(t, "2", "-3", "1/2"))
		isError(t, "Term without a term", x, e, api.ErrRange)
		x, e = fit.Term(f, term, nums(t, "2"))
		isError(t, "Term without a term and inputs", x, e, api.ErrRange)
	}
	x, e = fit.Term(fit.Form{Inputs: 1}, 0, nums(t, "2"))
	isError(t, "Term of no terms", x, e, api.ErrRange)
	for _, l := range [][]string{nil, {"2", "-3"}, {"2", "-3", "1", "1"}} {
		x, e := fit.Term(f, 0, nums(t, l...))
		isError(t, "Term with other inputs", x, e, api.ErrArg)
	}
	for what, f := range badForms() {
		for _, term := range []int{-1, 0} {
			x, e := fit.Term(f, term, nums(t, "2"))
			isError(t, "Term with "+what, x, e, api.ErrArg)
		}
	}
}

// P2.1
func TestValue(t *testing.T) {
	f := fit.Form{Inputs: 2, Terms: [][]int{{0, 0}, {1, 2}, {3, 0}}}
	x, e := fit.Value(f, nums(t, "1", "0.5", "-1"), nums(t, "2", "3"))
	isNum(t, "Value", x, e, "2")
	x, e = fit.Value(f, nums(t, "1/3", "-2", "0"), nums(t, "-1/2", "2/3"))
	isNum(t, "Value of fractions", x, e, "7/9")
	x, e = fit.Value(fit.Form{Inputs: 2}, nil, nums(t, "2", "3"))
	isNum(t, "Value of no terms", x, e, "0")
	x, e = fit.Value(fit.Form{Terms: [][]int{{}}}, nums(t, "7"), nil)
	isNum(t, "Value of no inputs", x, e, "7")
	for _, l := range [][2][]string{{{"1", "2"}, {"2", "3"}}, {{"1", "2", "3", "4"}, {"2", "3"}}, {nil, {"2", "3"}}, {{"1", "2", "3"}, {"2"}}, {{"1", "2", "3"}, {"2", "3", "4"}}, {{"1", "2", "3"}, nil}, {{"1", "2"}, {"1", "2", "3"}}} {
		x, e := fit.Value(f, nums(t, l[0]...), nums(t, l[1]...))
		isError(t, "Value with other lists", x, e, api.ErrArg)
	}
	for what, f := range badForms() {
		x, e := fit.Value(f, make([]exact.Num, len(f.Terms)), make([]exact.Num, min(max(f.Inputs, 0), 9)))
		isError(t, "Value with "+what, x, e, api.ErrArg)
	}
}

// P2.2
func TestRange(t *testing.T) {
	f := fit.Form{Inputs: 1, Terms: [][]int{{1}, {2}}}
	one := span(t, "1", "1")
	b, e := fit.Range(f, []exact.Box{one.Neg(), one}, []exact.Box{span(t, "-1", "2")})
	isBox(t, "Range", b, e, "-2", "5")
	// x * y * y with y * y from 0 to 9, not from -6 to 9, and 1 for an exponent of 0.
	f = fit.Form{Inputs: 2, Terms: [][]int{{1, 2}, {0, 0}, {0, 3}}}
	x := []exact.Box{span(t, "-1", "2"), span(t, "-3", "2")}
	b, e = fit.Range(f, []exact.Box{one, span(t, "0", "1/2"), span(t, "-1", "2")}, x)
	isBox(t, "Range of two inputs", b, e, "-63", "45.5")
	b, e = fit.Range(fit.Form{Inputs: 2}, nil, x)
	isBox(t, "Range of no terms", b, e, "0", "0")
	b, e = fit.Range(fit.Form{Terms: [][]int{{}}}, x[:1], nil)
	isBox(t, "Range of no inputs", b, e, "-1", "2")
	for _, n := range [][2]int{{2, 2}, {4, 2}, {0, 2}, {3, 1}, {3, 3}, {3, 0}, {2, 3}} {
		b, e := fit.Range(f, make([]exact.Box, n[0]), make([]exact.Box, n[1]))
		isError(t, "Range with other lists", b, e, api.ErrArg)
	}
	for what, f := range badForms() {
		b, e := fit.Range(f, make([]exact.Box, len(f.Terms)), make([]exact.Box, min(max(f.Inputs, 0), 9)))
		isError(t, "Range with "+what, b, e, api.ErrArg)
	}
}

// P2.2: the range has the values for all numbers of the boxes, and of single numbers it is the value.
func TestRangeHasValues(t *testing.T) {
	r := rand.New(rand.NewPCG(2, 2))
	boxes := func(n int) (l []exact.Box) {
		for range n {
			l = append(l, exact.Point(anyNum(r)).Hull(exact.Point(anyNum(r))))
		}
		return l
	}
	inside := func(boxes []exact.Box) (l []exact.Num) {
		for _, b := range boxes {
			part, _ := exact.Ratio(int64(r.IntN(5)), 4)
			l = append(l, b.Lo().Add(b.Width().Mul(part)))
		}
		return l
	}
	for range 300 {
		f := anyForm(r, 3, 5)
		coefs, x := boxes(len(f.Terms)), boxes(f.Inputs)
		b, e := fit.Range(f, coefs, x)
		c, at := inside(coefs), inside(x)
		v, d := fit.Value(f, c, at)
		if e != api.OK || d != api.OK || !b.Has(v) {
			t.Fatalf("Range %v of %v: error %d; a value is %v, error %d", b, f, e, v, d)
		}
		single := func(l []exact.Num) (boxes []exact.Box) {
			for _, x := range l {
				boxes = append(boxes, exact.Point(x))
			}
			return boxes
		}
		if b, e := fit.Range(f, single(c), single(at)); e != api.OK || !b.Equal(exact.Point(v)) {
			t.Fatalf("Range of single numbers %v of %v: error %d; the value is %v", b, f, e, v)
		}
	}
}

// P2.3
func TestFull(t *testing.T) {
	for _, c := range []struct {
		inputs, degree int
		terms          [][]int
	}{
		{0, 0, [][]int{{}}},
		{0, 8, [][]int{{}}},
		{1, 0, [][]int{{0}}},
		{1, 3, [][]int{{0}, {1}, {2}, {3}}},
		{2, 2, [][]int{{0, 0}, {1, 0}, {0, 1}, {2, 0}, {1, 1}, {0, 2}}},
		{3, 2, [][]int{{0, 0, 0}, {1, 0, 0}, {0, 1, 0}, {0, 0, 1}, {2, 0, 0}, {1, 1, 0}, {1, 0, 1}, {0, 2, 0}, {0, 1, 1}, {0, 0, 2}}},
		{6, 0, [][]int{{0, 0, 0, 0, 0, 0}}},
	} {
		f, e := fit.Full(c.inputs, c.degree)
		same := f.Inputs == c.inputs && slices.EqualFunc(f.Terms, c.terms, slices.Equal[[]int])
		if e != api.OK || !same {
			t.Errorf("Full of %d and %d: %v, error %d", c.inputs, c.degree, f, e)
		}
	}
	for _, c := range [][3]int{{1, 8, 9}, {2, 6, 28}, {3, 3, 20}, {4, 2, 15}, {5, 2, 21}, {6, 1, 7}, {6, 2, 28}} {
		f, e := fit.Full(c[0], c[1])
		if e != api.OK || len(f.Terms) != c[2] || fit.CheckForm(f) != api.OK {
			t.Errorf("Full of %d and %d: %d terms, error %d", c[0], c[1], len(f.Terms), e)
		}
	}
	for _, c := range [][2]int{{2, 7}, {2, 8}, {3, 4}, {4, 3}, {5, 3}, {6, 3}, {6, 8}} {
		f, e := fit.Full(c[0], c[1])
		isError(t, "Full with too many terms", f, e, api.ErrLong)
	}
	for _, c := range [][2]int{{-1, 0}, {7, 0}, {7, 8}, {0, -1}, {0, 9}, {6, 9}, {math.MinInt, 1}, {math.MaxInt, 1}, {1, math.MinInt}, {1, math.MaxInt}} {
		f, e := fit.Full(c[0], c[1])
		isError(t, "Full outside of the limits", f, e, api.ErrRange)
	}
}

// P2.3: the terms are in order.
func TestFullOrder(t *testing.T) {
	sum := func(l []int) (s int) {
		for _, n := range l {
			s += n
		}
		return s
	}
	for inputs := range api.MaxInputs + 1 {
		for degree := range api.MaxExponent + 1 {
			f, e := fit.Full(inputs, degree)
			if e != api.OK {
				continue
			}
			if !slices.IsSortedFunc(f.Terms, func(a, b []int) int {
				if sum(a) != sum(b) {
					return sum(a) - sum(b)
				}
				return slices.Compare(b, a)
			}) {
				t.Errorf("Full of %d and %d is not in order: %v", inputs, degree, f.Terms)
			}
		}
	}
}

// R4: the lists of a form are new each time.
func TestFullIsNew(t *testing.T) {
	f, _ := fit.Full(2, 2)
	for _, term := range f.Terms {
		term[0], term[1] = 7, 7
	}
	g, _ := fit.Full(2, 2)
	if !reflect.DeepEqual(g.Terms, [][]int{{0, 0}, {1, 0}, {0, 1}, {2, 0}, {1, 1}, {0, 2}}) {
		t.Error("a change of one form changed another one", g)
	}
}
