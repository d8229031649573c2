package correct_test

import (
	"math/rand/v2"
	"testing"

	"venturi/api"
	"venturi/correct"
	"venturi/exact"
)

// tunnel returns the values of examples 2 and 4, and some others.
func tunnel() correct.Env {
	return env(named("x", "-1", "2"), named("f", "99", "101"), named("q", "50", "50"), named("s", "1.9", "2.1"),
		named("two", "2", "2"), named("four", "4", "9"), named("zero", "0", "0"), named("wall", "1/2", "3"))
}

// P7.4
func TestEval(t *testing.T) {
	for _, c := range []struct{ text, lo, hi string }{
		{"x * x", "-2", "4"}, // example 2
		{"x^2", "0", "4"},
		{"f / (q * s)", "33/35", "101/95"}, // example 4
		{"wall(wall)", "1", "2"},           // example 3
		{"0.5", "0.5", "0.5"},
		{"x", "-1", "2"},
		{"x + 1", "0", "3"},
		{"1 - x", "-1", "2"},
		{"x - x", "-3", "3"},
		{"-x", "-2", "1"},
		{"--x", "-1", "2"},
		{"abs(x)", "0", "2"},
		{"abs(x) - 1", "-1", "1"},
		{"x^3", "-1", "8"},
		{"-x^2", "-4", "0"},
		{"(-x)^2", "0", "4"},
		{"x^0", "1", "1"},
		{"zero^0", "1", "1"},
		{"sqrt(two)", "1.4", "1.5"},
		{"sqrt(four)", "2", "3"},
		{"sqrt(abs(x))", "0", "1.5"},
		{"zero / two", "0", "0"},
		{"two - two - two", "-2", "-2"},
		{"two - (two - two)", "2", "2"},
		{"q / two / two", "12.5", "12.5"},
		{"q / (two / two)", "50", "50"},
		{"q / two * two", "50", "50"},
		{"1 + two * 3", "7", "7"},
		{"2 * two^3", "16", "16"},
		{"wall(abs(x)) * 2", "0", "4"},
		{"wall(2)", "1.5", "1.5"},
	} {
		b, e := correct.Eval(formula(c.text), tunnel())
		isBox(t, c.text, b, e, c.lo, c.hi)
	}
	e := tunnel()
	e.Grid = num("1")
	b, err := correct.Eval(formula("sqrt(two)"), e)
	isBox(t, "a coarse grid", b, err, "1", "2")
	b, err = correct.Eval(formula("n39 + n0"), correct.Env{Values: values(api.MaxNamed), Tables: tables(api.MaxTables), Grid: num("1")})
	isBox(t, "the last value", b, err, "39", "39")
	last := straight(api.MaxKnots)
	b, err = correct.Eval(formula("straight(38.5)"), correct.Env{Tables: append(tables(api.MaxTables-1), last), Grid: num("1")})
	isBox(t, "the last table", b, err, "77", "77")
}

// P7.4, R1
func TestEvalErrors(t *testing.T) {
	for _, c := range []struct {
		text string
		want api.Errno
	}{
		{"1 / x", api.ErrZero},
		{"1 / zero", api.ErrZero},
		{"zero / zero", api.ErrZero},
		{"zero * (1 / x)", api.ErrZero},
		{"sqrt(x)", api.ErrMinus},
		{"sqrt(-two)", api.ErrMinus},
		{"wall(x)", api.ErrDomain},
		{"wall(four)", api.ErrDomain},
		{"wall(-0.1)", api.ErrDomain},
		{"nobody", api.ErrNone},
		{"hall(two)", api.ErrNone},
		{"two(two)", api.ErrNone}, // a value is no table
		{"nobody^0", api.ErrNone},
		{"-nobody", api.ErrNone},
		{"abs(nobody)", api.ErrNone},
		{"wall(nobody)", api.ErrNone},
		{"1 / x + nobody", api.ErrNone},
		{"sqrt(x) * hall(two)", api.ErrNone},
		{"hall(1 / x)", api.ErrNone},
		{"sqrt(x) + 1 / x", api.ErrMinus},
		{"1 / x + sqrt(x)", api.ErrZero},
		{"1 / x + wall(x)", api.ErrZero},
		{"wall(x) + 1 / x", api.ErrDomain},
		{"wall(x) - sqrt(x)", api.ErrDomain},
		{"sqrt(x) - wall(x)", api.ErrMinus},
		{"sqrt(x) / x", api.ErrMinus},
		{"wall(four) / zero", api.ErrDomain},
		{"1 / wall(x)", api.ErrDomain},
		{"1 / (zero * wall(x))", api.ErrDomain},
		{"wall(1 / x)", api.ErrZero},
		{"sqrt(wall(x))", api.ErrDomain},
		{"sqrt(-1 / x)", api.ErrZero},
		{"abs(sqrt(x))", api.ErrMinus},
		{"-sqrt(x)", api.ErrMinus},
		{"wall(x)^2", api.ErrDomain},
		{"1 - (2 - sqrt(x))", api.ErrMinus},
		{"1 - (sqrt(x) - wall(x))", api.ErrMinus},
	} {
		b, e := correct.Eval(formula(c.text), tunnel())
		isError(t, c.text, e, c.want, b)
	}
	for what, e := range wrongEnvs() {
		for _, s := range []string{"0", "1 / 0", "nobody", "hall(1)"} {
			b, err := correct.Eval(formula(s), e)
			isError(t, what, err, api.ErrArg, b)
		}
	}
}

// P7.4: the value is that of a tree that is computed by the operations of chapter 1, and the error is its first one.
func TestEvalTrees(t *testing.T) {
	random := rand.New(rand.NewPCG(7, 4))
	found := map[api.Errno]int{}
	for range 8000 {
		tree, e := anyTree(random, 5), anyEnv(random)
		text := tree.full(none)
		if len(text) > api.MaxFormula {
			continue
		}
		want, wanted := tree.value(e)
		got, err := correct.Eval(formula(text), e)
		found[err]++
		if err != wanted || !got.Equal(want) {
			t.Fatalf("%s with %v: %v, error %d, instead of %v, error %d", text, e, got, err, want, wanted)
		}
	}
	for _, e := range []api.Errno{api.OK, api.ErrZero, api.ErrMinus, api.ErrDomain} {
		if found[e] < 300 {
			t.Errorf("few with the error %d: %d", e, found[e])
		}
	}
}

// P7.5
func TestSplit(t *testing.T) {
	for _, c := range []struct {
		text, name string
		parts      int
		lo, hi     string
	}{
		{"x * x", "x", 2, "-0.5", "4"}, // example 2
		{"x * x", "x", 3, "0", "4"},
		{"x * x", "x", 1, "-2", "4"},
		{"x * x", "two", 256, "-2", "4"},
		{"x - x", "x", 256, "-0.01171875", "0.01171875"},
		{"two", "x", 7, "2", "2"},
		{"1", "x", 2, "1", "1"},
		{"x * two", "two", 256, "-2", "4"},
		{"x^3 - x", "x", 3, "-1", "7"},
	} {
		b, e := correct.Split(formula(c.text), tunnel(), c.name, c.parts)
		isBox(t, c.text, b, e, c.lo, c.hi)
	}
	for _, c := range []struct {
		text, name string
		parts      int
		want       api.Errno
	}{
		{"x", "y", 3, api.ErrNone},
		{"x", "", 3, api.ErrNone},
		{"wall(two)", "hall", 3, api.ErrNone},
		{"x", "X", 0, api.ErrNone},
		{"x", "y", 0, api.ErrNone},
		{"y", "y", 257, api.ErrNone},
		{"x", "x", 0, api.ErrRange},
		{"x", "x", -1, api.ErrRange},
		{"x", "x", 257, api.ErrRange},
		{"nobody", "x", 257, api.ErrRange},
		{"1 / zero", "x", 0, api.ErrRange},
		{"nobody", "x", 256, api.ErrNone},
		{"hall(x)", "x", 3, api.ErrNone},
		{"1 / x", "x", 3, api.ErrZero},
		{"1 / zero", "x", 3, api.ErrZero},
		{"sqrt(x - 1) + 1 / (x - 2)", "x", 3, api.ErrMinus}, // the first part has one error, the last one another
		{"sqrt(1 - x) + 1 / (x + 1)", "x", 3, api.ErrZero},
		{"sqrt(1 - x)", "x", 3, api.ErrMinus}, // of the last part alone
		{"wall(wall + 1)", "wall", 5, api.ErrDomain},
	} {
		b, e := correct.Split(formula(c.text), tunnel(), c.name, c.parts)
		isError(t, c.text, e, c.want, b)
	}
	for what, e := range wrongEnvs() {
		for _, parts := range []int{0, 1} {
			b, err := correct.Split(formula("n0"), e, "y", parts)
			isError(t, what, err, api.ErrArg, b)
		}
	}
}

// P7.5: Split is the hull of what Eval returns for each part; x / x can be computed for some numbers of parts only.
func TestSplitParts(t *testing.T) {
	random := rand.New(rand.NewPCG(7, 5))
	found := map[api.Errno]int{}
	for range 2000 {
		tree, e := anyTree(random, 4), anyEnv(random)
		f, name, n := formula(tree.full(none)), anyOf(random, "x", "y", "z"), 1+random.IntN(6)
		var want exact.Box
		var wanted api.Errno
		for i := range n {
			part := replaced(e, func(b exact.Box) exact.Box { return b })
			for k, v := range e.Values {
				if v.Name == name {
					step := quotient(v.Box.Width(), whole(n))
					part.Values[k].Box = between(v.Box.Lo().Add(step.Mul(whole(i))), v.Box.Lo().Add(step.Mul(whole(i+1))))
				}
			}
			b, err := correct.Eval(f, part)
			if err != api.OK {
				want, wanted = exact.Box{}, err
				break
			}
			if i == 0 {
				want = b
			}
			want = want.Hull(b)
		}
		got, err := correct.Split(f, e, name, n)
		found[err]++
		if err != wanted || !got.Equal(want) {
			t.Fatalf("%s with %v in %d parts of %s: %v, error %d, instead of %v, error %d", f, e, n, name, got, err, want, wanted)
		}
	}
	if len(found) != 4 {
		t.Error("not all errors:", found)
	}
}

// P7.6
func TestBudget(t *testing.T) {
	l, e := correct.Budget(formula("f / (q * s)"), tunnel()) // example 4
	areNamed(t, "example 4", l, e, "f", "0.99", "1.01", "q", "1", "1", "s", "20/21", "20/19")
	l, e = correct.Budget(formula("x * x + two"), tunnel())
	areNamed(t, "the same value twice", l, e, "two", "2.25", "2.25", "x", "0", "6")
	l, e = correct.Budget(formula("s - x"), tunnel())
	areNamed(t, "in the order of the names", l, e, "s", "1.4", "1.6", "x", "0", "3")
	l, e = correct.Budget(formula("wall(wall)"), tunnel())
	areNamed(t, "a value and a table", l, e, "wall", "1", "2")
	l, e = correct.Budget(formula("wall(2) + sqrt(2)"), tunnel())
	areNamed(t, "no values", l, e)
	l, e = correct.Budget(correct.Formula{}, tunnel())
	areNamed(t, "the formula 0", l, e)
	for text, want := range map[string]api.Errno{
		"1 / x":                    api.ErrZero, // though the middle is not 0
		"1 / (two + x - 2)":        api.ErrZero,
		"sqrt(x)":                  api.ErrMinus,
		"wall(four)":               api.ErrDomain,
		"nobody":                   api.ErrNone,
		"x + hall(1)":              api.ErrNone,
		"1 / x + sqrt(x) + nobody": api.ErrNone,
	} {
		l, e := correct.Budget(formula(text), tunnel())
		isError(t, text, e, want, l)
	}
	for what, e := range wrongEnvs() {
		l, err := correct.Budget(formula("nobody"), e)
		isError(t, what, err, api.ErrArg, l)
	}
}
