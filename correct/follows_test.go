package correct_test

import (
	"fmt"
	"math/rand/v2"
	"strings"
	"testing"

	"venturi/api"
	"venturi/correct"
	"venturi/exact"
)

// tested is a formula with an environment in which it has no error.
type tested struct {
	formula correct.Formula
	env     correct.Env
	result  exact.Box
}

// anyTested returns such formulas.
func anyTested(r *rand.Rand, n int) []tested {
	var l []tested
	for len(l) < n {
		text, e := anyTree(r, 4).full(none), anyEnv(r)
		if len(text) > api.MaxFormula {
			continue
		}
		f := formula(text)
		if b, err := correct.Eval(f, e); err == api.OK && len(f.Names()) > 0 {
			l = append(l, tested{f, e, b})
		}
	}
	return l
}

// P7.10
func TestEnclosures(t *testing.T) {
	random := rand.New(rand.NewPCG(7, 10))
	for _, c := range anyTested(random, 1500) {
		single := replaced(c.env, func(b exact.Box) exact.Box { return exact.Point(within(random, b)) })
		inside := replaced(c.env, func(b exact.Box) exact.Box { return smaller(random, b) })
		for _, e := range []correct.Env{single, inside} {
			if b, err := correct.Eval(c.formula, e); err != api.OK || !b.Inside(c.result) {
				t.Fatalf("%v with %v: %v, error %d, is not inside %v", c.formula, e, b, err, c.result)
			}
		}
		b, _ := correct.Eval(c.formula, single)
		if !strings.Contains(c.formula.String(), "sqrt") && b.Width().Sign() != 0 {
			t.Fatalf("%v with %v: %v is more than a number", c.formula, single, b)
		}
		n, times := 1+random.IntN(4), 1+random.IntN(3)
		name := anyOf(random, c.formula.Names()...)
		few, err := correct.Split(c.formula, c.env, name, n)
		if err != api.OK || !few.Inside(c.result) {
			t.Fatalf("%v with %v: Split %v, error %d, is not inside %v", c.formula, c.env, few, err, c.result)
		}
		many, err := correct.Split(c.formula, c.env, name, n*times)
		if err != api.OK || !many.Inside(few) {
			t.Fatalf("%v with %v: Split %v, error %d, is not inside %v", c.formula, c.env, many, err, few)
		}
	}
}

// P7.12, P7.6: each box is inside the result, and it is that of Eval with the others in their middles.
func TestBudgets(t *testing.T) {
	random := rand.New(rand.NewPCG(7, 12))
	for _, c := range anyTested(random, 1000) {
		budget, err := correct.Budget(c.formula, c.env)
		if err != api.OK || len(budget) != len(c.formula.Names()) {
			t.Fatalf("%v with %v: %v, error %d", c.formula, c.env, budget, err)
		}
		for i, name := range c.formula.Names() {
			alone := replaced(c.env, func(b exact.Box) exact.Box { return exact.Point(b.Mid()) })
			for k, v := range c.env.Values {
				if v.Name == name {
					alone.Values[k].Box = v.Box
				}
			}
			want, err := correct.Eval(c.formula, alone)
			if got := budget[i]; err != api.OK || got.Name != name || !got.Box.Equal(want) || !got.Box.Inside(c.result) {
				t.Fatalf("%v with %v: the budget %v instead of %v", c.formula, c.env, budget, want)
			}
		}
	}
}

// anyChain returns a chain that is valid for the inputs x, y and z.
func anyChain(r *rand.Rand) []correct.Step {
	text := func(known []string) string {
		for {
			s := anyTree(r, 3).full(none)
			for _, name := range []string{"x", "y"} { // the results of steps replace some of the inputs
				if other := anyOf(r, known...); r.IntN(2) == 0 && !strings.Contains(s, name+"(") {
					s = strings.ReplaceAll(s, name, other)
				}
			}
			if len(s) <= api.MaxFormula {
				return s
			}
		}
	}
	known := []string{"x", "y", "z"}
	var chain []correct.Step
	for i := range 1 + r.IntN(4) {
		s := step(fmt.Sprint("k", i), text(known))
		for range r.IntN(3) {
			s = where(s, text(known), anyOf(r, "-1000", "-10", "-1"), anyOf(r, "0", "5", "1000"))
		}
		chain = append(chain, s)
		known = append(known, s.Name)
	}
	return chain
}

// P7.11, P7.8: the results are those of single steps by Eval, with their conditions; and what holds for boxes holds for their numbers.
func TestDomains(t *testing.T) {
	random := rand.New(rand.NewPCG(7, 11))
	found := map[api.Errno]int{}
	for range 6000 {
		chain, e := anyChain(random), anyEnv(random)
		results, at, err := correct.Run(chain, e)
		wanted, place, wrong := byHand(chain, e)
		if err != wrong || at != place || !same(results, wanted) {
			t.Fatalf("%v with %v: %v, %d, error %d, instead of %v, %d, error %d", chain, e, results, at, err, wanted, place, wrong)
		}
		found[err]++
		if err != api.OK {
			continue
		}
		for range 3 {
			single := replaced(e, func(b exact.Box) exact.Box { return exact.Point(within(random, b)) })
			numbers, _, err := correct.Run(chain, single)
			if err != api.OK || len(numbers) != len(results) {
				t.Fatalf("%v with %v: error %d, with numbers only", chain, single, err)
			}
			for i, v := range numbers {
				if v.Name != chain[i].Name || !v.Box.Inside(results[i].Box) {
					t.Fatalf("%v with %v: %v is not inside %v", chain, single, numbers, results)
				}
			}
		}
	}
	for _, e := range []api.Errno{api.OK, api.ErrZero, api.ErrMinus, api.ErrDomain} {
		if found[e] < 200 {
			t.Errorf("few with the error %d: %d", e, found[e])
		}
	}
}

// byHand carries out a chain by calls of Eval.
func byHand(chain []correct.Step, e correct.Env) ([]correct.Named, int, api.Errno) {
	given := len(e.Values)
	for i, s := range chain {
		at := func(e api.Errno) int {
			if e == api.ErrDomain {
				return i
			}
			return 0
		}
		for _, c := range s.Domain {
			b, err := correct.Eval(c.Formula, e)
			if err != api.OK {
				return nil, at(err), err
			}
			if b.Lo().Cmp(c.Lo) < 0 || b.Hi().Cmp(c.Hi) > 0 {
				return nil, i, api.ErrDomain
			}
		}
		b, err := correct.Eval(s.Formula, e)
		if err != api.OK {
			return nil, at(err), err
		}
		e.Values = append(e.Values[:len(e.Values):len(e.Values)], correct.Named{Name: s.Name, Box: b})
	}
	return e.Values[given:], 0, api.OK
}

// same reports whether two lists have the same values.
func same(a, b []correct.Named) bool {
	if len(a) != len(b) {
		return false
	}
	for i, v := range a {
		if v.Name != b[i].Name || !v.Box.Equal(b[i].Box) {
			return false
		}
	}
	return true
}
