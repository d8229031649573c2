package correct_test

import (
	"fmt"
	"slices"
	"testing"

	"venturi/api"
	"venturi/correct"
)

// step returns a step without conditions.
func step(name, text string) correct.Step {
	return correct.Step{Name: name, Formula: formula(text)}
}

// where returns the same step with one more condition.
func where(s correct.Step, text, lo, hi string) correct.Step {
	s.Domain = append(slices.Clone(s.Domain), correct.Condition{Formula: formula(text), Lo: num(lo), Hi: num(hi)})
	return s
}

// example returns the chain of example 5, with one more step.
func example() []correct.Step {
	return []correct.Step{where(step("k", "1 + 0.1 * m^2"), "m", "0", "0.8"), step("c", "k * m")}
}

// doubled returns n steps, each of which doubles the value before it; the first one is m.
func doubled(n int) []correct.Step {
	var l []correct.Step
	before := "m"
	for i := range n {
		l = append(l, step(fmt.Sprint("d", i), "2 * "+before))
		before = l[i].Name
	}
	return l
}

// wrongChains returns chains that are not valid for the inputs m and q, which are called with valid tables.
func wrongChains() map[string][]correct.Step {
	good := step("k", "m")
	l := map[string][]correct.Step{
		"too many steps":              doubled(api.MaxSteps + 1),
		"an input's name":             {step("q", "m")},
		"an earlier step's name":      {good, step("k", "m")},
		"an earlier name later":       {good, step("c", "m"), step("k", "m")},
		"an unknown value":            {step("k", "m + nobody")},
		"itself":                      {step("k", "k")},
		"a later step":                {step("c", "k"), good},
		"an unknown value later":      {good, step("c", "k * nobody")},
		"a table as a value":          {step("k", "wall")},
		"a condition unknown":         {where(good, "nobody", "0", "1")},
		"a condition with itself":     {where(good, "k", "0", "1")},
		"a condition with later":      {where(step("c", "m"), "k", "0", "1"), good},
		"a second condition unknown":  {where(where(good, "m", "0", "1"), "nobody", "0", "1")},
		"a condition turned":          {where(good, "m", "1", "0.99")},
		"a second condition turned":   {where(where(good, "m", "0", "1"), "m", "0", "-1/1000")},
		"a condition of a later step": {good, where(step("c", "m"), "m", "1", "0")},
		"too many conditions":         {{Name: "k", Formula: formula("m"), Domain: make([]correct.Condition, api.MaxDomain+1)}},
	}
	for _, name := range wrongNames() {
		l["the name "+fmt.Sprintf("%q", name)] = []correct.Step{{Name: name, Formula: formula("m")}}
	}
	return l
}

// P7.7
func TestCheckChain(t *testing.T) {
	full := where(step("k", "m"), "q", "1", "1")
	for range api.MaxDomain - 1 {
		full = where(full, "m - q", "-1", "1/3")
	}
	for what, c := range map[string]struct {
		inputs []string
		chain  []correct.Step
	}{
		"nothing":                  {},
		"an input":                 {inputs: []string{"m"}},
		"example 5":                {[]string{"m"}, example()},
		"an unused input":          {[]string{"q", "m"}, example()},
		"no values":                {nil, []correct.Step{step("k", "1"), step("c", "k")}},
		"most inputs":              {names(api.MaxNamed), []correct.Step{step("k", "n0 + n39")}},
		"most steps":               {[]string{"m"}, doubled(api.MaxSteps)},
		"most conditions":          {[]string{"m", "q"}, []correct.Step{full}},
		"a table that none has":    {[]string{"m"}, []correct.Step{step("k", "nobody(m)")}},
		"a step named like one":    {[]string{"m"}, []correct.Step{step("wall", "wall(m)")}},
		"a step without a formula": {[]string{"m"}, []correct.Step{{Name: "k"}}},
		"a zero condition":         {[]string{"m"}, []correct.Step{{Name: "k", Domain: make([]correct.Condition, 1)}}},
	} {
		isError(t, what, correct.CheckChain(c.inputs, c.chain), api.OK)
	}
	for what, chain := range wrongChains() {
		isError(t, what, correct.CheckChain([]string{"m", "q"}, chain), api.ErrArg)
	}
	isError(t, "too many inputs", correct.CheckChain(names(api.MaxNamed+1), nil), api.ErrArg)
	isError(t, "equal inputs", correct.CheckChain([]string{"m", "q", "m"}, example()), api.ErrArg)
	isError(t, "no input", correct.CheckChain(nil, example()), api.ErrArg)
	for _, name := range wrongNames() {
		isError(t, name, correct.CheckChain([]string{"m", name}, example()), api.ErrArg)
	}
	for _, name := range rightNames() {
		isError(t, name, correct.CheckChain([]string{name}, []correct.Step{step("k", name)}), api.OK)
		isError(t, name, correct.CheckChain([]string{"m"}, []correct.Step{step(name, "m")}), api.OK)
	}
}

// P7.8
func TestRun(t *testing.T) {
	r, at, e := correct.Run(example()[:1], env(named("m", "0.5", "0.6"))) // example 5
	areNamed(t, "example 5", r, e, "k", "1.025", "1.036")
	isError(t, "the place", api.OK, api.OK, at)
	r, _, e = correct.Run(example(), env(named("m", "0.5", "0.6")))
	areNamed(t, "and the next step", r, e, "k", "1.025", "1.036", "c", "0.5125", "0.6216")
	r, _, e = correct.Run(example(), env(named("m", "0", "0.8")))
	areNamed(t, "the whole domain", r, e, "k", "1", "1.064", "c", "0", "0.8512")
	r, at, e = correct.Run(nil, env(named("m", "0.5", "0.6")))
	areNamed(t, "no steps", r, e)
	isError(t, "the place", api.OK, api.OK, at)
	r, _, e = correct.Run([]correct.Step{step("k", "1"), where(step("wall", "wall(k)"), "k", "1", "1"), step("b", "sqrt(wall)")}, env())
	areNamed(t, "no values", r, e, "k", "1", "1", "wall", "2", "2", "b", "1.4", "1.5")
	deep := where(where(step("k", "m"), "m", "0", "1"), "wall(m) - 1", "-1", "0")
	r, _, e = correct.Run([]correct.Step{deep}, env(named("m", "0", "0.5")))
	areNamed(t, "two conditions", r, e, "k", "0", "0.5")

	most := correct.Env{Values: append(values(api.MaxNamed-1), named("m", "1", "2")), Grid: num("1")}
	r, at, e = correct.Run(doubled(api.MaxSteps), most)
	if e != api.OK || at != 0 || len(r) != api.MaxSteps || !r[19].Box.Equal(span("1048576", "2097152")) {
		t.Error("more than MaxNamed values:", r, at, e)
	}
}

// P7.8, R1
func TestRunErrors(t *testing.T) {
	given := env(named("m", "0.5", "0.9"), named("q", "-1", "1"))
	good := step("g", "m")
	for _, c := range []struct {
		what  string
		chain []correct.Step
		at    int
		want  api.Errno
	}{
		{"example 5", example(), 0, api.ErrDomain},
		{"a condition of the second step", append([]correct.Step{good}, example()...), 1, api.ErrDomain},
		{"of the last step", append(doubled(api.MaxSteps-1), where(step("k", "m"), "m", "0.5", "0.8999")), 19, api.ErrDomain},
		{"below the domain", []correct.Step{good, where(step("k", "m"), "m", "0.5001", "1")}, 1, api.ErrDomain},
		{"wholly outside", []correct.Step{good, where(step("k", "m"), "m", "5", "6")}, 1, api.ErrDomain},
		{"one number within the value", []correct.Step{good, where(step("k", "m"), "m", "0.7", "0.7")}, 1, api.ErrDomain},
		{"the second condition", []correct.Step{good, where(where(step("k", "m"), "m", "0", "1"), "q", "0", "1")}, 1, api.ErrDomain},
		{"a condition on a result", []correct.Step{good, step("h", "g + 1"), where(step("k", "m"), "h", "0", "1")}, 2, api.ErrDomain},
		{"a table", []correct.Step{good, step("k", "wall(q)")}, 1, api.ErrDomain},
		{"a table in a condition", []correct.Step{good, where(step("k", "m"), "wall(q)", "0", "1")}, 1, api.ErrDomain},
		{"no such table", []correct.Step{good, step("k", "hall(m)")}, 0, api.ErrNone},
		{"no such table in a condition", []correct.Step{good, where(step("k", "m"), "hall(m)", "0", "1")}, 0, api.ErrNone},
		{"over 0", []correct.Step{good, step("k", "1 / q")}, 0, api.ErrZero},
		{"over 0 in a condition", []correct.Step{good, where(step("k", "m"), "1 / q", "0", "1")}, 0, api.ErrZero},
		{"a root", []correct.Step{good, step("k", "sqrt(q)")}, 0, api.ErrMinus},
		{"a condition before the formula", []correct.Step{good, where(step("k", "1 / q"), "m", "0", "0.8")}, 1, api.ErrDomain},
		{"a condition's table before the formula", []correct.Step{where(step("k", "1 / q"), "hall(m)", "0", "1")}, 0, api.ErrNone},
		{"the first condition decides", []correct.Step{good, where(where(step("k", "m"), "sqrt(q)", "0", "1"), "m", "0", "0.8")}, 0, api.ErrMinus},
		{"the first condition does not hold", []correct.Step{good, where(where(step("k", "m"), "m", "0", "0.8"), "sqrt(q)", "0", "1")}, 1, api.ErrDomain},
		{"an earlier step decides", []correct.Step{step("k", "1 / q"), where(good, "m", "0", "0.8")}, 0, api.ErrZero},
		{"a later table", []correct.Step{where(good, "m", "0", "0.8"), step("k", "hall(m)")}, 0, api.ErrDomain},
	} {
		r, at, e := correct.Run(c.chain, given)
		isError(t, c.what, e, c.want, r)
		if at != c.at {
			t.Errorf("%s: the step %d", c.what, at)
		}
	}
	for what, chain := range wrongChains() {
		r, at, e := correct.Run(chain, given)
		isError(t, what, e, api.ErrArg, r, at)
		r, at, e = correct.Run(append([]correct.Step{step("first", "1 / q")}, chain...), given)
		isError(t, what+" behind an error", e, api.ErrArg, r, at)
	}
	r, at, e := correct.Run(example(), env(named("k", "0", "1"), named("m", "0", "0.1")))
	isError(t, "a step named like a value", e, api.ErrArg, r, at)
	for what, e := range wrongEnvs() {
		for _, chain := range [][]correct.Step{nil, {where(step("k", "1"), "2", "0", "1")}} {
			r, at, err := correct.Run(chain, e)
			isError(t, what, err, api.ErrArg, r, at)
		}
	}
}

// P7.8: a step is not in force beyond its run, and results replace nothing.
func TestRunTwice(t *testing.T) {
	given := env(named("m", "0.5", "0.6"))
	for range 2 {
		r, _, e := correct.Run(example(), given)
		areNamed(t, "Run", r, e, "k", "1.025", "1.036", "c", "0.5125", "0.6216")
	}
	b, e := correct.Eval(formula("k"), given)
	isError(t, "a result is no value of the environment", e, api.ErrNone, b)
	if len(given.Values) != 1 || !given.Values[0].Box.Equal(span("0.5", "0.6")) {
		t.Error("the environment was changed:", given)
	}
}
