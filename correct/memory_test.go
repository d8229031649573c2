package correct_test

import (
	"math"
	"math/rand/v2"
	"reflect"
	"strings"
	"testing"

	"venturi/api"
	"venturi/correct"
	"venturi/exact"
)

// memory returns where all lists in a value are, those of the digits of numbers too, and all parts of formulas.
func memory(v reflect.Value) []uintptr {
	var found []uintptr
	switch v.Kind() {
	case reflect.Interface:
		return memory(v.Elem())
	case reflect.Pointer:
		if !v.IsNil() {
			return append(memory(v.Elem()), v.Pointer())
		}
	case reflect.Slice:
		if v.Len() > 0 {
			found = append(found, v.Pointer())
		}
		for i := range v.Len() {
			found = append(found, memory(v.Index(i))...)
		}
	case reflect.Struct:
		for i := range v.NumField() {
			found = append(found, memory(v.Field(i))...)
		}
	}
	return found
}

// apart checks that a result shares no memory with an argument, nor with itself.
func apart(t *testing.T, what string, arguments, result any) {
	t.Helper()
	seen := map[uintptr]bool{}
	for _, p := range memory(reflect.ValueOf(arguments)) {
		seen[p] = true
	}
	for _, p := range memory(reflect.ValueOf(result)) {
		if seen[p] {
			t.Errorf("%s shares memory", what)
		}
		seen[p] = true
	}
}

// given is all that the functions get.
type given struct {
	Formula correct.Formula
	Env     correct.Env
	Chain   []correct.Step
	Inputs  []string
	Box     exact.Box
}

// anyGiven returns the same as another call with the same numbers, in new memory.
func anyGiven(a, b uint64) given {
	r := rand.New(rand.NewPCG(a, b))
	f := formula(anyOf(r, "x", "2", "abs(x)", "-x", "t(1)", "x + 0", "x * 1", "x / 1", "x^1", "sqrt(abs(x))", "--y", "y - 0"))
	if r.IntN(2) == 0 {
		f = formula(anyTree(r, 3).full(none))
	}
	return given{f, anyEnv(r), append(anyChain(r), step("same", "x"), step("again", "same")), []string{"x", "y", "z"}, anyBox(r)}
}

// R4: results are new memory, and no argument is changed.
func TestMemory(t *testing.T) {
	ran, known := 0, 0
	for k := range uint64(500) {
		g, before := anyGiven(k, 7), anyGiven(k, 7)
		check := func(what string, results ...any) { t.Helper(); apart(t, what, g, results) }
		check("Names, Tables", g.Formula.Names(), g.Formula.Tables(), g.Formula.Names(), g.Formula.Tables())
		correct.CheckEnv(g.Env)
		look, _ := correct.Look(g.Env.Tables[0], g.Box)
		value, e := correct.Eval(g.Formula, g.Env)
		if e == api.OK {
			known++
		}
		split, _ := correct.Split(g.Formula, g.Env, "x", 1)
		parts, _ := correct.Split(g.Formula, g.Env, "y", 2)
		budget, _ := correct.Budget(g.Formula, g.Env)
		check("Look, Eval, Split, Budget", look, value, split, parts, budget)
		correct.CheckChain(g.Inputs, g.Chain)
		results, _, e := correct.Run(g.Chain, g.Env)
		check("Run", results)
		if e == api.OK {
			ran++
		}
		if !reflect.DeepEqual(g, before) {
			t.Fatal("an argument was changed", g, before)
		}
	}
	if ran < 50 || known < 50 {
		t.Error("few had no error:", ran, known)
	}
}

// R4: a change of a result changes no other one.
func TestNewEachTime(t *testing.T) {
	f := formula("a + b * t(c) - u(1)")
	f.Names()[0], f.Tables()[0] = "z", "z"
	if f.Names()[0] != "a" || f.Tables()[0] != "t" || f.String() != "a + b * t(c) - u(1)" {
		t.Error("the formula was changed:", f, f.Names(), f.Tables())
	}
	given := env(named("m", "0.5", "0.6"))
	l, e := correct.Budget(formula("m"), given)
	l[0] = named("z", "7", "8")
	l, e = correct.Budget(formula("m"), given)
	areNamed(t, "Budget", l, e, "m", "0.5", "0.6")
}

// P1: texts and lists of any length, and long numbers, end without a panic.
func TestAnyValue(t *testing.T) {
	const many = 1000000
	for _, s := range []string{"(", "-", "a", "01", "1.", "^", " ", "\xff", "sqrt(", "+", "a+", "é"} {
		f, e := correct.Parse(strings.Repeat(s, many))
		isError(t, "a long text", e, api.ErrLong, f)
		f, e = correct.Parse(strings.Repeat(s, api.MaxFormula/len(s)))
		isError(t, "many times "+s, e, api.ErrForm, f)
	}
	long := strings.Repeat("a+", 199) + "a"
	if f, e := correct.Parse(long); e != api.OK || f.String() != strings.ReplaceAll(long, "+", " + ") {
		t.Error("the text of a long formula", f, e)
	}
	nines := strings.Repeat("9", 400)
	if f, e := correct.Parse(nines); e != api.OK || f.String() != nines {
		t.Error("a long number", f, e)
	}
	name := strings.Repeat("a", many)
	isError(t, "many values", correct.CheckEnv(correct.Env{Values: make([]correct.Named, many), Grid: num("1")}), api.ErrArg)
	isError(t, "many tables", correct.CheckEnv(correct.Env{Tables: make([]correct.Table, many), Grid: num("1")}), api.ErrArg)
	isError(t, "a long name", correct.CheckEnv(correct.Env{Values: []correct.Named{named(name, "0", "1")}, Grid: num("1")}), api.ErrArg)
	b, e := correct.Look(correct.Table{Name: "t", X: make([]exact.Num, many), Y: make([]exact.Num, many)}, exact.Box{})
	isError(t, "many knots", e, api.ErrArg, b)
	isError(t, "many steps", correct.CheckChain(nil, make([]correct.Step, many)), api.ErrArg)
	isError(t, "many inputs", correct.CheckChain(make([]string, many), nil), api.ErrArg)
	wide := []correct.Step{{Name: "k", Domain: make([]correct.Condition, many)}}
	isError(t, "many conditions", correct.CheckChain(nil, wide), api.ErrArg)
	for _, n := range []int{math.MinInt, -1, 0, 257, math.MaxInt} {
		b, e := correct.Split(formula("m"), env(named("m", "0", "1")), "m", n)
		isError(t, "parts", e, api.ErrRange, b)
	}
	b, e = correct.Split(formula("m"), env(named("m", "0", "1")), name, 1)
	isError(t, "a long name", e, api.ErrNone, b)

	tiny, huge := "1/1"+strings.Repeat("0", 300), "1"+strings.Repeat("0", 300)
	far := correct.Env{Values: []correct.Named{named("a", tiny, tiny), named("b", "-"+huge, huge)}, Grid: num(huge)}
	far.Tables = []correct.Table{{Name: "t", X: nums("-"+huge, tiny, huge), Y: nums("0", huge, tiny)}}
	b, e = correct.Eval(formula("b * a - b / a"), far)
	isBox(t, "long numbers", b, e, "-1"+strings.Repeat("0", 599)+"1", "1"+strings.Repeat("0", 599)+"1")
	b, e = correct.Eval(formula("t(b) + sqrt(a)"), far)
	isBox(t, "a wide table", b, e, "0", "2"+strings.Repeat("0", 300))
	b, e = correct.Split(formula("(((m^64)^4)^2 - m)^2"), env(named("m", "0", "2")), "m", 256)
	if e != api.OK || b.Lo().Sign() < 0 {
		t.Error("long powers", e)
	}
}
