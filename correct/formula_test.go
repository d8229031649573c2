package correct_test

import (
	"math/rand/v2"
	"regexp"
	"slices"
	"strings"
	"testing"

	"venturi/api"
	"venturi/correct"
)

// P7.1, P7.9
func TestParse(t *testing.T) {
	for _, c := range []struct{ text, want string }{
		{" 1+2*x^2 /y ", "1 + 2 * x^2 / y"}, // example 1
		{"(a*b)+c", "a * b + c"},
		{"a-(b-c)", "a - (b - c)"},
		{"--a", "--a"},
		{"-a^2", "-a^2"},
		{"-(a)*b", "-a * b"},
		{"a*(b*c)", "a * (b * c)"}, // the parentheses that P7.1 names
		{"(-a)^2", "(-a)^2"},
		{"(a^2)^3", "(a^2)^3"},
		{"-(a*b)", "-(a * b)"},
		{"(a)", "a"},
		{"((a)+(2))", "a + 2"},
		{"a+(b+c)", "a + (b + c)"},
		{"a+(b-c)", "a + (b - c)"},
		{"(a+b)-c", "a + b - c"},
		{"(a-b)+c", "a - b + c"},
		{"a+(b*c)", "a + b * c"},
		{"a-(b/c)", "a - b / c"},
		{"(a+b)*c", "(a + b) * c"},
		{"a/(b-c)", "a / (b - c)"},
		{"(a*b)/c", "a * b / c"},
		{"(a/b)*c", "a / b * c"},
		{"a/(b*c)", "a / (b * c)"},
		{"a*(b/c)", "a * (b / c)"},
		{"a*(-b)", "a * -b"},
		{"(-a)*b", "-a * b"},
		{"-(a/b)", "-(a / b)"},
		{"-(a+b)", "-(a + b)"},
		{"-(a-b)", "-(a - b)"},
		{"-(a^2)", "-a^2"},
		{"-(-a)", "--a"},
		{"a-(-b)", "a - -b"},
		{"a+(-b)", "a + -b"},
		{"(-a)-b", "-a - b"},
		{"(a+b)^2", "(a + b)^2"},
		{"(a*b)^2", "(a * b)^2"},
		{"a*(b^2)", "a * b^2"},
		{"(a)^2", "a^2"},
		{"(2)^2", "2^2"},
		{"(t(a))^2", "t(a)^2"},
		{"(sqrt(a))^2", "sqrt(a)^2"},
		{"sqrt((a+b))", "sqrt(a + b)"},
		{"abs(-(a))", "abs(-a)"},
		{"t((a)*(b))", "t(a * b)"},
		{"t(t(a))", "t(t(a))"},
		{"a^0", "a^0"},
		{"a^1", "a^1"},
		{"a^64", "a^64"},
		{"2^3", "2^3"},
		{"-2^2", "-2^2"},
		{"0", "0"},
		{"0.0", "0"},
		{"0.50", "0.5"},
		{"12.0", "12"},
		{"1000000000000000000000.000000000000000000001", "1000000000000000000000.000000000000000000001"},
		{"x2", "x2"},
		{"a_0", "a_0"},
		{"abs2", "abs2"},
		{"sqrtx(absx)", "sqrtx(absx)"},
		{"sqrt2(a)", "sqrt2(a)"},
		{"x+x(x)", "x + x(x)"},
		{" sqrt ( a ) ^ 2 ", "sqrt(a)^2"},
		{"  t  (  -  a  )  -  -  1  ", "t(-a) - -1"},
		{strings.Repeat("a", 20), strings.Repeat("a", 20)},
		{strings.Repeat("(", 20) + "a" + strings.Repeat(")", 20), "a"},
		{strings.Repeat("-", 20) + "a", strings.Repeat("-", 20) + "a"},
		{strings.Repeat("-(", 10) + "a" + strings.Repeat(")", 10), strings.Repeat("-", 10) + "a"},
		{strings.Repeat("sqrt(", 20) + "a" + strings.Repeat(")", 20), strings.Repeat("sqrt(", 20) + "a" + strings.Repeat(")", 20)},
		{"-a*-a" + strings.Repeat("*-a", 30), "-a * -a" + strings.Repeat(" * -a", 30)},
		{"(a)" + strings.Repeat("+(a)", 30), "a" + strings.Repeat(" + a", 30)},
		{strings.Repeat(" ", 399) + "x", "x"},
	} {
		f, e := correct.Parse(c.text)
		if e != api.OK || f.String() != c.want {
			t.Errorf("Parse(%q): %q, error %d, instead of %q", c.text, f, e, c.want)
		}
	}
	for _, f := range []correct.Formula{{}, formula("0"), formula(" (0.00) ")} {
		if f.String() != "0" || len(f.Names()) != 0 || len(f.Tables()) != 0 {
			t.Error("the formula 0", f, f.Names(), f.Tables())
		}
		b, e := correct.Eval(f, env())
		isBox(t, "the formula 0", b, e, "0", "0")
	}
}

// P7.1
func TestParseErrors(t *testing.T) {
	wrong := []string{"2x", "a b", "a^-1", "x^2^3", "sqrt", // example 1
		"", " ", "1.x", "2.5.1", "abs", "sqrt+1", "1+abs", "abs^2", "1 2", "1 .5", "1. 5", ".5", "1.", "01", "00", "00.5", "1..2", "-", "--", "a-", "a +", "a+*b", "+a", "*a", "a**b", "a//b", "a*/b", "a/", "a^", "a^b", "a^(2)", "a^65", "a^100", "a^01", "a^00", "a^064", "a^2.0", "a^2x", "a^18446744073709551617", "a^+2", "^2", "(^2)", "()", "(a", "a)", "(a))", "((a)", ")a(", "(a)(b)", "(a)b", "2(a)", "t()", "t(a", "t(a)(b)", "t(a)b", "t(a,b)", "sqrt()", "sqrt(a", "sqrt(a)(b)", "sqrt a", "A", "a#b", "a\tb", "a\n", "\ta", "a\x00", "\x00", "\xff", "é", "a,b", "a=b", "-a^-2", "a--", "1/3x", "1e5", "_a", "_", "a._", strings.Repeat("a", 21), strings.Repeat("a", 21) + "(b)",
		strings.Repeat("(", 21) + "a" + strings.Repeat(")", 21), strings.Repeat("-", 21) + "a",
		strings.Repeat("-(", 10) + "-a" + strings.Repeat(")", 10), strings.Repeat("t(", 21) + "a" + strings.Repeat(")", 21),
		strings.Repeat("(", 400), strings.Repeat("-", 400), strings.Repeat(" ", 400)}
	for _, s := range wrong {
		f, e := correct.Parse(s)
		isError(t, s, e, api.ErrForm, f)
		f, e = correct.Parse(s + strings.Repeat(" ", 401))
		isError(t, s+" and blanks", e, api.ErrLong, f)
	}
	for _, name := range wrongNames() {
		if name == "" || strings.TrimSpace(name) != name || name == "2" || name == "a-b" {
			continue // formulas, or names with blanks around
		}
		f, e := correct.Parse("1 + " + name)
		isError(t, name, e, api.ErrForm, f)
	}
	for _, name := range rightNames() {
		if f, e := correct.Parse(" 1+" + name + "*" + name + " (" + name + ")"); e != api.OK || f.String() != "1 + "+name+" * "+name+"("+name+")" {
			t.Error(name, f, e)
		}
	}
	f, e := correct.Parse(strings.Repeat(" ", 400) + "x")
	isError(t, "401 bytes", e, api.ErrLong, f)
}

// P7.1: Parse has no error just for formulas; another way of reading says which ones they are.
func TestParseAnyText(t *testing.T) {
	random := rand.New(rand.NewPCG(7, 1))
	pieces := []string{" ", "(", ")", "(", ")", "-", "-", "+", "*", "/", "^", "^2", "^64", "^0", "1", "0", ".", "5", "64", "65", "x", "y", "t(", "sqrt(", "sqrt", "abs(", "_", "-(", strings.Repeat("-", 9), strings.Repeat("(", 9), "X", "é"}
	formulas, others := 0, 0
	for range 60000 {
		var l []string
		if random.IntN(4) > 0 {
			l = strings.Split(anyTree(random, 4).full(none), "")
		}
		for range random.IntN(4) {
			i := random.IntN(len(l) + 1)
			if i < len(l) && random.IntN(2) == 0 {
				l = slices.Delete(l, i, i+1)
			} else {
				l = slices.Insert(l, i, anyOf(random, pieces...))
			}
		}
		s := strings.Join(l, "")
		if len(s) > api.MaxFormula {
			continue
		}
		f, e := correct.Parse(s)
		switch {
		case isFormula(s) && e == api.OK:
			formulas++
			if canonical(f.String()) != canonical(s) {
				t.Fatalf("%q: the formula %q", s, f)
			}
		case !isFormula(s) && e == api.ErrForm:
			others++
		default:
			t.Fatalf("%q: %v, error %d", s, f, e)
		}
	}
	if formulas < 10000 || others < 10000 {
		t.Error("few texts of a kind:", formulas, others)
	}
}

// parenthesis is one that is not behind the name of a function or a table.
var parenthesis = regexp.MustCompile(`(^|[^a-z0-9_])\(`)

// opened returns the text without a parenthesis and the one that closes it.
func opened(s string, at int) string {
	depth := 0
	for i := at; ; i++ {
		switch s[i] {
		case '(':
			depth++
		case ')':
			depth--
		}
		if depth == 0 {
			return s[:at] + s[at+1:i] + s[i+1:]
		}
	}
}

// P7.1, P7.2, P7.9: the text is that of the same formula, is read as it, and loses no parenthesis without being another one.
func TestTexts(t *testing.T) {
	random := rand.New(rand.NewPCG(7, 9))
	blanks := func() string { return strings.Repeat(" ", max(0, random.IntN(8)-6)) }
	texts := map[string]string{}
	lost := 0
	for range 5000 {
		tree := anyTree(random, 5)
		text := tree.full(blanks)
		if len(text) > api.MaxFormula {
			continue
		}
		f := formula(text)
		s := f.String()
		if want := tree.full(none); canonical(s) != canonical(want) || len(s) <= api.MaxFormula && formula(s).String() != s {
			t.Fatalf("%q has the text %q", want, s)
		}
		if other, ok := texts[s]; ok && other != canonical(text) {
			t.Fatalf("%q is the text of %q and of %q", s, other, canonical(text))
		}
		texts[s] = canonical(text)
		if !slices.Equal(f.Names(), tree.gather("value")) || !slices.Equal(f.Tables(), tree.gather("table")) {
			t.Fatalf("%q: the names %v and %v", s, f.Names(), f.Tables())
		}
		for _, at := range parenthesis.FindAllStringIndex(s, -1) {
			lost++
			if fewer, e := correct.Parse(opened(s, at[1]-1)); e == api.OK && fewer.String() == s {
				t.Fatalf("%q does not need all of its parentheses", s)
			}
		}
	}
	if lost < 1000 {
		t.Error("few parentheses:", lost)
	}
}

// P7.2
func TestNames(t *testing.T) {
	for _, c := range []struct{ text, names, tables string }{
		{"b * wall(a) + sqrt(a) - tare(wall(c))", "a b c", "tare wall"},
		{"x + x(2)", "x", "x"},
		{"x(2)", "", "x"},
		{"-b^2 + a + b + a0 + a_", "a a0 a_ b", ""},
		{"z(y(x(w)))", "w", "x y z"},
		{"abs(sqrt(2))", "", ""},
		{"a0 / abs(a) * ab", "a a0 ab", ""},
		{"1", "", ""},
	} {
		f := formula(c.text)
		if !slices.Equal(f.Names(), strings.Fields(c.names)) || !slices.Equal(f.Tables(), strings.Fields(c.tables)) {
			t.Errorf("%s: the names %v and the tables %v", c.text, f.Names(), f.Tables())
		}
	}
}
