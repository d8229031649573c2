package correct_test

import (
	"math/rand/v2"
	"regexp"
	"slices"
	"strconv"
	"strings"

	"venturi/api"
	"venturi/correct"
	"venturi/exact"
)

// tree is a formula as the tests know it.
type tree struct {
	kind string // number, value, a sign or a function
	text string // of a number, a value or a table
	n    int    // the exponent
	kids []*tree
}

// anyTree returns a tree of at most so many levels.
func anyTree(r *rand.Rand, levels int) *tree {
	kinds := []string{"number", "value", "value", "+", "-", "*", "/", "neg", "^", "sqrt", "abs", "table"}
	if levels <= 1 {
		kinds = kinds[:3]
	}
	t := &tree{kind: anyOf(r, kinds...)}
	kids := 1
	switch t.kind {
	case "number":
		t.text, kids = anyOf(r, "0", "1", "2", "0.5", "1.25", "10"), 0
	case "value":
		t.text, kids = anyOf(r, "x", "y", "z"), 0
	case "table":
		t.text = anyOf(r, "t", "x")
	case "^":
		t.n = anyOf(r, 0, 1, 2, 3)
	case "+", "-", "*", "/":
		kids = 2
	}
	for range kids {
		t.kids = append(t.kids, anyTree(r, levels-1))
	}
	return t
}

// full returns the text of a tree with parentheses around all that has parts; blank is put between all of it.
func (t *tree) full(blank func() string) string {
	var l []string
	switch t.kind {
	case "number", "value":
		return t.text
	case "neg":
		l = []string{"(", "-", t.kids[0].full(blank), ")"}
	case "^":
		l = []string{"(", t.kids[0].full(blank), "^", strconv.Itoa(t.n), ")"}
	case "sqrt", "abs":
		l = []string{t.kind, "(", t.kids[0].full(blank), ")"}
	case "table":
		l = []string{t.text, "(", t.kids[0].full(blank), ")"}
	default:
		l = []string{"(", t.kids[0].full(blank), t.kind, t.kids[1].full(blank), ")"}
	}
	text := ""
	for _, s := range l {
		text += blank() + s + blank()
	}
	return text
}

// none is no blank.
func none() string { return "" }

// value returns what a tree is with boxes, by the operations of chapter 1.
func (t *tree) value(e correct.Env) (exact.Box, api.Errno) {
	var kids []exact.Box
	for _, kid := range t.kids {
		b, err := kid.value(e)
		if err != api.OK {
			return exact.Box{}, err
		}
		kids = append(kids, b)
	}
	switch t.kind {
	case "number":
		return only(t.text), api.OK
	case "value":
		i := slices.IndexFunc(e.Values, func(v correct.Named) bool { return v.Name == t.text })
		return e.Values[i].Box, api.OK
	case "table":
		i := slices.IndexFunc(e.Tables, func(l correct.Table) bool { return l.Name == t.text })
		return correct.Look(e.Tables[i], kids[0])
	case "neg":
		return kids[0].Neg(), api.OK
	case "^":
		return kids[0].Pow(t.n)
	case "sqrt":
		return kids[0].Root(e.Grid)
	case "abs":
		return kids[0].Abs(), api.OK
	case "+":
		return kids[0].Add(kids[1]), api.OK
	case "-":
		return kids[0].Sub(kids[1]), api.OK
	case "*":
		return kids[0].Mul(kids[1]), api.OK
	}
	return kids[0].Div(kids[1])
}

// gather returns the names of a tree's parts of a kind, in ascending order, each once.
func (t *tree) gather(kind string) []string {
	var l []string
	if t.kind == kind {
		l = append(l, t.text)
	}
	for _, kid := range t.kids {
		l = append(l, kid.gather(kind)...)
	}
	slices.Sort(l)
	return slices.Compact(l)
}

var tokens = regexp.MustCompile(`[0-9.]+|[a-z0-9_]+|[^ ]`)

// canonical returns the text of a formula with parentheses around all that has parts, without blanks, and with numbers as their texts. It climbs by the precedence of the operators.
func canonical(s string) string {
	l := append(tokens.FindAllString(s, -1), "end")
	next := func() string {
		first := l[0]
		l = l[1:]
		return first
	}
	precedence := map[string]int{"+": 1, "-": 1, "*": 2, "/": 2}
	var climb func(least int) string
	operand := func() string {
		x := next()
		switch {
		case numbers.MatchString(x):
			x = num(x).String()
		case x == "(":
			x = climb(1)
			next()
		case l[0] == "(":
			next()
			x += "(" + climb(1) + ")"
			next()
		}
		if l[0] == "^" {
			return "(" + x + next() + next() + ")"
		}
		return x
	}
	var signed func() string
	signed = func() string {
		if l[0] == "-" {
			return "(" + next() + signed() + ")"
		}
		return operand()
	}
	climb = func(least int) string {
		x := signed()
		for precedence[l[0]] >= least {
			operator := next()
			x = "(" + x + operator + climb(precedence[operator]+1) + ")"
		}
		return x
	}
	return climb(1)
}

var (
	numbers  = regexp.MustCompile(`^(0|[1-9][0-9]*)(\.[0-9]+)?$`)
	variable = regexp.MustCompile(`^[a-z][a-z0-9_]{0,19}$`)
	powers   = regexp.MustCompile(`^([0-9]|[1-5][0-9]|6[0-4])$`)
	inside   = `-*[av]\^?([-+*/]-*[av]\^?)*`
	inner    = regexp.MustCompile(`[sv]?\(` + inside + `\)`)
	outer    = regexp.MustCompile(`^` + inside + `$`)
)

// isFormula reports whether a text is a formula. It writes one letter for each number (a), name (v), function (s) and exponent (^), and then replaces what is in parentheses, from the inside.
func isFormula(s string) bool {
	signs, before := "", ""
	for _, x := range tokens.FindAllString(s, -1) {
		switch {
		case before == "^":
			if !powers.MatchString(x) {
				return false
			}
		case x == "sqrt" || x == "abs":
			signs += "s"
		case numbers.MatchString(x):
			signs += "a"
		case variable.MatchString(x):
			signs += "v"
		case len(x) == 1 && strings.Contains("()+-*/^", x):
			signs += x
		default:
			return false
		}
		before = x
	}
	if before == "^" || deepest(signs) > api.MaxParens {
		return false
	}
	for inner.MatchString(signs) {
		signs = inner.ReplaceAllLiteralString(signs, "a")
	}
	return outer.MatchString(signs)
}

// deepest returns how many parentheses and signs of factors are open at once in a formula that is written in letters.
func deepest(signs string) int {
	var open []rune
	most, operand := 0, false // whether an operand has just ended
	for i, x := range signs {
		if operand && x != '^' {
			for len(open) > 0 && open[len(open)-1] == '-' {
				open = open[:len(open)-1]
			}
		}
		switch {
		case x == '(' || x == '-' && !operand:
			open = append(open, x)
		case x == ')' && len(open) > 0:
			open = open[:len(open)-1]
		}
		most = max(most, len(open))
		operand = strings.ContainsRune("a)^", x) || x == 'v' && !strings.HasPrefix(signs[i+1:], "(")
	}
	return most
}
