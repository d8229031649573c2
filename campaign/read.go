package campaign

import (
	"strconv"
	"strings"

	"venturi/api"
	"venturi/balance"
	"venturi/correct"
	"venturi/exact"
)

// nothing is the word for an empty list.
const nothing = "-"

// tooGreat is the least integer that has too many digits.
const tooGreat = 1_000_000_000

// reader reads words, one after another. What it returns for a word that does not have its form means nothing.
type reader struct {
	words []string
	wrong bool // whether some word did not have its form
}

// next returns the next word; there must be one.
func (r *reader) next() string {
	word := r.words[0]
	r.words = r.words[1:]
	return word
}

// want notes a word that does not have its form.
func (r *reader) want(right bool) {
	r.wrong = r.wrong || !right
}

// each returns what a function makes of the elements of a list.
func each[A, B any](l []A, of func(x A) B) []B {
	var all []B
	for _, x := range l {
		all = append(all, of(x))
	}
	return all
}

// list reads the parts of a text, with a sign between two of them.
func list[T any](text, sign string, read func(part string) T) []T {
	return each(strings.Split(text, sign), read)
}

// listOrNothing reads the parts of a text, or the word for none of them.
func listOrNothing[T any](text, sign string, read func(part string) T) []T {
	if text == nothing {
		return nil
	}
	return list(text, sign, read)
}

// integer reads an integer.
func (r *reader) integer(text string) int {
	n, _ := strconv.Atoi(text)
	r.want(strconv.Itoa(n) == text && -tooGreat < n && n < tooGreat)
	return n
}

// integers reads integers.
func (r *reader) integers(text string) []int { return list(text, ",", r.integer) }

// number reads a number.
func (r *reader) number(text string) exact.Num {
	x, e := exact.Parse(text)
	r.want(e == api.OK && len(text) <= api.MaxDigits)
	return x
}

// numbers reads numbers.
func (r *reader) numbers(text string) []exact.Num { return list(text, ",", r.number) }

// box reads a box.
func (r *reader) box(text string) exact.Box {
	lower, upper, isCut := strings.Cut(text, "..")
	lo := r.number(lower)
	if !isCut {
		return exact.Point(lo)
	}
	b, e := exact.Span(lo, r.number(upper))
	r.want(e == api.OK)
	return b
}

// boxes reads boxes.
func (r *reader) boxes(text string) []exact.Box { return list(text, ",", r.box) }

// vector reads a vector.
func (r *reader) vector(text string) balance.Vector {
	var v balance.Vector
	numbers := r.numbers(text)
	r.want(len(numbers) == len(v))
	copy(v[:], numbers)
	return v
}

// numbered is a number of a hook, or of an axis, and what belongs to it.
type numbered struct {
	which int
	x     exact.Num
}

// numbered reads what belongs to a number. Without a colon the number is missing, which no text stands for.
func (r *reader) numbered(text string) numbered {
	which, x, _ := strings.Cut(text, ":")
	return numbered{r.integer(which), r.number(x)}
}

// turns reads an attitude.
func (r *reader) turns(text string) []balance.Turn {
	return each(listOrNothing(text, ",", r.numbered), func(n numbered) balance.Turn {
		return balance.Turn{Axis: n.which, T: n.x}
	})
}

// hook reads a hook.
func (r *reader) hook(text string) balance.Hook { return r.numbers(text) }

// loading reads a loading.
func (r *reader) loading(text string) balance.Loading {
	weights := listOrNothing(text, ",", r.numbered)
	return balance.Loading{
		Hooks:   each(weights, func(n numbered) int { return n.which }),
		Weights: each(weights, func(n numbered) exact.Num { return n.x }),
	}
}

// limit reads a limit of loads.
func (r *reader) limit(text string) balance.Limit {
	row, most, _ := strings.Cut(text, "<=")
	return balance.Limit{Row: r.numbers(row), Most: r.number(most)}
}

// setting reads a setting.
func (r *reader) setting(text string) api.Setting {
	levels, block, _ := strings.Cut(text, "/")
	return api.Setting{Levels: r.integers(levels), Block: r.integer(block)}
}

// formula reads a formula.
func (r *reader) formula(text string) correct.Formula {
	f, e := correct.Parse(text)
	r.want(e == api.OK)
	return f
}

// condition reads a condition of a step.
func (r *reader) condition(text string) correct.Condition {
	formula, domain, _ := strings.Cut(text, ":")
	b := r.box(domain)
	return correct.Condition{Formula: r.formula(formula), Lo: b.Lo(), Hi: b.Hi()}
}

// step reads a step of a chain.
func (r *reader) step(text string) correct.Step {
	parts := strings.Split(text, "|")
	name, formula, _ := strings.Cut(parts[0], "=")
	r.want(name != "")
	return correct.Step{Name: name, Formula: r.formula(formula), Domain: each(parts[1:], r.condition)}
}
