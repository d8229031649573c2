package correct

import (
	"strconv"
	"strings"

	"venturi/api"
	"venturi/exact"
)

// The bytes of numbers and names.
const (
	digits    = "0123456789"
	letters   = "abcdefghijklmnopqrstuvwxyz"
	nameBytes = letters + digits + "_"
)

// parser reads a formula. Its rules are those of the grammar; they panic with an api.Errno at a wrong text.
type parser struct {
	rest string // what is not read yet
	open int    // the parentheses, and the signs of factors, that are open
}

// Parse returns the formula of a text; ErrLong if it has more than MaxFormula bytes, ErrForm if it is not a formula.
func Parse(s string) (f Formula, err api.Errno) {
	if len(s) > api.MaxFormula {
		return Formula{}, api.ErrLong
	}
	defer func() {
		if thrown, ok := recover().(api.Errno); ok {
			f, err = Formula{}, thrown
		}
	}()
	p := &parser{rest: s}
	top := p.sum()
	p.blanks()
	p.want(p.rest == "")
	return Formula{top}, api.OK
}

// want ends the reading of a text that is no formula.
func (p *parser) want(right bool) {
	if !right {
		panic(api.ErrForm)
	}
}

// blanks reads the blanks before the next part.
func (p *parser) blanks() {
	p.rest = strings.TrimLeft(p.rest, " ")
}

// sign reads one of some signs, if it is the next part; otherwise it returns 0.
func (p *parser) sign(signs string) byte {
	p.blanks()
	if strings.IndexAny(p.rest, signs) != 0 {
		return 0
	}
	found := p.rest[0]
	p.rest = p.rest[1:]
	return found
}

// word reads as many of some bytes as there are.
func (p *parser) word(bytes string) string {
	p.blanks()
	rest := strings.TrimLeft(p.rest, bytes)
	word := strings.TrimSuffix(p.rest, rest)
	p.rest = rest
	return word
}

// series reads what a rule reads, once or several times with operators between.
func (p *parser) series(rule func() part, operators string) part {
	left := rule()
	for {
		operator := p.sign(operators)
		if operator == 0 {
			return left
		}
		left = &pair{left, operator, rule()}
	}
}

// nested reads what a rule reads inside of something that is open.
func (p *parser) nested(rule func() part) part {
	p.open++
	p.want(p.open <= api.MaxParens)
	inner := rule()
	p.open--
	return inner
}

func (p *parser) sum() part     { return p.series(p.product, "+-") }
func (p *parser) product() part { return p.series(p.factor, "*/") }

func (p *parser) factor() part {
	if p.sign("-") != 0 {
		return &minus{p.nested(p.factor)}
	}
	return p.power()
}

func (p *parser) power() part {
	base := p.atom()
	if p.sign("^") != 0 {
		return &power{base, p.exponent()}
	}
	return base
}

func (p *parser) exponent() int {
	word := p.word(digits)
	n, err := strconv.Atoi(word)
	p.want(err == nil && n <= api.MaxPower && strconv.Itoa(n) == word)
	return n
}

func (p *parser) atom() part {
	if p.sign("(") != 0 {
		return p.enclosed()
	}
	if word := p.word(digits + "."); word != "" {
		num, e := exact.Parse(word)
		p.want(e == api.OK)
		return &number{num}
	}
	word := p.word(nameBytes)
	if p.sign("(") != 0 {
		p.want(isName(word) || word == rootName || word == absName)
		return &call{word, p.enclosed()}
	}
	p.want(isName(word))
	return &variable{word}
}

// enclosed reads a sum and the parenthesis behind it.
func (p *parser) enclosed() part {
	inner := p.nested(p.sum)
	p.want(p.sign(")") != 0)
	return inner
}
