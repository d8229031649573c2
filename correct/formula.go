package correct

import (
	"maps"
	"slices"
	"strconv"

	"venturi/api"
	"venturi/exact"
)

// rank tells how tightly the text of a part holds together.
type rank int

const (
	rankSum rank = iota
	rankProduct
	rankFactor
	rankPower
	rankAtom
)

// part is a part of a formula; no part is ever changed.
type part interface {
	rank() rank
	text() string
	mention(m mentions)
	value(k known) (exact.Box, api.Errno)
}

// mentions is the names that occur in a formula.
type mentions struct{ values, tables map[string]bool }

// The functions of formulas that are no tables.
const (
	rootName = "sqrt"
	absName  = "abs"
)

// Formula is a formula; the zero value is the formula 0.
type Formula struct{ top part }

// whole returns the part that is the whole formula.
func (f Formula) whole() part {
	if f.top == nil {
		return &number{}
	}
	return f.top
}

// mentions returns the names that occur.
func (f Formula) mentions() mentions {
	m := mentions{map[string]bool{}, map[string]bool{}}
	f.whole().mention(m)
	return m
}

// String returns the text of a formula.
func (f Formula) String() string { return f.whole().text() }

// Names returns the values that occur, in ascending order.
func (f Formula) Names() []string { return slices.Sorted(maps.Keys(f.mentions().values)) }

// Tables returns the tables that occur, in ascending order.
func (f Formula) Tables() []string { return slices.Sorted(maps.Keys(f.mentions().tables)) }

// within returns the text of a part at a place where only parts from some rank on need no parentheses.
func within(p part, from rank) string {
	if p.rank() < from {
		return "(" + p.text() + ")"
	}
	return p.text()
}

// number is a number that is written in a formula.
type number struct{ num exact.Num }

func (n *number) rank() rank       { return rankAtom }
func (n *number) text() string     { return n.num.String() }
func (n *number) mention(mentions) {}

func (n *number) value(known) (exact.Box, api.Errno) {
	return exact.Point(n.num), api.OK
}

// variable is the value with a name.
type variable struct{ name string }

func (v *variable) rank() rank         { return rankAtom }
func (v *variable) text() string       { return v.name }
func (v *variable) mention(m mentions) { m.values[v.name] = true }

func (v *variable) value(k known) (exact.Box, api.Errno) {
	return copied(k.values[v.name].Box), api.OK
}

// copied returns an equal box in new memory.
func copied(b exact.Box) exact.Box { return b.Hull(b) }

// call is a square root, an absolute value, or what a table has for a part.
type call struct {
	name  string
	inner part
}

func (c *call) rank() rank   { return rankAtom }
func (c *call) text() string { return c.name + "(" + c.inner.text() + ")" }

func (c *call) mention(m mentions) {
	if isName(c.name) {
		m.tables[c.name] = true
	}
	c.inner.mention(m)
}

func (c *call) value(k known) (exact.Box, api.Errno) {
	x, e := c.inner.value(k)
	if e != api.OK {
		return exact.Box{}, e
	}
	switch c.name {
	case rootName:
		return x.Root(k.grid)
	case absName:
		return x.Abs(), api.OK
	}
	return k.tables[c.name].look(x)
}

// minus is a factor with a minus sign before it.
type minus struct{ inner part }

func (m *minus) rank() rank             { return rankFactor }
func (m *minus) text() string           { return "-" + within(m.inner, rankFactor) }
func (m *minus) mention(names mentions) { m.inner.mention(names) }

func (m *minus) value(k known) (exact.Box, api.Errno) {
	x, e := m.inner.value(k)
	return x.Neg(), e
}

// power is a part with an exponent.
type power struct {
	base     part
	exponent int
}

func (p *power) rank() rank         { return rankPower }
func (p *power) text() string       { return within(p.base, rankAtom) + "^" + strconv.Itoa(p.exponent) }
func (p *power) mention(m mentions) { p.base.mention(m) }

func (p *power) value(k known) (exact.Box, api.Errno) {
	x, e := p.base.value(k)
	if e != api.OK {
		return exact.Box{}, e
	}
	return x.Pow(p.exponent)
}

// pair is two parts with an operator between them.
type pair struct {
	left     part
	operator byte
	right    part
}

func (p *pair) rank() rank {
	if p.operator == '+' || p.operator == '-' {
		return rankSum
	}
	return rankProduct
}

// text leaves out the parentheses around a left part of the same rank, since sums and products are computed from the left to the right.
func (p *pair) text() string {
	return within(p.left, p.rank()) + " " + string(p.operator) + " " + within(p.right, p.rank()+1)
}

func (p *pair) mention(m mentions) {
	p.left.mention(m)
	p.right.mention(m)
}

func (p *pair) value(k known) (exact.Box, api.Errno) {
	left, e := p.left.value(k)
	if e != api.OK {
		return exact.Box{}, e
	}
	right, e := p.right.value(k)
	if e != api.OK {
		return exact.Box{}, e
	}
	switch p.operator {
	case '+':
		return left.Add(right), api.OK
	case '-':
		return left.Sub(right), api.OK
	case '*':
		return left.Mul(right), api.OK
	}
	return left.Div(right)
}
