package guard

import (
	"slices"

	"venturi/api"
)

// maxNumber is the greatest N of OpNumber; the least one is -maxNumber.
const maxNumber = 1000

// op returns a term of kids.
func op(kind api.Op, kids ...api.Term) api.Term { return api.Term{Op: kind, Kids: kids} }

// number returns the term of a number.
func number(n int) api.Term { return api.Term{Op: api.OpNumber, N: n} }

// variable returns the term of a variable.
func variable(i int) api.Term { return api.Term{Op: api.OpVar, N: i} }

// equals returns the term that is 1 if a variable has a value.
func equals(i, value int) api.Term { return op(api.OpEqual, variable(i), number(value)) }

// copied returns a new list of the copies of all elements.
func copied[T any](l []T, copyOf func(T) T) []T {
	l = slices.Clone(l)
	for i, x := range l {
		l[i] = copyOf(x)
	}
	return l
}

// copyTerm returns an equal term in new memory.
func copyTerm(t api.Term) api.Term {
	t.Kids = copied(t.Kids, copyTerm)
	return t
}

// isTerm reports whether a term is valid for so many variables, if its kids are.
func isTerm(t api.Term, vars int) bool {
	switch t.Op {
	case api.OpNumber:
		return -maxNumber <= t.N && t.N <= maxNumber && len(t.Kids) == 0
	case api.OpVar:
		return 0 <= t.N && t.N < vars && len(t.Kids) == 0
	case api.OpNot:
		return t.N == 0 && len(t.Kids) == 1
	case api.OpSub, api.OpEqual, api.OpLess:
		return t.N == 0 && len(t.Kids) == 2
	case api.OpIf:
		return t.N == 0 && len(t.Kids) == 3
	case api.OpAdd, api.OpAnd, api.OpOr, api.OpCount:
		return t.N == 0
	}
	return false
}

// spare returns how many of the terms that there may be are left behind a term and all below it, or -1 if these are too many or not valid. It looks at no more terms than there may be: those below may have no end.
func spare(t api.Term, vars, most int) int {
	if most == 0 || !isTerm(t, vars) {
		return -1
	}
	left := most - 1
	for _, kid := range t.Kids {
		if left = spare(kid, vars, left); left < 0 {
			return -1
		}
	}
	return left
}

// isTree reports whether a term is valid for so many variables and has at most MaxTree terms.
func isTree(t api.Term, vars int) bool { return spare(t, vars, api.MaxTree) >= 0 }

// truth returns 1 for true and 0 for false.
func truth(b bool) int {
	if b {
		return 1
	}
	return 0
}

// value is Value for a valid term.
func value(t api.Term, state []int) int {
	kid := func(i int) int { return value(t.Kids[i], state) }
	isTrue := func(k api.Term) bool { return value(k, state) != 0 }
	isFalse := func(k api.Term) bool { return value(k, state) == 0 }
	switch t.Op {
	case api.OpNumber:
		return t.N
	case api.OpVar:
		return state[t.N]
	case api.OpSub:
		return kid(0) - kid(1)
	case api.OpEqual:
		return truth(kid(0) == kid(1))
	case api.OpLess:
		return truth(kid(0) < kid(1))
	case api.OpNot:
		return truth(kid(0) == 0)
	case api.OpAnd:
		return truth(!slices.ContainsFunc(t.Kids, isFalse))
	case api.OpOr:
		return truth(slices.ContainsFunc(t.Kids, isTrue))
	case api.OpIf:
		return kid(2 - truth(kid(0) != 0))
	}
	sum := 0
	for i := range t.Kids {
		if t.Op == api.OpCount {
			sum += truth(kid(i) != 0)
		} else {
			sum += kid(i)
		}
	}
	return sum
}

// Value returns the value of a term in a state; ErrArg if the term is not valid for as many variables as the state has values, or has more than MaxTree terms.
func Value(t api.Term, state []int) (int, api.Errno) {
	if !isTree(t, len(state)) {
		return 0, api.ErrArg
	}
	return value(t, state), api.OK
}

// count returns OpCount of copies of terms.
func count(kids []api.Term) api.Term { return op(api.OpCount, copied(kids, copyTerm)...) }

// Vote returns a term that is 1 if more than some number of terms are not 0.
func Vote(kids []api.Term, most int) api.Term {
	return op(api.OpLess, number(most), count(kids))
}

// Among returns a term that is 1 if the number of terms that are not 0 is within bounds.
func Among(kids []api.Term, least, most int) api.Term {
	few := op(api.OpLess, count(kids), number(least))
	return op(api.OpAnd, op(api.OpNot, few), op(api.OpNot, Vote(kids, most)))
}
