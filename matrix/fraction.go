package matrix

import (
	"cmp"
	"maps"
	"math/bits"
	"slices"

	"venturi/api"
)

// isEffect reports whether a mask has bits of the first factors only.
func isEffect(factors int, mask uint16) bool {
	return mask>>factors == 0
}

// CheckFraction returns ErrArg if a fraction is not valid.
func CheckFraction(f api.Fraction) api.Errno {
	other := func(w api.Word) bool { return !isEffect(f.Factors, w.Mask) }
	return argument(1 <= f.Factors && f.Factors <= api.MaxTwoLevel &&
		len(f.Words) <= api.MaxWords && !slices.ContainsFunc(f.Words, other))
}

// minus reports whether the sign of a mask in a run is -1.
func minus(mask, run uint16) bool {
	return bits.OnesCount16(mask&run)%2 == 1
}

// Runs returns all runs that belong to a fraction, in ascending order; ErrArg if it is not valid.
func Runs(f api.Fraction) ([]uint16, api.Errno) {
	if e := CheckFraction(f); e != api.OK {
		return nil, e
	}
	var runs []uint16
	for run := range uint16(1) << f.Factors {
		broken := func(w api.Word) bool { return minus(w.Mask, run) != w.Odd }
		if !slices.ContainsFunc(f.Words, broken) {
			runs = append(runs, run)
		}
	}
	return runs, api.OK
}

// product returns the product of two words.
func product(a, b api.Word) api.Word {
	return api.Word{Mask: a.Mask ^ b.Mask, Odd: a.Odd != b.Odd}
}

// byBits compares words: fewer bits come first, then smaller masks.
func byBits(a, b api.Word) int {
	return cmp.Or(cmp.Compare(bits.OnesCount16(a.Mask), bits.OnesCount16(b.Mask)), cmp.Compare(a.Mask, b.Mask))
}

// Relation returns the relation of a fraction, words with fewer bits first; ErrArg if it is not valid, ErrClash if its words contradict each other.
func Relation(f api.Fraction) ([]api.Word, api.Errno) {
	if e := CheckFraction(f); e != api.OK {
		return nil, e
	}
	none := api.Word{}
	words := map[api.Word]bool{none: true}
	for _, w := range f.Words {
		for _, other := range slices.Collect(maps.Keys(words)) {
			words[product(w, other)] = true
		}
	}
	if words[api.Word{Odd: true}] {
		return nil, api.ErrClash
	}
	delete(words, none)
	return slices.SortedFunc(maps.Keys(words), byBits), api.OK
}

// Resolution returns the least number of bits of a word of the relation, 0 if it has none; its errors are those of Relation.
func Resolution(f api.Fraction) (int, api.Errno) {
	relation, e := Relation(f)
	if e != api.OK || len(relation) == 0 {
		return 0, e
	}
	return bits.OnesCount16(relation[0].Mask), api.OK
}

// Aliases returns the aliases of an effect, those with fewer bits first; ErrArg if the fraction is not valid, or it is no effect of its factors, ErrClash if its words contradict each other.
func Aliases(f api.Fraction, effect uint16) ([]api.Word, api.Errno) {
	if e := CheckFraction(f); e != api.OK {
		return nil, e
	}
	if !isEffect(f.Factors, effect) {
		return nil, api.ErrArg
	}
	aliases, e := Relation(f)
	if e != api.OK {
		return nil, e
	}
	for i, w := range aliases {
		aliases[i] = product(w, api.Word{Mask: effect})
	}
	slices.SortFunc(aliases, byBits)
	return aliases, api.OK
}
