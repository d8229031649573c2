package matrix_test

import (
	"math/bits"
	"math/rand/v2"
	"slices"
	"testing"

	"venturi/api"
	"venturi/exact"
	"venturi/fit"
	"venturi/matrix"
)

// even returns words with masks that are not Odd.
func even(masks ...uint16) []api.Word {
	var l []api.Word
	for _, m := range masks {
		l = append(l, api.Word{Mask: m})
	}
	return l
}

func odd(mask uint16) api.Word { return api.Word{Mask: mask, Odd: true} }

// third returns the fraction of the document's example 4.
func third() api.Fraction { return api.Fraction{Factors: 3, Words: even(7)} }

// five returns a quarter of the runs of five factors.
func five() api.Fraction {
	return api.Fraction{Factors: 5, Words: []api.Word{{Mask: 7}, odd(25)}}
}

// clashes returns fractions whose words contradict each other.
func clashes() map[string]api.Fraction {
	return map[string]api.Fraction{
		"the mask 0":      {Factors: 3, Words: []api.Word{odd(0)}},
		"one word twice":  {Factors: 3, Words: []api.Word{{Mask: 7}, odd(7)}},
		"three words":     {Factors: 5, Words: []api.Word{{Mask: 11}, odd(21), {Mask: 30}}},
		"all three odd":   {Factors: 2, Words: []api.Word{odd(1), odd(2), odd(3)}},
		"two of several":  {Factors: 4, Words: []api.Word{{Mask: 3}, {Mask: 12}, odd(5), odd(10), odd(9), {Mask: 6}}},
		"the last of all": {Factors: 12, Words: append(even(1, 2, 4, 8, 16, 32, 64, 128, 256, 512, 1024), odd(2047))},
	}
}

// wrongFractions returns fractions that are not valid.
func wrongFractions() map[string]api.Fraction {
	return map[string]api.Fraction{
		"no factors":          {},
		"-1 factors":          {Factors: -1},
		"13 factors":          {Factors: 13},
		"13 words":            {Factors: 4, Words: even(1, 2, 3, 4, 5, 6, 7, 8, 9, 10, 11, 12, 13)},
		"13 equal words":      {Factors: 4, Words: slices.Repeat(even(1), 13)},
		"another factor":      {Factors: 2, Words: even(4)},
		"a factor too much":   {Factors: 2, Words: even(3, 7)},
		"a far factor":        {Factors: 12, Words: even(1 << 12)},
		"the farthest factor": {Factors: 12, Words: even(1 << 15)},
		"the last word":       {Factors: 3, Words: []api.Word{{Mask: 7}, odd(0), odd(8)}},
	}
}

// P6.7
func TestCheckFraction(t *testing.T) {
	for what, f := range clashes() {
		isError(t, what, matrix.CheckFraction(f), api.OK)
	}
	for what, f := range map[string]api.Fraction{
		"one factor":    {Factors: 1},
		"an empty list": {Factors: 2, Words: []api.Word{}},
		"one word":      third(),
		"all bits":      {Factors: 12, Words: even(4095)},
		"12 words":      {Factors: 1, Words: slices.Repeat(even(1), 12)},
		"the mask 0":    {Factors: 1, Words: even(0)},
	} {
		isError(t, what, matrix.CheckFraction(f), api.OK)
	}
	for what, f := range wrongFractions() {
		isError(t, what, matrix.CheckFraction(f), api.ErrArg)
		runs, e := matrix.Runs(f)
		isError(t, "Runs with "+what, e, api.ErrArg, runs)
		relation, e := matrix.Relation(f)
		isError(t, "Relation with "+what, e, api.ErrArg, relation)
		n, e := matrix.Resolution(f)
		isError(t, "Resolution with "+what, e, api.ErrArg, n)
		for _, effect := range []uint16{0, 1, 65535} {
			aliases, e := matrix.Aliases(f, effect)
			isError(t, "Aliases with "+what, e, api.ErrArg, aliases)
		}
		f.Words = append(slices.Clone(f.Words), odd(0))
		relation, e = matrix.Relation(f)
		isError(t, "a clash and "+what, e, api.ErrArg, relation)
	}
}

// P6.7
func TestRuns(t *testing.T) {
	for _, c := range []struct {
		f    api.Fraction
		want []uint16
	}{
		{third(), []uint16{0, 3, 5, 6}},
		{api.Fraction{Factors: 3, Words: []api.Word{odd(7)}}, []uint16{1, 2, 4, 7}},
		{api.Fraction{Factors: 1}, []uint16{0, 1}},
		{api.Fraction{Factors: 2, Words: even(0)}, []uint16{0, 1, 2, 3}},
		{api.Fraction{Factors: 2, Words: even(1)}, []uint16{0, 2}},
		{api.Fraction{Factors: 2, Words: []api.Word{odd(2)}}, []uint16{2, 3}},
		{api.Fraction{Factors: 2, Words: []api.Word{odd(2), {Mask: 3}, odd(2)}}, []uint16{3}},
		{five(), []uint16{3, 5, 8, 14, 16, 22, 27, 29}},
		{api.Fraction{Factors: 12, Words: []api.Word{odd(1), odd(2), odd(4), odd(8), odd(16), odd(32), odd(64), odd(128), odd(256), odd(512), odd(1024), odd(2048)}}, []uint16{4095}},
	} {
		runs, e := matrix.Runs(c.f)
		isList(t, "Runs", runs, e, c.want...)
	}
	runs, e := matrix.Runs(api.Fraction{Factors: 12})
	is(t, "all runs of 12 factors", len(runs), e, 4096)
	for i, run := range runs {
		is(t, "all runs of 12 factors", int(run), e, i)
	}
	for what, f := range clashes() {
		runs, e := matrix.Runs(f)
		isList(t, what, runs, e)
	}
}

// P6.8
func TestRelation(t *testing.T) {
	for _, c := range []struct {
		f          api.Fraction
		want       []api.Word
		resolution int
	}{
		{third(), even(7), 3},
		{api.Fraction{Factors: 3}, nil, 0},
		{api.Fraction{Factors: 3, Words: even(0, 0)}, nil, 0},
		{api.Fraction{Factors: 3, Words: []api.Word{odd(7), odd(7)}}, []api.Word{odd(7)}, 3},
		{five(), []api.Word{{Mask: 7}, odd(25), odd(30)}, 3},
		{api.Fraction{Factors: 4, Words: []api.Word{{Mask: 15}, odd(9)}}, []api.Word{odd(6), odd(9), {Mask: 15}}, 2},
		{api.Fraction{Factors: 4, Words: []api.Word{odd(15), odd(7)}}, []api.Word{{Mask: 8}, odd(7), odd(15)}, 1},
		{api.Fraction{Factors: 5, Words: []api.Word{{Mask: 11}, odd(21), odd(30)}}, []api.Word{{Mask: 11}, odd(21), odd(30)}, 3},
		{api.Fraction{Factors: 3, Words: []api.Word{odd(4), odd(2), {Mask: 1}}}, []api.Word{{Mask: 1}, odd(2), odd(4), odd(3), odd(5), {Mask: 6}, {Mask: 7}}, 1},
		{api.Fraction{Factors: 7, Words: even(0b0010111, 0b0101110, 0b1001011)}, even(23, 46, 57, 75, 92, 101, 114), 4},
	} {
		l, e := matrix.Relation(c.f)
		isList(t, "Relation", l, e, c.want...)
		n, e := matrix.Resolution(c.f)
		is(t, "Resolution", n, e, c.resolution)
	}
	l, e := matrix.Relation(api.Fraction{Factors: 12, Words: even(1, 2, 4, 8, 16, 32, 64, 128, 256, 512, 1024, 2048)})
	is(t, "all masks", len(l), e, 4095)
	is(t, "the last one", l[4094], e, api.Word{Mask: 4095})
	for what, f := range clashes() {
		l, e := matrix.Relation(f)
		isError(t, what, e, api.ErrClash, l)
		n, e := matrix.Resolution(f)
		isError(t, "Resolution of "+what, e, api.ErrClash, n)
	}
}

// P6.9
func TestAliases(t *testing.T) {
	for _, c := range []struct {
		f      api.Fraction
		effect uint16
		want   []api.Word
	}{
		{third(), 1, even(6)},
		{third(), 3, even(4)},
		{third(), 0, even(7)},
		{third(), 7, even(0)},
		{api.Fraction{Factors: 3}, 5, nil},
		{api.Fraction{Factors: 3, Words: []api.Word{odd(7)}}, 1, []api.Word{odd(6)}},
		{five(), 0, []api.Word{{Mask: 7}, odd(25), odd(30)}},
		{five(), 1, []api.Word{{Mask: 6}, odd(24), odd(31)}},
		{five(), 2, []api.Word{{Mask: 5}, odd(28), odd(27)}}, // 28 has fewer bits than 27
		{five(), 7, []api.Word{{Mask: 0}, odd(25), odd(30)}},
		{five(), 24, []api.Word{odd(1), odd(6), {Mask: 31}}},
	} {
		l, e := matrix.Aliases(c.f, c.effect)
		isList(t, "Aliases", l, e, c.want...)
	}
	for _, effect := range []uint16{8, 9, 1 << 15, 65535} {
		l, e := matrix.Aliases(third(), effect)
		isError(t, "another factor", e, api.ErrArg, l)
		l, e = matrix.Aliases(api.Fraction{Factors: 3, Words: []api.Word{odd(0)}}, effect)
		isError(t, "another factor, and a clash", e, api.ErrArg, l)
	}
	for what, f := range clashes() {
		for _, effect := range []uint16{0, 3} {
			l, e := matrix.Aliases(f, effect)
			isError(t, what, e, api.ErrClash, l)
		}
	}
}

// sign returns the product of the factors of a mask in a run.
func sign(mask, run uint16) int {
	s := 1
	for k := range 16 {
		if mask>>k&1 == 1 && run>>k&1 == 1 {
			s = -s
		}
	}
	return s
}

// constant returns the sign that a word has in all runs.
func constant(w api.Word) int {
	if w.Odd {
		return -1
	}
	return 1
}

// anyFraction returns a fraction with at most so many factors and words.
func anyFraction(r *rand.Rand, factors, words int) api.Fraction {
	f := api.Fraction{Factors: 1 + r.IntN(factors)}
	for range r.IntN(words + 1) {
		f.Words = append(f.Words, api.Word{Mask: uint16(r.IntN(1 << f.Factors)), Odd: r.IntN(2) == 0})
	}
	return f
}

// products returns all different products of some words, by all choices of them.
func products(words []api.Word) []api.Word {
	var out []api.Word
	for choice := range 1 << len(words) {
		var mask uint16
		s := 1
		for k, w := range words {
			if choice>>k&1 == 1 {
				mask ^= w.Mask
				s *= constant(w)
			}
		}
		if p := (api.Word{Mask: mask, Odd: s < 0}); !slices.Contains(out, p) {
			out = append(out, p)
		}
	}
	return out
}

// isSorted reports whether words with fewer bits come first, and of these smaller masks.
func isSorted(l []api.Word) bool {
	for i := 1; i < len(l); i++ {
		a, b := l[i-1].Mask, l[i].Mask
		if n, m := bits.OnesCount16(a), bits.OnesCount16(b); n > m || n == m && a >= b {
			return false
		}
	}
	return true
}

// has checks that a list that is sorted has these words and no others, in some order.
func has(t *testing.T, what string, l []api.Word, e api.Errno, want []api.Word) {
	t.Helper()
	other := func(w api.Word) bool { return !slices.Contains(l, w) }
	if e != api.OK || len(l) != len(want) || slices.ContainsFunc(want, other) || !isSorted(l) {
		t.Errorf("%s: %v, error %d, instead of %v", what, l, e, want)
	}
}

// P6.7, P6.8, P6.9
func TestAnyFraction(t *testing.T) {
	r := rand.New(rand.NewPCG(6, 8))
	clashed, none := 0, api.Word{}
	for range 1000 {
		f := anyFraction(r, 6, 5)
		var want []uint16
		for run := range uint16(1) << f.Factors {
			broken := func(w api.Word) bool { return sign(w.Mask, run) != constant(w) }
			if !slices.ContainsFunc(f.Words, broken) {
				want = append(want, run)
			}
		}
		runs, e := matrix.Runs(f)
		isList(t, "Runs", runs, e, want...)
		relation, e := matrix.Relation(f)
		all := products(f.Words)
		if slices.Contains(all, odd(0)) {
			isError(t, "Relation", e, api.ErrClash, relation)
			isList(t, "Runs of words that contradict each other", runs, api.OK)
			clashed++
			continue
		}
		all = slices.DeleteFunc(all, func(w api.Word) bool { return w == none })
		has(t, "Relation", relation, e, all)
		effect := uint16(r.IntN(1 << f.Factors))
		aliases, e := matrix.Aliases(f, effect)
		for i, w := range all {
			all[i].Mask = w.Mask ^ effect
		}
		has(t, "Aliases", aliases, e, all)
		if n, e := matrix.Resolution(f); len(relation) > 0 {
			is(t, "Resolution", n, e, bits.OnesCount16(relation[0].Mask))
		}
	}
	if clashed < 100 {
		t.Error("few fractions clashed:", clashed)
	}
}

// smallest returns how many words the smallest set has whose products are those of a list without contradictions.
func smallest(words []api.Word) int {
	best := len(words)
	whole := len(products(words))
	for choice := range 1 << len(words) {
		var some []api.Word
		for k, w := range words {
			if choice>>k&1 == 1 {
				some = append(some, w)
			}
		}
		if len(some) < best && len(products(some)) == whole {
			best = len(some)
		}
	}
	return best
}

// P6.14
func TestNumberOfRuns(t *testing.T) {
	r := rand.New(rand.NewPCG(6, 14))
	less := 0
	for range 500 {
		f := anyFraction(r, 8, 5)
		if _, e := matrix.Relation(f); e == api.ErrClash {
			continue
		}
		words := smallest(f.Words)
		runs, e := matrix.Runs(f)
		is(t, "the number of runs", len(runs), e, 1<<(f.Factors-words))
		if words < len(f.Words) {
			less++
		}
	}
	if less < 30 {
		t.Error("few fractions had a word too much:", less)
	}
}

// P6.14
func TestSigns(t *testing.T) {
	r := rand.New(rand.NewPCG(14, 6))
	for range 100 {
		f := anyFraction(r, 6, 4)
		runs, _ := matrix.Runs(f)
		if len(runs) == 0 {
			continue
		}
		a := uint16(r.IntN(1 << f.Factors))
		aliases, e := matrix.Aliases(f, a)
		for b := range uint16(1) << f.Factors {
			same := 0
			for _, run := range runs {
				if sign(a, run) == sign(b, run) {
					same++
				}
			}
			k := slices.IndexFunc(aliases, func(w api.Word) bool { return w.Mask == b })
			switch {
			case a == b || k >= 0 && !aliases[k].Odd:
				is(t, "the same sign in all runs", same, e, len(runs))
			case k >= 0:
				is(t, "opposite signs in all runs", same, e, 0)
			default:
				is(t, "the same sign in half of the runs", 2*same, e, len(runs))
			}
		}
	}
}

// formOf returns the form whose terms are effects.
func formOf(factors int, effects []uint16) fit.Form {
	f := fit.Form{Inputs: factors}
	for _, effect := range effects {
		term := make([]int, factors)
		for k := range term {
			term[k] = int(effect >> k & 1)
		}
		f.Terms = append(f.Terms, term)
	}
	return f
}

// dataOf returns the points of runs.
func dataOf(factors int, runs []uint16) []fit.Point {
	var data []fit.Point
	for _, run := range runs {
		var p fit.Point
		for k := range factors {
			p.X = append(p.X, exact.Whole(int64(sign(1<<k, run))))
		}
		data = append(data, p)
	}
	return data
}

// P6.14: a form is told by the runs just if no two of its terms are aliases.
func TestWhatIsTold(t *testing.T) {
	r := rand.New(rand.NewPCG(14, 2))
	told, hidden := 0, 0
	for range 300 {
		f := anyFraction(r, 5, 2)
		runs, _ := matrix.Runs(f)
		if len(runs) == 0 {
			continue
		}
		var effects []uint16
		for _, k := range r.Perm(1 << f.Factors)[:1+r.IntN(min(6, 1<<f.Factors))] {
			effects = append(effects, uint16(k))
		}
		mixed := slices.ContainsFunc(effects, func(a uint16) bool {
			aliases, _ := matrix.Aliases(f, a)
			return slices.ContainsFunc(aliases, func(w api.Word) bool { return slices.Contains(effects, w.Mask) })
		})
		rank, e := fit.Rank(formOf(f.Factors, effects), dataOf(f.Factors, runs))
		is(t, "is told", rank == len(effects), e, !mixed)
		if mixed {
			hidden++
		} else {
			told++
		}
	}
	if told < 50 || hidden < 50 {
		t.Error("not all cases have come:", told, hidden)
	}
}
