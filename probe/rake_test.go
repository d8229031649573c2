package probe_test

import (
	"math"
	"math/rand/v2"
	"slices"
	"testing"

	"venturi/api"
	"venturi/exact"
	"venturi/probe"
)

// rake returns so many equal boxes.
func rake(b exact.Box, n int) []exact.Box {
	var l []exact.Box
	for range n {
		l = append(l, b)
	}
	return l
}

// P4.11
func TestMean(t *testing.T) {
	for _, c := range []struct {
		what   string
		l      []exact.Box
		lo, hi string
	}{
		{"two", []exact.Box{span("1", "2"), span("2", "3")}, "1.5", "2.5"},
		{"one", []exact.Box{span("-1", "2/3")}, "-1", "2/3"},
		{"three", []exact.Box{span("-1", "1"), only("5"), span("0", "1/2")}, "4/3", "13/6"},
		{"the most", rake(span("1/3", "7"), api.MaxRake), "1/3", "7"},
	} {
		b, e := probe.Mean(c.l)
		isBox(t, c.what, b, e, c.lo, c.hi)
	}
	for _, c := range []struct {
		what string
		l    []exact.Box
		want api.Errno
	}{
		{"no box", nil, api.ErrNone},
		{"empty", []exact.Box{}, api.ErrNone},
		{"too many", rake(only("1"), api.MaxRake+1), api.ErrLong},
	} {
		b, e := probe.Mean(c.l)
		isError(t, c.what, e, c.want, b)
	}
}

// P4.11
func TestUniform(t *testing.T) {
	two := []exact.Box{span("1", "2"), span("2", "3")}
	for _, c := range []struct {
		what  string
		l     []exact.Box
		limit string
		want  api.Ruling
	}{
		{"example 6", two, "2", api.Yes},
		{"example 6", two, "1", api.Unsure},
		{"example 6", two, "0", api.Unsure},
		{"just less", two, "1.99", api.Unsure},
		{"one box is one number", []exact.Box{span("0", "9")}, "0", api.Yes},
		{"equal numbers", rake(only("5"), 3), "0", api.Yes},
		{"the greatest and the least one are not of the same box", []exact.Box{span("0", "10"), only("5")}, "5", api.Yes},
		{"or it may be greater", []exact.Box{span("0", "10"), only("4")}, "5", api.Unsure},
		{"a wide box in front", []exact.Box{span("0", "10"), only("4"), only("6")}, "6", api.Yes},
		{"a wide box behind", []exact.Box{only("4"), only("6"), span("0", "10")}, "5.99", api.Unsure},
		{"far away", []exact.Box{span("1", "2"), span("2", "3"), only("5")}, "2", api.No},
		{"just as far as the limit", []exact.Box{span("1", "2"), only("5")}, "3", api.Unsure},
		{"descending", []exact.Box{only("5"), span("1", "2")}, "2.99", api.No},
		{"descending, near", []exact.Box{only("5"), span("1", "2")}, "4", api.Yes},
		{"two differ, which have a third one between", []exact.Box{only("0"), span("0", "2"), only("2")}, "1", api.No},
		{"the most", rake(span("0", "1"), api.MaxRake), "1", api.Yes},
	} {
		a, e := probe.Uniform(c.l, num(c.limit))
		is(t, c.what, a, e, c.want)
	}
	for _, c := range []struct {
		what  string
		l     []exact.Box
		limit string
		want  api.Errno
	}{
		{"no box, limit below 0", nil, "-1", api.ErrNone},
		{"empty", []exact.Box{}, "0", api.ErrNone},
		{"too many, limit below 0", rake(only("1"), api.MaxRake+1), "-1", api.ErrLong},
		{"limit below 0", two, "-1/9", api.ErrRange},
		{"limit below 0 for one box", two[:1], "-1", api.ErrRange},
	} {
		a, e := probe.Uniform(c.l, num(c.limit))
		isError(t, c.what, e, c.want, a)
	}
}

// choices calls a function with each list of numbers, one of each box, that are ends of any of the boxes.
func choices(all, rest []exact.Box, call func(l []exact.Num)) {
	if len(rest) == 0 {
		call(nil)
		return
	}
	for _, b := range all {
		for _, x := range ends(b) {
			if rest[0].Has(x) {
				choices(all, rest[1:], func(l []exact.Num) { call(append(slices.Clone(l), x)) })
			}
		}
	}
}

// P4.11: of all choices, one of numbers that are ends of boxes has the least difference, and another one the greatest.
func TestUniformByChoices(t *testing.T) {
	random := rand.New(rand.NewPCG(4, 11))
	answers := map[api.Ruling]int{}
	for range 600 {
		var l []exact.Box
		for range 1 + random.IntN(4) {
			l = append(l, anyBox(random))
		}
		var found []exact.Num
		choices(l, l, func(l []exact.Num) { found = append(found, hull(l...).Width()) })
		differences := hull(found...)
		limit := anyOf(random, differences.Lo(), differences.Hi(), anyNum(random).Abs(), within(random, differences))
		want := api.Unsure
		if differences.Hi().Cmp(limit) <= 0 {
			want = api.Yes
		} else if differences.Lo().Cmp(limit) > 0 {
			want = api.No
		}
		if a, e := probe.Uniform(l, limit); e != api.OK || a != want {
			t.Fatalf("%v within %v: %d instead of %d, error %d", l, limit, a, want, e)
		}
		answers[want]++
	}
	if answers[api.Yes] < 50 || answers[api.No] < 50 || answers[api.Unsure] < 50 {
		t.Error("too few boxes of a kind", answers)
	}
}

// reading returns what a module tells of a tap.
func reading(tap, module int, b exact.Box) probe.Reading {
	return probe.Reading{Tap: tap, Module: module, Box: b}
}

// isSets compares sets of modules without error.
func isSets(t *testing.T, what string, got [][]int, e api.Errno, want ...[]int) {
	t.Helper()
	if e != api.OK || !slices.EqualFunc(got, want, slices.Equal[[]int]) {
		t.Errorf("%s: %v, error %d, instead of %v", what, got, e, want)
	}
}

// P4.12
func TestSuspects(t *testing.T) {
	one, two, five := span("1", "2"), span("2", "3"), span("5", "6")
	for _, c := range []struct {
		what string
		l    []probe.Reading
		want [][]int
	}{
		{"example 6", []probe.Reading{reading(0, 0, one), reading(0, 1, two), reading(0, 2, five)}, [][]int{{2}}},
		{"all agree", []probe.Reading{reading(0, 0, one), reading(0, 1, two)}, [][]int{{}}},
		{"no reading", nil, [][]int{{}}},
		{"no reading of an empty list", []probe.Reading{}, [][]int{{}}},
		{"one of two", []probe.Reading{reading(0, 7, one), reading(0, 3, five)}, [][]int{{3}, {7}}},
		{"a module that contradicts itself", []probe.Reading{reading(0, 4, one), reading(0, 4, five)}, [][]int{{4}}},
		{"other taps", []probe.Reading{reading(0, 4, one), reading(1, 4, five)}, [][]int{{}}},
		{"any taps", []probe.Reading{reading(math.MaxInt, 0, one), reading(math.MinInt, 1, one), reading(math.MaxInt, 1, five), reading(math.MinInt, 2, five)}, [][]int{{1}}},
		{"in pairs", []probe.Reading{reading(0, 6, one), reading(0, 1, five), reading(1, 2, one), reading(1, 5, five)}, [][]int{{1, 2}, {1, 5}, {2, 6}, {5, 6}}},
		{"all but one", []probe.Reading{reading(0, 2, only("2")), reading(0, 1, only("1")), reading(0, 0, only("0"))}, [][]int{{0, 1}, {0, 2}, {1, 2}}},
		{"two by two, but not all: never with boxes", []probe.Reading{reading(0, 0, span("0", "2")), reading(0, 1, span("1", "3")), reading(0, 2, span("2", "4"))}, [][]int{{}}},
		{"the first two have less than each", []probe.Reading{reading(0, 0, span("0", "2")), reading(0, 1, span("1", "3")), reading(0, 2, span("5/2", "4"))}, [][]int{{0}, {2}}},
		{"several taps blame one", []probe.Reading{reading(0, 0, one), reading(0, 1, five), reading(1, 0, one), reading(1, 2, five)}, [][]int{{0}}},
	} {
		l, e := probe.Suspects(c.l)
		isSets(t, c.what, l, e, c.want...)
	}
	var all []probe.Reading
	for module := range api.MaxModules {
		all = append(all, reading(module, module, one), reading(module, module, five))
	}
	l, e := probe.Suspects(all)
	isSets(t, "every module contradicts itself", l, e, []int{0, 1, 2, 3, 4, 5, 6, 7})
	var full []probe.Reading
	for n := range api.MaxTaps {
		full = append(full, reading(n/2, n%2, []exact.Box{one, five}[n%2]))
	}
	l, e = probe.Suspects(full)
	isSets(t, "the most readings", l, e, []int{0}, []int{1})
	for _, c := range []struct {
		what string
		l    []probe.Reading
		want api.Errno
	}{
		{"module 8", []probe.Reading{reading(0, 8, one)}, api.ErrRange},
		{"module -1", []probe.Reading{reading(0, 0, one), reading(0, -1, one)}, api.ErrRange},
		{"any module", []probe.Reading{reading(0, math.MaxInt, one)}, api.ErrRange},
		{"any module below 0", []probe.Reading{reading(0, math.MinInt, one)}, api.ErrRange},
		{"too many", append(full, reading(0, 8, one)), api.ErrLong},
	} {
		l, e := probe.Suspects(c.l)
		isError(t, c.what, e, c.want, l)
	}
}

// P4.12: readings agree just if no two modules contradict each other, since boxes of which each two have a number in common have one all together.
func TestSuspectsByPairs(t *testing.T) {
	random := rand.New(rand.NewPCG(4, 12))
	sizes := map[int]int{}
	for range 500 {
		var l []probe.Reading
		contradict := map[[2]int]bool{}
		for range random.IntN(16) {
			r := reading(random.IntN(3), random.IntN(api.MaxModules), anyBox(random))
			l = append(l, r)
			for _, other := range l {
				if apart := other.Box.Hi().Cmp(r.Box.Lo()) < 0 || r.Box.Hi().Cmp(other.Box.Lo()) < 0; apart && other.Tap == r.Tap {
					contradict[[2]int{other.Module, r.Module}] = true
				}
			}
		}
		got, e := probe.Suspects(l)
		want := covers(contradict)
		isSets(t, "readings", got, e, want...)
		sizes[len(want[0])]++
	}
	if len(sizes) < 4 {
		t.Error("too few kinds of readings", sizes)
	}
}

// covers returns all smallest sets that have one of each pair, in ascending order.
func covers(pairs map[[2]int]bool) [][]int {
	for size := 0; ; size++ {
		var found [][]int
		var grow func(set []int, next int)
		grow = func(set []int, next int) {
			if len(set) == size {
				for p := range pairs {
					if !slices.Contains(set, p[0]) && !slices.Contains(set, p[1]) {
						return
					}
				}
				found = append(found, slices.Clone(set))
				return
			}
			for module := next; module < api.MaxModules; module++ {
				grow(append(slices.Clone(set), module), module+1)
			}
		}
		grow(nil, 0)
		if len(found) > 0 {
			return found
		}
	}
}
