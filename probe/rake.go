package probe

import (
	"cmp"
	"slices"

	"venturi/api"
	"venturi/exact"
)

// Reading is what a module of a scanner tells of a tap.
type Reading struct {
	Tap, Module int
	Box         exact.Box
}

// checkRake returns ErrNone if there is no box, ErrLong if there are more than MaxRake.
func checkRake(l []exact.Box) api.Errno {
	if len(l) == 0 {
		return api.ErrNone
	}
	if len(l) > api.MaxRake {
		return api.ErrLong
	}
	return api.OK
}

// Mean returns the box of the means of the numbers of all boxes, one of each; ErrNone if there is no box, ErrLong if there are more than MaxRake.
func Mean(l []exact.Box) (exact.Box, api.Errno) {
	if e := checkRake(l); e != api.OK {
		return exact.Box{}, e
	}
	var sum exact.Box
	for _, b := range l {
		sum = sum.Add(b)
	}
	return sum.Div(exact.Point(exact.Whole(int64(len(l)))))
}

// Uniform says whether the greatest and the least one of such numbers differ by at most limit; ErrNone if there is no box, ErrLong if there are more than MaxRake, ErrRange unless limit is at least 0.
func Uniform(l []exact.Box, limit exact.Num) (api.Ruling, api.Errno) {
	if e := checkRake(l); e != api.OK {
		return 0, e
	}
	if limit.Sign() < 0 {
		return 0, api.ErrRange
	}
	yes, no := true, false
	for i, b := range l {
		for _, c := range slices.Concat(l[:i], l[i+1:]) { // not b itself, of which there is only one number
			difference := b.Sub(c)
			yes = yes && difference.Hi().Cmp(limit) <= 0
			// If no two boxes are farther apart than limit, each one has a number from the least Hi to the greatest Lo, or all have one in common.
			no = no || difference.Lo().Cmp(limit) > 0
		}
	}
	return ruling(yes, no), api.OK
}

// agree reports whether for each tap there is a number that all readings of it have, but those that are left out.
func agree(l []Reading, out func(r Reading) bool) bool {
	taps := map[int]exact.Box{}
	for _, r := range l {
		if out(r) {
			continue
		}
		b := r.Box
		if told, ok := taps[r.Tap]; ok {
			if b, ok = b.Meet(told); !ok {
				return false
			}
		}
		taps[r.Tap] = b
	}
	return true
}

// sets returns all sets of modules, as lists in ascending order: the smaller sets first, those of one size in ascending order.
func sets() [][]int {
	var all [][]int
	for bits := range 1 << api.MaxModules {
		var set []int
		for module := range api.MaxModules {
			if bits>>module&1 == 1 {
				set = append(set, module)
			}
		}
		all = append(all, set)
	}
	slices.SortFunc(all, func(a, b []int) int {
		return cmp.Or(cmp.Compare(len(a), len(b)), slices.Compare(a, b))
	})
	return all
}

// Suspects returns all smallest sets of modules without whose readings the others agree, in ascending order; ErrLong if there are more than MaxTaps readings, ErrRange if one is of no module.
func Suspects(l []Reading) ([][]int, api.Errno) {
	if len(l) > api.MaxTaps {
		return nil, api.ErrLong
	}
	unknown := func(r Reading) bool { return r.Module < 0 || r.Module >= api.MaxModules }
	if slices.ContainsFunc(l, unknown) {
		return nil, api.ErrRange
	}
	var smallest [][]int
	for _, set := range sets() {
		if len(smallest) > 0 && len(set) > len(smallest[0]) {
			break
		}
		if agree(l, func(r Reading) bool { return slices.Contains(set, r.Module) }) {
			smallest = append(smallest, set)
		}
	}
	return smallest, api.OK
}
