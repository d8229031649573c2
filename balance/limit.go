package balance

import (
	"slices"

	"venturi/api"
	"venturi/exact"
)

// Limit is kept by loads if the sum of the products with Row is at most Most.
type Limit struct {
	Row  []exact.Num
	Most exact.Num
}

// checkLimits returns ErrArg if there are more than MaxInputs loads, or the limits are not valid for them.
func checkLimits(l []Limit, loads int) api.Errno {
	other := func(limit Limit) bool { return len(limit.Row) != loads }
	return argument(loads <= api.MaxInputs && len(l) <= api.MaxLimits && !slices.ContainsFunc(l, other))
}

// sum returns the sum that a limit bounds.
func (l Limit) sum(loads []exact.Num) exact.Num {
	sum, _ := exact.Dot(l.Row, loads)
	return sum
}

// broken reports whether loads do not keep a limit.
func (l Limit) broken(loads []exact.Num) bool {
	return l.sum(loads).Cmp(l.Most) > 0
}

// Allowed returns the first limit that some loads in boxes do not keep, or -1; ErrArg if there are more than MaxInputs loads, or the limits are not valid for them.
func Allowed(l []Limit, loads []exact.Box) (int, api.Errno) {
	if e := checkLimits(l, len(loads)); e != api.OK {
		return 0, e
	}
	return slices.IndexFunc(l, func(limit Limit) bool {
		return matrix{limit.Row}.times(loads)[0].Hi().Cmp(limit.Most) > 0
	}), api.OK
}

// Sweep returns the first limit that is not kept on a straight line, or -1; ErrArg if there are more than MaxInputs loads, the limits are not valid for them, or the lists have different lengths.
func Sweep(l []Limit, from, to []exact.Num) (int, api.Errno) {
	if e := checkLimits(l, len(from)); e != api.OK {
		return 0, e
	}
	if len(to) != len(from) {
		return 0, api.ErrArg
	}
	// A sum is greatest at an end of the line.
	return slices.IndexFunc(l, func(limit Limit) bool {
		return limit.broken(from) || limit.broken(to)
	}), api.OK
}

// Room returns how far loads can go in a direction, and whether there is a bound; ErrArg if there are more than MaxInputs loads, the limits are not valid for them, or the lists have different lengths, ErrOver if the loads do not keep some limit.
func Room(l []Limit, loads, direction []exact.Num) (exact.Num, bool, api.Errno) {
	if e := checkLimits(l, len(loads)); e != api.OK {
		return exact.Num{}, false, e
	}
	if len(direction) != len(loads) {
		return exact.Num{}, false, api.ErrArg
	}
	var rooms []exact.Num
	for _, limit := range l {
		if limit.broken(loads) {
			return exact.Num{}, false, api.ErrOver
		}
		if rise := limit.sum(direction); rise.Sign() > 0 {
			rooms = append(rooms, over(limit.Most.Sub(limit.sum(loads)), rise))
		}
	}
	if len(rooms) == 0 {
		return exact.Num{}, false, api.OK
	}
	return slices.MinFunc(rooms, exact.Num.Cmp), true, api.OK
}
