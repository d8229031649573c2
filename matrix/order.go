package matrix

import (
	"maps"
	"slices"

	"venturi/api"
)

// maxBlock is the greatest Block of a setting.
const maxBlock = 1000

// By how much the seeds of blocks, and of the first settings of groups, grow with their numbers.
const (
	perBlock = 1000003
	perFirst = 7919
)

// draws is the state of draws.
type draws uint64

// below returns the next draw below m.
func (d *draws) below(m int) int {
	*d = *d*6364136223846793005 + 1442695040888963407
	upper := uint64(*d >> 32)
	return int(upper * uint64(m) >> 32)
}

// shuffle brings a list into the order of Shuffle.
func shuffle[T any](seed uint64, l []T) {
	state := draws(seed)
	for k := range len(l) - 1 {
		i := len(l) - 1 - k
		j := state.below(i + 1)
		l[i], l[j] = l[j], l[i]
	}
}

// Shuffle returns the numbers from 0 to n - 1 in an order by a seed; ErrRange unless n is from 0 to MaxSettings.
func Shuffle(seed uint64, n int) ([]int, api.Errno) {
	if n < 0 || n > api.MaxSettings {
		return nil, api.ErrRange
	}
	l := make([]int, n)
	for i := range l {
		l[i] = i
	}
	shuffle(seed, l)
	return l, api.OK
}

// checkSettings returns the errors that all functions with a plan and settings have first.
func checkSettings(p api.Plan, settings []api.Setting) api.Errno {
	if e := CheckPlan(p); e != api.OK {
		return e
	}
	if len(settings) > api.MaxSettings {
		return api.ErrLong
	}
	wrong := func(s api.Setting) bool {
		return !areLevels(p, s.Levels) || !allowed(p, s.Levels) || s.Block < 0 || s.Block > maxBlock
	}
	return argument(!slices.ContainsFunc(settings, wrong))
}

// group is what the settings of a group have in common.
type group struct {
	block int
	hard  [api.MaxFactors]int // the levels of the hard factors, and 0 for all others
}

// groupOf returns the group of a setting that is valid for a plan.
func groupOf(p api.Plan, s api.Setting) group {
	g := group{block: s.Block}
	for i, f := range p.Factors {
		if f.Hard {
			g.hard[i] = s.Levels[i]
		}
	}
	return g
}

// Order returns the order of settings by a seed; ErrArg if the plan is not valid, ErrLong if there are more than MaxSettings settings, ErrArg if they are not valid.
func Order(p api.Plan, settings []api.Setting, seed uint64) ([]int, api.Errno) {
	if e := checkSettings(p, settings); e != api.OK {
		return nil, e
	}
	members := map[group][]int{}
	blocks := map[int][]group{}
	for i, s := range settings {
		g := groupOf(p, s)
		if len(members[g]) == 0 {
			blocks[s.Block] = append(blocks[s.Block], g)
		}
		members[g] = append(members[g], i)
	}
	order := make([]int, 0, len(settings))
	for _, block := range slices.Sorted(maps.Keys(blocks)) {
		groups := blocks[block]
		shuffle(seed+uint64(block)*perBlock, groups)
		for _, g := range groups {
			own := members[g]
			shuffle(seed+1+uint64(own[0])*perFirst, own)
			order = append(order, own...)
		}
	}
	return order, api.OK
}
