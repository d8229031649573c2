package circuit

import (
	"iter"
	"slices"

	"venturi/api"
	"venturi/exact"
)

// Cell says whether a level can be reached, and how cool then.
type Cell struct {
	Held bool
	Hi   exact.Num
}

// planner returns the stepper of a plant; ErrArg if it is not valid, ErrRange unless most is from 0 to MaxRun.
func planner(p Plant, most int) (stepper, api.Errno) {
	plant, e := stepperOf(p)
	if e == api.OK && (most < 0 || most > api.MaxRun) {
		return stepper{}, api.ErrRange
	}
	return plant, e
}

// reach returns the row of the levels that one step from some of the places can reach. The coolest place comes first; what a hotter one can do, it can do too.
func (p stepper) reach(places []place) []Cell {
	row := make([]Cell, len(p.levels))
	for i, to := range p.levels {
		k := slices.IndexFunc(places, func(from place) bool { return p.can(from.speed, to) })
		if k < 0 {
			continue
		}
		if after, e := p.next(places[k], to); e == api.OK {
			row[i] = Cell{true, after.hi}
		}
	}
	return row
}

// only returns the row in which no cell is held but that of a place, if its speed is one of the levels.
func (p stepper) only(at place) []Cell {
	row := make([]Cell, len(p.levels))
	if i := p.index(at.speed); i >= 0 {
		row[i] = Cell{true, at.hi}
	}
	return row
}

// places returns the places of a row's cells that are held, the coolest one first.
func (p stepper) places(row []Cell) []place {
	var places []place
	for i, c := range row {
		if c.Held {
			places = append(places, place{p.levels[i].speed, c.Hi})
		}
	}
	slices.SortFunc(places, func(a, b place) int { return a.hi.Cmp(b.hi) })
	return places
}

// rows yields what can be reached from a place in each number of steps, from 0 to most.
func (p stepper) rows(at place, most int) iter.Seq[[]Cell] {
	return func(yield func([]Cell) bool) {
		row := p.only(at)
		places := []place{at} // not those of the row, since the speed need not be a level
		for range most {
			if !yield(row) {
				return
			}
			row = p.reach(places)
			places = p.places(row)
		}
		yield(row)
	}
}

// Table returns what can be reached in each number of steps, from 0 to most; ErrArg if the plant is not valid, ErrRange unless most is from 0 to MaxRun.
func Table(p Plant, s State, most int) ([][]Cell, api.Errno) {
	plant, e := planner(p, most)
	if e != api.OK {
		return nil, e
	}
	return slices.Collect(plant.rows(s.place(), most)), api.OK
}

// Proves reports whether a table proves that no run with at most so many steps ends at the target; ErrArg if the plant is not valid, ErrRange unless most is from 0 to MaxRun.
func Proves(p Plant, s State, target, most int, table [][]Cell) (bool, api.Errno) {
	plant, e := planner(p, most)
	if e != api.OK {
		return false, e
	}
	return s.Speed != target && plant.fits(table, most) && plant.misses(table, target) && plant.follows(table, s.place()), api.OK
}

// fits reports whether a table has a row for each number of steps, with a cell for each level.
func (p stepper) fits(table [][]Cell, most int) bool {
	wrong := func(row []Cell) bool { return len(row) != len(p.levels) }
	return len(table) == most+1 && !slices.ContainsFunc(table, wrong)
}

// misses reports whether no cell of the target is held.
func (p stepper) misses(table [][]Cell, target int) bool {
	i := p.index(target)
	return i < 0 || !slices.ContainsFunc(table, func(row []Cell) bool { return row[i].Held })
}

// follows reports whether the first row of a table is that of a place, and each other row has all that one step from the row before, and from the place itself, can reach.
func (p stepper) follows(table [][]Cell, at place) bool {
	same := func(a, b Cell) bool { return a.Held == b.Held && a.Hi.Cmp(b.Hi) == 0 }
	if !slices.EqualFunc(table[0], p.only(at), same) {
		return false
	}
	has := func(a, reached Cell) bool { return !reached.Held || a.Held && a.Hi.Cmp(reached.Hi) <= 0 }
	places := []place{at}
	for _, row := range table[1:] {
		if !slices.EqualFunc(row, p.reach(places), has) {
			return false
		}
		places = p.places(row)
	}
	return true
}

// Soonest returns the speeds of the run with the fewest steps that ends at the target, of several the smallest list; ErrArg if the plant is not valid, ErrRange unless most is from 0 to MaxRun, ErrPlan if there is no such run with at most so many steps.
func Soonest(p Plant, s State, target, most int) ([]int, api.Errno) {
	plant, e := planner(p, most)
	if e != api.OK {
		return nil, e
	}
	if s.Speed == target {
		return nil, api.OK
	}
	i := plant.index(target)
	if i < 0 {
		return nil, api.ErrPlan
	}
	var table [][]Cell
	for row := range plant.rows(s.place(), most) {
		table = append(table, row)
		if row[i].Held {
			return plant.smallest(table, i), api.OK
		}
	}
	return nil, api.ErrPlan
}

// smallest returns the speeds of the smallest run that ends at a level in the last row of a table. Of two runs with the same number of steps, the lesser speeds of both at each step are a run too: the drive can do it, and it is no hotter. So one run has the least speeds at all steps, and they can be found one by one, from the last one to the first one.
func (p stepper) smallest(table [][]Cell, i int) []int {
	speeds := make([]int, len(table)-1)
	for k := range slices.Backward(speeds) {
		to := p.levels[i]
		speeds[k] = to.speed
		i = p.before(table[k], to)
	}
	return speeds
}

// before returns the first level of a row from which a step leads to some level, or -1 if there is none.
func (p stepper) before(row []Cell, to level) int {
	for i, c := range row {
		if c.Held {
			if _, e := p.next(place{p.levels[i].speed, c.Hi}, to); e == api.OK {
				return i
			}
		}
	}
	return -1
}
