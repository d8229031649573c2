package hall

import (
	"slices"

	"venturi/api"
)

// search looks for the places of open campaigns for which the cost is least. It places them in the order of their numbers and goes through their hours in ascending order, so that of several plans with the least cost it finds the smallest list first.
type search struct {
	hall   api.Hall
	runs   []run   // with the places of those that are not open, and of the open ones that have been placed
	open   []int   // which runs are open
	hours  [][]int // of each open one: the first hours which all that are not open allow
	least  []int   // the least cost of the open ones from each of them on
	counts []int   // the preparations of each hour
	best   []run   // nil until there is one
	cost   int     // of the best one
}

// arrange returns the plan with the least cost in which the runs that are not open keep their places and the open ones begin now or later, and its cost; ErrLong if there are more than MaxBest open ones, ErrNoPlan if there is no plan.
func arrange(h api.Hall, runs []run, isOpen func(run) bool, now int) ([]int, int, api.Errno) {
	s := search{hall: h, runs: slices.Clone(runs)}
	for i, r := range runs {
		if isOpen(r) {
			s.open = append(s.open, i)
		}
	}
	if len(s.open) > api.MaxBest {
		return nil, 0, api.ErrLong
	}
	fixed := slices.DeleteFunc(slices.Clone(runs), isOpen)
	if !keep(h, fixed) || !s.prepare(fixed, now) {
		return nil, 0, api.ErrNoPlan
	}
	s.place(0, sum(fixed))
	if s.best == nil {
		return nil, 0, api.ErrNoPlan
	}
	hours := make([]int, len(runs))
	for i, r := range s.best {
		hours[i] = r.first
	}
	return hours, s.cost, api.OK
}

// prepare finds the hours of the open campaigns beside the fixed runs, and reports whether each of them has some.
func (s *search) prepare(fixed []run, now int) bool {
	s.counts = preparations(s.hall, fixed)
	s.least = make([]int, len(s.open)+1)
	s.hours = make([][]int, len(s.open))
	for k := len(s.open) - 1; k >= 0; k-- {
		c := s.runs[s.open[k]].Campaign
		before := func(t int) bool { return t-c.Prepare < now }
		s.hours[k] = slices.DeleteFunc(starts(s.hall, fixed, c), before)
		if len(s.hours[k]) == 0 {
			return false
		}
		s.least[k] = s.least[k+1] + run{Campaign: c, first: s.hours[k][0]}.cost()
	}
	return true
}

// place places the open campaigns from k on, beside those before, with which the cost is so much.
func (s *search) place(k, cost int) {
	if k == len(s.open) {
		s.best, s.cost = make([]run, len(s.runs)), cost
		copy(s.best, s.runs)
		return
	}
	r := &s.runs[s.open[k]]
	for _, hour := range s.hours[k] {
		r.first = hour
		with := cost + r.cost()
		if s.best != nil && with+s.least[k+1] >= s.cost {
			return // later hours cost no less
		}
		if s.fits(k) {
			count(s.counts, *r, 1)
			s.place(k+1, with)
			count(s.counts, *r, -1)
		}
	}
}

// fits reports whether the open campaign k keeps the rules beside the open ones before it, and has a room.
func (s *search) fits(k int) bool {
	r := s.runs[s.open[k]]
	near := func(i int) bool { return clash(s.hall, r, s.runs[i]) }
	full := func(preparations int) bool { return preparations >= s.hall.Rooms }
	return !slices.ContainsFunc(s.open[:k], near) && !slices.ContainsFunc(s.counts[r.begin():r.first], full)
}
