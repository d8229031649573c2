package hall

import (
	"slices"

	"venturi/api"
)

// View returns what a customer sees of each hour; its errors are those of Cost, and ErrRange unless the customer is from 0 to MaxCustomer.
func View(h api.Hall, l []api.Campaign, plan []int, customer int) ([]api.Seen, api.Errno) {
	runs, e := obey(h, l, plan)
	if e != api.OK {
		return nil, e
	}
	if !within(0, customer, api.MaxCustomer) {
		return nil, api.ErrRange
	}
	seen := make([]api.Seen, len(h.Staff))
	for hour := range seen {
		seen[hour] = look(h, runs, customer, hour)
	}
	return seen, api.OK
}

// look returns what a customer sees of an hour.
func look(h api.Hall, runs []run, customer, hour int) api.Seen {
	own := func(r run) bool { return r.Customer == customer && within(r.first, hour, r.end()-1) }
	prepares := func(r run) bool { return r.Customer == customer && within(r.begin(), hour, r.first-1) }
	closes := func(r run) bool {
		return r.Customer != customer && within(r.first-h.Clean, hour, r.end()+h.Clean-1)
	}
	switch {
	case slices.ContainsFunc(runs, own):
		return api.SeenOwn
	case slices.ContainsFunc(runs, prepares):
		return api.SeenPrepare
	case h.Staff[hour] == 0 || slices.ContainsFunc(runs, closes):
		return api.SeenClosed
	}
	return api.SeenFree
}
