package hall_test

import (
	"math/rand/v2"
	"reflect"
	"testing"

	"venturi/api"
	"venturi/hall"
)

// memory returns where all lists in a value are.
func memory(v reflect.Value) []uintptr {
	var found []uintptr
	switch v.Kind() {
	case reflect.Interface:
		return memory(v.Elem())
	case reflect.Slice:
		if v.Len() > 0 {
			found = append(found, v.Pointer())
		}
		for i := range v.Len() {
			found = append(found, memory(v.Index(i))...)
		}
	case reflect.Struct:
		for i := range v.NumField() {
			found = append(found, memory(v.Field(i))...)
		}
	}
	return found
}

// apart checks that results share no memory with arguments, nor with each other.
func apart(t *testing.T, what string, arguments, results any) {
	t.Helper()
	seen := map[uintptr]bool{}
	for _, p := range memory(reflect.ValueOf(arguments)) {
		seen[p] = true
	}
	for _, p := range memory(reflect.ValueOf(results)) {
		if seen[p] {
			t.Errorf("%s shares memory", what)
		}
		seen[p] = true
	}
}

// given is all that the functions get.
type given struct {
	Hall      api.Hall
	Campaigns []api.Campaign
	Plan      []int
	More      api.Campaign
	Now       int
}

// anyGiven returns the same as another call with the same numbers, in new memory.
func anyGiven(a, b uint64) given {
	r := rand.New(rand.NewPCG(a, b))
	var g given
	g.Hall, g.Campaigns, g.Plan = anyKept(r, 12, 4)
	// What is behind the end of a list must stay as it is, too.
	g.Campaigns = append(g.Campaigns, api.Campaign{Customer: 7})[:len(g.Campaigns)]
	g.Plan = append(g.Plan, 77)[:len(g.Plan)]
	g.More, g.Now = anyCampaign(r, g.Hall), r.IntN(len(g.Hall.Staff)+1)
	return g
}

// R4: results are new memory, and no argument is changed.
func TestMemory(t *testing.T) {
	for k := range uint64(1000) {
		g, before := anyGiven(k, 10), anyGiven(k, 10)
		calls := append(keepers(g.More, 1), withoutPlan()...)
		calls = append(calls, call{"Check", func(h api.Hall, l []api.Campaign, plan []int) (api.Errno, []any) {
			_, e := hall.Check(h, l, plan)
			return e, nil
		}}, call{"Replan", func(h api.Hall, l []api.Campaign, plan []int) (api.Errno, []any) {
			x, cost, e := hall.Replan(h, l, plan, g.Now)
			return e, []any{x, cost}
		}})
		for _, c := range calls {
			_, results := c.do(g.Hall, g.Campaigns, g.Plan)
			apart(t, c.name, g, results)
			_, again := c.do(g.Hall, g.Campaigns, g.Plan)
			apart(t, c.name+" again", results, again)
			if !reflect.DeepEqual(results, again) {
				t.Error(c.name, "twice", results, again)
			}
		}
		whole := func(g given) any {
			return []any{g, g.Campaigns[:len(g.Campaigns)+1], g.Plan[:len(g.Plan)+1]}
		}
		if !reflect.DeepEqual(whole(g), whole(before)) {
			t.Fatal("an argument was changed", g, before)
		}
	}
}

// R3: it makes no difference whether a list is nil or empty.
func TestEmpty(t *testing.T) {
	h := open(3)
	for _, l := range [][]api.Campaign{nil, {}} {
		for _, plan := range [][]int{nil, {}} {
			for _, c := range append(keepers(api.Campaign{Hours: 1, Late: 3}, 0), withoutPlan()...) {
				e, _ := c.do(h, l, plan)
				isError(t, c.name, e, api.OK)
			}
			isReplan(t, "none", h, l, plan, 1, nil, 0, true)
			isBreach(t, "none", h, l, plan, api.Breach{})
		}
	}
	for _, none := range [][]int{nil, {}} {
		isError(t, "no hours", hall.CheckHall(api.Hall{Rooms: 1, Staff: none, Energy: none}), api.ErrArg)
	}
}
