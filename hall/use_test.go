package hall_test

import (
	"slices"
	"testing"

	"venturi/api"
	"venturi/hall"
)

// isUse checks what Use tells of a plan.
func isUse(t *testing.T, what string, h api.Hall, l []api.Campaign, plan, energy, rooms []int) {
	t.Helper()
	gotEnergy, gotRooms, e := hall.Use(h, l, plan)
	isList(t, what+": energy", gotEnergy, e, energy...)
	isList(t, what+": preparations", gotRooms, e, rooms...)
}

// isRooms checks what Rooms tells of a plan.
func isRooms(t *testing.T, what string, h api.Hall, l []api.Campaign, plan []int, want ...int) {
	t.Helper()
	rooms, e := hall.Rooms(h, l, plan)
	isList(t, what, rooms, e, want...)
}

// P10.3: the document's example 1.
func TestExampleOfUse(t *testing.T) {
	h, l := example()
	cost, e := hall.Cost(h, l, []int{1, 4})
	is(t, "Cost", cost, e, 18)
	cost, e = hall.Cost(h, l, []int{3, 1})
	is(t, "Cost", cost, e, 11)
	isUse(t, "1, 4", h, l, []int{1, 4}, []int{0, 5, 5, 0, 5, 0}, []int{1, 0, 0, 1, 0, 0})
	isUse(t, "3, 1", h, l, []int{3, 1}, []int{0, 5, 0, 5, 5, 0}, []int{1, 0, 1, 0, 0, 0})
	isRooms(t, "1, 4", h, l, []int{1, 4}, 0, 0)
}

// P10.3
func TestCost(t *testing.T) {
	h := open(50)
	l := []api.Campaign{{Hours: 24, Late: 50, Weight: 100}, {Prepare: 20, Hours: 1, Late: 50, Weight: 7}, {Hours: 3, Late: 50}}
	cost, e := hall.Cost(h, l, []int{0, 24, 47})
	is(t, "Cost", cost, e, 2400+175)
	cost, e = hall.Cost(h, l, []int{20, 44, 0})
	is(t, "Cost", cost, e, 4400+315)
}

// P10.3
func TestUse(t *testing.T) {
	h := open(7)
	l := []api.Campaign{
		{Prepare: 4, Hours: 1, Energy: 3, Late: 7},
		{Prepare: 2, Hours: 2, Energy: 10, Late: 7},
		{Prepare: 0, Hours: 1, Energy: 0, Late: 7},
		{Prepare: 1, Hours: 2, Energy: 1, Late: 7},
	}
	isUse(t, "Use", h, l, []int{4, 2, 0, 5}, []int{0, 0, 10, 10, 3, 1, 1}, []int{2, 2, 1, 1, 1, 0, 0})
	isUse(t, "no campaigns", h, nil, nil, all(7, 0), all(7, 0))
	isRooms(t, "no campaigns", h, nil, nil)
}

// P10.3: what Use and Cost tell of random plans, told by lists of their hours.
func TestUseOfPlans(t *testing.T) {
	for r := range cases(3000) {
		h, l, plan := anyKept(r, 14, 6)
		energy, rooms := all(len(h.Staff), 0), all(len(h.Staff), 0)
		for i, c := range l {
			for _, hour := range runHours(c, plan[i]) {
				energy[hour] = c.Energy
			}
			for _, hour := range prepareHours(c, plan[i]) {
				rooms[hour]++
			}
		}
		isUse(t, "random", h, l, plan, energy, rooms)
		cost, e := hall.Cost(h, l, plan)
		is(t, "random", cost, e, price(l, plan))
	}
}

// P10.3: rooms go to preparations in the order of their first hours, and of their numbers.
func TestRooms(t *testing.T) {
	h := open(30)
	c := func(prepare int) api.Campaign { return api.Campaign{Prepare: prepare, Hours: 1, Late: 30} }
	isRooms(t, "the same first hour", h, []api.Campaign{c(3), c(2), c(4)}, []int{3, 2, 4}, 0, 1, 2)
	isRooms(t, "the later ones first", h, []api.Campaign{c(3), c(3), c(3)}, []int{12, 11, 10}, 2, 1, 0)
	isRooms(t, "runs do not count", h, []api.Campaign{c(1), c(9)}, []int{9, 10}, 1, 0)
	isRooms(t, "no preparations", h, []api.Campaign{c(0), c(2), c(0)}, []int{9, 8, 2}, -1, 0, -1)
	isRooms(t, "a room is free at once", h, []api.Campaign{c(2), c(3), c(4)}, []int{2, 5, 9}, 0, 0, 0)
	// The hours 0 to 3, 1, 2 to 5, 2, and 4.
	isRooms(t, "the least room that is free", h, []api.Campaign{c(4), c(1), c(4), c(1), c(1)}, []int{4, 2, 6, 3, 5}, 0, 1, 1, 2, 0)
	isRooms(t, "the first room again", h, []api.Campaign{c(9), c(2), c(8), c(2)}, []int{9, 3, 13, 8}, 0, 1, 1, 2)
}

// roomsOf gives rooms to preparations hour by hour.
func roomsOf(h api.Hall, l []api.Campaign, plan []int) []int {
	rooms := all(len(l), -1)
	taken := make([][]int, len(l)+1) // of each room: the hours in which it is taken
	for hour := range h.Staff {
		for i, c := range l {
			hours := prepareHours(c, plan[i])
			if len(hours) == 0 || hours[0] != hour {
				continue
			}
			for rooms[i] = 0; distance(taken[rooms[i]], hours) == 0; rooms[i]++ {
			}
			taken[rooms[i]] = append(taken[rooms[i]], hours...)
		}
	}
	return rooms
}

// P10.3, P10.11: no two preparations are in a room in the same hour, and there are enough rooms.
func TestRoomsOfPlans(t *testing.T) {
	most := 0
	for r := range cases(1500) {
		h, l, plan := anyKept(r, 30, 16)
		rooms, e := hall.Rooms(h, l, plan)
		isList(t, "random", rooms, e, roomsOf(h, l, plan)...)
		for i, c := range l {
			most = max(most, rooms[i])
			is(t, "none without preparation", rooms[i] == -1, e, c.Prepare == 0)
			is(t, "a room of the hall", rooms[i] < h.Rooms, e, true)
			for j := range i {
				both := rooms[i] >= 0 && rooms[i] == rooms[j]
				if both && distance(prepareHours(c, plan[i]), prepareHours(l[j], plan[j])) == 0 {
					t.Error("two preparations in one room", h, l, plan, i, j)
				}
			}
		}
	}
	if most < 2 {
		t.Error("too few rooms", most)
	}
}

// P10.11: as many rooms as there can be, with as many preparations at once.
func TestAllRooms(t *testing.T) {
	h := open(96)
	var l []api.Campaign
	var plan, want []int
	for i := range 16 {
		l = append(l, api.Campaign{Prepare: 4, Hours: 1, Late: 96})
		plan = append(plan, 4+i)
		want = append(want, i%4)
	}
	isRooms(t, "16", h, l, plan, want...)
	slices.Reverse(plan)
	slices.Reverse(want)
	isRooms(t, "16 backwards", h, l, plan, want...)
	h.Rooms = 3
	isBreach(t, "16 in three rooms", h, l, plan, api.Breach{Rule: api.RuleRooms, Hour: 3})
}
