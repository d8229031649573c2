package circuit_test

import (
	"math"
	"math/rand/v2"
	"slices"
	"strings"
	"testing"

	"venturi/api"
	"venturi/circuit"
	"venturi/exact"
)

// isRun compares a run without error with the speeds that it should have.
func isRun(t *testing.T, what string, l []int, e api.Errno, want ...int) {
	t.Helper()
	if e != api.OK || !slices.Equal(l, want) {
		t.Errorf("%s: %v, error %d, instead of %v", what, l, e, want)
	}
}

// P3.8
func TestSoonest(t *testing.T) {
	l, e := circuit.Soonest(plant(), at(0, "0"), 100, 5)
	isRun(t, "example 4", l, e, 50, 100)
	l, e = circuit.Soonest(plant(), at(0, "0"), 100, 2)
	isRun(t, "example 4, just enough steps", l, e, 50, 100)
	band := changed(func(p *circuit.Plant) { p.Drive.Bands = [][2]int{{40, 60}} })
	l, e = circuit.Soonest(band, at(0, "0"), 100, 5)
	isError(t, "example 4, a band", e, api.ErrPlan, l)
	l, e = circuit.Soonest(plant(), at(0, "0"), 100, 1)
	isError(t, "example 4, one step", e, api.ErrPlan, l)

	l, e = circuit.Soonest(plant(), at(70, "99"), 70, 0)
	isError(t, "there already, which is no level", e, api.OK, l)
	l, e = circuit.Soonest(plant(), at(50, "0"), 50, 5)
	isError(t, "there already", e, api.OK, l)
	l, e = circuit.Soonest(plant(), at(math.MinInt, "0"), math.MinInt, 5)
	isError(t, "there already, at any integer", e, api.OK, l)
	l, e = circuit.Soonest(plant(), at(70, "0"), 0, 5)
	isRun(t, "from no level", l, e, 0)
	l, e = circuit.Soonest(plant(), at(50, "0"), 70, api.MaxRun)
	isError(t, "to no level", e, api.ErrPlan, l)
	l, e = circuit.Soonest(plant(), at(50, "0"), 100, 0)
	isError(t, "no step", e, api.ErrPlan, l)
	for _, most := range []int{-1, api.MaxRun + 1, math.MaxInt, math.MinInt} {
		l, e = circuit.Soonest(plant(), at(50, "0"), 50, most)
		isError(t, "too many steps", e, api.ErrRange, l)
	}
	for what, p := range wrongPlants() {
		l, e = circuit.Soonest(p, at(50, "0"), 50, -1)
		isError(t, what, e, api.ErrArg, l)
	}
}

// P3.8: of several runs with the fewest steps the smallest one.
func TestSmallestRun(t *testing.T) {
	levels := func(l ...int) circuit.Plant {
		return changed(func(p *circuit.Plant) { p.Drive.Levels = l })
	}
	l, e := circuit.Soonest(levels(0, 25, 50, 75, 100), at(0, "0"), 75, 5)
	isRun(t, "the smallest of several", l, e, 25, 75)
	l, e = circuit.Soonest(levels(0, 40, 45, 90), at(0, "0"), 90, api.MaxRun)
	isRun(t, "the smallest of two", l, e, 40, 90)
	strong := levels(0, 10, 20, 30, 40, 60, 70, 80, 100, 120)
	strong.Drive.Power, strong.Cooler.Hot = num("99"), num("99")
	l, e = circuit.Soonest(strong, at(0, "0"), 120, 5)
	isRun(t, "the smallest of three steps", l, e, 20, 70, 120)
	l, e = circuit.Soonest(strong, at(180, "0"), 0, 5)
	isRun(t, "downwards", l, e, 80, 0)

	// Nobody can go to 100 at once with so much heat, but after some steps at 0.
	hot := changed(func(p *circuit.Plant) { p.Drive.Up, p.Cooler.Rate = 100, num("5") })
	l, e = circuit.Soonest(hot, at(0, "0.8"), 100, 5)
	isRun(t, "just cool enough", l, e, 100)
	l, e = circuit.Soonest(hot, at(0, "0.81"), 100, 5)
	isRun(t, "just not cool enough", l, e, 0, 100)
	l, e = circuit.Soonest(hot, at(50, "3"), 100, 3)
	isRun(t, "cooled first", l, e, 0, 0, 100)
	l, e = circuit.Soonest(hot, at(50, "3"), 100, 2)
	isError(t, "no time for cooling", e, api.ErrPlan, l)
	// Without flow no speed needs power: the heats are equal, and the list decides.
	still := changed(func(p *circuit.Plant) { p.Drive.Flow, p.Cooler.Cold, p.Cooler.Hot = exact.Box{}, num("9"), num("9") })
	l, e = circuit.Soonest(still, at(0, "0"), 100, 5)
	isRun(t, "no power", l, e, 50, 100)
	// All heat is taken away in each step, so that no step before makes a difference.
	cold := changed(func(p *circuit.Plant) { p.Cooler.Rate, p.Cooler.Hot = p.Cooler.Capacity, num("1.6") })
	l, e = circuit.Soonest(cold, at(0, "99"), 100, 5)
	isRun(t, "all is cooled", l, e, 50, 100)
	cold.Cooler.Hot = num("1.59")
	l, e = circuit.Soonest(cold, at(0, "-99"), 100, api.MaxRun)
	isError(t, "all is cooled, but not enough", e, api.ErrPlan, l)
}

// shownTable returns a text of a table.
func shownTable(table [][]circuit.Cell) string {
	var s []string
	for _, row := range table {
		for _, c := range row {
			if c.Held {
				s = append(s, c.Hi.String())
			} else {
				s = append(s, strings.Repeat("-", 1+c.Hi.Sign()*c.Hi.Sign()))
			}
		}
		s = append(s, "/")
	}
	return strings.Join(s, " ")
}

// isTable compares a table without error with its text: the Hi of the cells that are held, and - for others.
func isTable(t *testing.T, what string, table [][]circuit.Cell, e api.Errno, want string) {
	t.Helper()
	if e != api.OK || shownTable(table) != want {
		t.Errorf("%s: %s, error %d, instead of %s", what, shownTable(table), e, want)
	}
}

// P3.9
func TestTable(t *testing.T) {
	table, e := circuit.Table(plant(), at(0, "0"), 2)
	isTable(t, "example 4", table, e, "0 - - / 0 0.2 - / 0 0.2 1.78 /")
	table, e = circuit.Table(plant(), circuit.State{Speed: 50, Heat: span("-9", "1/3")}, 2)
	isTable(t, "the upper end", table, e, "- 1/3 - / 0.3 0.5 1.9 / 0.27 0.47 - /") // 100 would be 2.05 after 0.5 at 50
	table, e = circuit.Table(plant(), at(70, "1"), 1)
	isTable(t, "no level", table, e, "- - - / 0.9 1.1 - /") // 100 would be 2.5
	table, e = circuit.Table(plant(), at(120, "9"), 0)
	isTable(t, "no steps", table, e, "- - - /")
	table, e = circuit.Table(plant(), at(50, "9"), 2)
	isTable(t, "too hot for all", table, e, "- 9 - / - - - / - - - /")
	table, e = circuit.Table(plant(), at(50, "0"), api.MaxRun)
	if e != api.OK || len(table) != api.MaxRun+1 {
		t.Error("the longest table", len(table), e)
	}
	for _, most := range []int{-1, api.MaxRun + 1, math.MaxInt, math.MinInt} {
		table, e = circuit.Table(plant(), at(50, "0"), most)
		isError(t, "too many steps", e, api.ErrRange, table)
	}
	for what, p := range wrongPlants() {
		table, e = circuit.Table(p, at(50, "0"), -1)
		isError(t, what, e, api.ErrArg, table)
	}
}

// P3.10
func TestProves(t *testing.T) {
	band := changed(func(p *circuit.Plant) { p.Drive.Bands = [][2]int{{40, 60}}; p.Drive.Levels = []int{0, 20, 50, 100} })
	from := at(0, "1")
	for _, c := range []struct {
		what   string
		change func(table [][]circuit.Cell) [][]circuit.Cell
		want   bool
	}{
		{"its own table", func(table [][]circuit.Cell) [][]circuit.Cell { return table }, true},
		{"no table", func(table [][]circuit.Cell) [][]circuit.Cell { return nil }, false},
		{"a row too few", func(table [][]circuit.Cell) [][]circuit.Cell { return table[:3] }, false},
		{"a row too many", func(table [][]circuit.Cell) [][]circuit.Cell { return append(table, table[3]) }, false},
		{"a cell too few", func(table [][]circuit.Cell) [][]circuit.Cell { table[3] = table[3][:3]; return table }, false},
		{"a cell too many", func(table [][]circuit.Cell) [][]circuit.Cell {
			table[2] = append(table[2], circuit.Cell{})
			return table
		}, false},
		{"no cells", func(table [][]circuit.Cell) [][]circuit.Cell { table[0] = nil; return table }, false},
		{"the target is held", func(table [][]circuit.Cell) [][]circuit.Cell { table[3][3].Held = true; return table }, false},
		{"the target is held at first", func(table [][]circuit.Cell) [][]circuit.Cell { table[0][3].Held = true; return table }, false},
		{"another heat at first", func(table [][]circuit.Cell) [][]circuit.Cell { table[0][0].Hi = num("0.9"); return table }, false},
		{"nothing held at first", func(table [][]circuit.Cell) [][]circuit.Cell { table[0][0] = circuit.Cell{}; return table }, false},
		{"another level at first", func(table [][]circuit.Cell) [][]circuit.Cell { table[0][1].Held = true; return table }, false},
		{"a heat of a cell that is not held at first", func(table [][]circuit.Cell) [][]circuit.Cell { table[0][1].Hi = num("1"); return table }, false},
		{"a cell is missing in row 1", func(table [][]circuit.Cell) [][]circuit.Cell { table[1][1].Held = false; return table }, false},
		{"a cell is missing in the last row", func(table [][]circuit.Cell) [][]circuit.Cell { table[3][0].Held = false; return table }, false},
		{"too hot in row 1", func(table [][]circuit.Cell) [][]circuit.Cell { table[1][1].Hi = num("1"); return table }, false},
		{"too hot in the last row", func(table [][]circuit.Cell) [][]circuit.Cell {
			table[3][1].Hi = table[3][1].Hi.Add(num("1/999"))
			return table
		}, false},
		{"cooler in the last row", func(table [][]circuit.Cell) [][]circuit.Cell { table[3][1].Hi = num("-9"); return table }, true},
		{"cooler in row 2, and so after it", func(table [][]circuit.Cell) [][]circuit.Cell { table[2][1].Hi = num("-9"); return table }, false},
		{"cooler in row 2, and after it", func(table [][]circuit.Cell) [][]circuit.Cell {
			table[2][1].Hi, table[3][0].Hi, table[3][1].Hi = num("-9"), num("-8.1"), num("-99")
			return table
		}, true},
		{"one more in the last row", func(table [][]circuit.Cell) [][]circuit.Cell { table[3][2].Held = true; return table }, true},
		{"one more in row 2, from which the target is reached", func(table [][]circuit.Cell) [][]circuit.Cell { table[2][2].Held = true; return table }, false},
		{"one more in row 2 that is too hot for all", func(table [][]circuit.Cell) [][]circuit.Cell {
			table[2][2] = circuit.Cell{Held: true, Hi: num("99")}
			return table
		}, true},
		{"a heat of a cell that is not held", func(table [][]circuit.Cell) [][]circuit.Cell { table[2][2].Hi = num("99"); return table }, true},
	} {
		table, _ := circuit.Table(band, from, 3)
		ok, e := circuit.Proves(band, from, 100, 3, c.change(table))
		if e != api.OK || ok != c.want {
			t.Errorf("%s: %t, error %d", c.what, ok, e)
		}
	}
}

// P3.10: targets, states and errors.
func TestProvesOf(t *testing.T) {
	table, _ := circuit.Table(plant(), at(0, "0"), 2)
	for _, c := range []struct {
		what   string
		target int
		want   bool
	}{{"reached at last", 100, false}, {"there already", 0, false}, {"no level", 70, true}, {"any integer", math.MaxInt, true}} {
		ok, e := circuit.Proves(plant(), at(0, "0"), c.target, 2, table)
		if e != api.OK || ok != c.want {
			t.Errorf("%s: %t, error %d", c.what, ok, e)
		}
	}
	table, _ = circuit.Table(plant(), at(70, "1"), 1)
	ok, e := circuit.Proves(plant(), at(70, "1"), 100, 1, table)
	if e != api.OK || !ok {
		t.Error("from no level", ok, e)
	}
	ok, e = circuit.Proves(plant(), at(70, "1"), 70, 1, table)
	if e != api.OK || ok {
		t.Error("there already, at no level", ok, e)
	}
	table[1][0].Held = false
	ok, e = circuit.Proves(plant(), at(70, "1"), 100, 1, table)
	if e != api.OK || ok {
		t.Error("from no level, a cell is missing", ok, e)
	}
	ok, e = circuit.Proves(plant(), at(70, "1"), 100, 0, table[:1])
	if e != api.OK || !ok {
		t.Error("no step", ok, e)
	}
	for _, most := range []int{-1, api.MaxRun + 1, math.MaxInt, math.MinInt} {
		ok, e = circuit.Proves(plant(), at(70, "1"), 100, most, table)
		isError(t, "too many steps", e, api.ErrRange, ok)
	}
	for what, p := range wrongPlants() {
		ok, e = circuit.Proves(p, at(70, "1"), 100, -1, nil)
		isError(t, what, e, api.ErrArg, ok)
	}
}

// tried is what all lists of at most so many levels show of a plant: the first complete run to each level in the order of P3.8, and the least heats that P3.9 asks for.
type tried struct {
	soonest map[int][]int
	table   [][]circuit.Cell
}

// try runs all lists.
func try(p circuit.Plant, s circuit.State, most int) tried {
	all := tried{soonest: map[int][]int{s.Speed: nil}}
	for n := range most + 1 {
		row := make([]circuit.Cell, len(p.Drive.Levels))
		lists(p.Drive.Levels, n, func(l []int) {
			states, _, e := circuit.Run(p, s, l)
			if e != api.OK {
				return
			}
			end := s
			if n > 0 {
				end = states[n-1]
			}
			if _, ok := all.soonest[end.Speed]; !ok {
				all.soonest[end.Speed] = l
			}
			i := slices.Index(p.Drive.Levels, end.Speed)
			if hi := end.Heat.Hi(); i >= 0 && (!row[i].Held || hi.Cmp(row[i].Hi) < 0) {
				row[i] = circuit.Cell{Held: true, Hi: hi}
			}
		})
		all.table = append(all.table, row)
	}
	return all
}

// P3.8, P3.9 and P3.14, by trying all runs.
func TestAllRuns(t *testing.T) {
	random := rand.New(rand.NewPCG(8, 9))
	steps := map[int]int{}
	for range 600 {
		p := anyPlant(random)
		s := anyState(random, p)
		most := random.IntN(5)
		all := try(p, s, most)
		table, e := circuit.Table(p, s, most)
		if e != api.OK || shownTable(table) != shownTable(all.table) {
			t.Fatalf("%v %v: %s, error %d, instead of %s", p, s, shownTable(table), e, shownTable(all.table))
		}
		for _, target := range append([]int{s.Speed, 7}, p.Drive.Levels...) {
			want, reached := all.soonest[target]
			l, e := circuit.Soonest(p, s, target, most)
			if reached && (e != api.OK || !slices.Equal(l, want)) || !reached && (e != api.ErrPlan || l != nil) {
				t.Fatalf("%v %v to %d: %v, error %d, instead of %v", p, s, target, l, e, want)
			}
			ok, e := circuit.Proves(p, s, target, most, table)
			if e != api.OK || ok == reached {
				t.Fatalf("%v %v to %d: proved %t, error %d", p, s, target, ok, e)
			}
			steps[len(l)]++
		}
	}
	if steps[1] < 200 || steps[2] < 50 || steps[3] < 10 {
		t.Error("too few runs of some length", steps)
	}
}

// proves is Proves to the letter, for arguments without errors.
func proves(p circuit.Plant, s circuit.State, target int, table [][]circuit.Cell) bool {
	if s.Speed == target {
		return false
	}
	follows := func(from circuit.State, row []circuit.Cell) bool {
		for i, level := range p.Drive.Levels {
			after, e := circuit.Step(p, from, level)
			if e == api.OK && (!row[i].Held || row[i].Hi.Cmp(after.Heat.Hi()) > 0) {
				return false
			}
		}
		return true
	}
	if len(table) > 1 && !follows(s, table[1]) {
		return false
	}
	for k, row := range table {
		for i, c := range row {
			level := p.Drive.Levels[i]
			if c.Held && level == target {
				return false
			}
			right := c.Held == (level == s.Speed) && (!c.Held || c.Hi.Cmp(s.Heat.Hi()) == 0)
			if k == 0 && !right {
				return false
			}
			if c.Held && k+1 < len(table) && !follows(circuit.State{Speed: level, Heat: exact.Point(c.Hi)}, table[k+1]) {
				return false
			}
		}
	}
	return true
}

// P3.10, by the definition, for tables that are changed here and there.
func TestProvesByDefinition(t *testing.T) {
	random := rand.New(rand.NewPCG(1, 2))
	said := map[bool]int{}
	for range 4000 {
		p := anyPlant(random)
		s := anyState(random, p)
		most := random.IntN(5)
		table, _ := circuit.Table(p, s, most)
		for range random.IntN(3) {
			row := table[random.IntN(len(table))]
			c := &row[random.IntN(len(row))]
			switch random.IntN(4) {
			case 0:
				c.Held, c.Hi = !c.Held, exact.Num{}
			case 1:
				*c = circuit.Cell{Held: true, Hi: num(anyOf(random, "0", "1", "99"))}
			case 2:
				if c.Held {
					c.Hi = c.Hi.Sub(num("1/5"))
				}
			case 3:
				if c.Held {
					c.Hi = c.Hi.Add(num("1/5"))
				}
			}
		}
		target := anyOf(random, append([]int{7}, p.Drive.Levels...)...)
		ok, e := circuit.Proves(p, s, target, most, table)
		if e != api.OK || ok != proves(p, s, target, table) {
			t.Fatalf("%v %v to %d: %s: %t, error %d", p, s, target, shownTable(table), ok, e)
		}
		said[ok]++
	}
	if said[true] < 500 || said[false] < 500 {
		t.Error("too few of some answer", said)
	}
}
