package circuit_test

import (
	"math"
	"testing"

	"venturi/api"
	"venturi/circuit"
	"venturi/exact"
)

// wrongPlants returns plants that are not valid.
func wrongPlants() map[string]circuit.Plant {
	plants := map[string]circuit.Plant{"zero value": {}}
	for what, r := range wrongRings() {
		plants["ring: "+what] = changed(func(p *circuit.Plant) { p.Ring = r })
	}
	for what, f := range wrongFans() {
		plants["fan: "+what] = changed(func(p *circuit.Plant) { p.Fan = f })
	}
	for what, change := range map[string]func(p *circuit.Plant){
		"no levels":            func(p *circuit.Plant) { p.Drive.Levels = nil },
		"too many levels":      func(p *circuit.Plant) { p.Drive.Levels = steps(api.MaxHeld + 1) },
		"equal levels":         func(p *circuit.Plant) { p.Drive.Levels = []int{0, 50, 50} },
		"falling levels":       func(p *circuit.Plant) { p.Drive.Levels = []int{0, 100, 50} },
		"a level below 0":      func(p *circuit.Plant) { p.Drive.Levels = []int{-1, 50} },
		"a level too high":     func(p *circuit.Plant) { p.Drive.Levels = []int{0, api.MaxRevs + 1} },
		"up below 0":           func(p *circuit.Plant) { p.Drive.Up = -1 },
		"up too far":           func(p *circuit.Plant) { p.Drive.Up = api.MaxRevs + 1 },
		"down below 0":         func(p *circuit.Plant) { p.Drive.Down = math.MinInt },
		"down too far":         func(p *circuit.Plant) { p.Drive.Down = math.MaxInt },
		"too many bands":       func(p *circuit.Plant) { p.Drive.Bands = oneBandTooMany([2]int{1, 2}) },
		"a band below 0":       func(p *circuit.Plant) { p.Drive.Bands = [][2]int{{1, 2}, {-1, 2}} },
		"a band too high":      func(p *circuit.Plant) { p.Drive.Bands = [][2]int{{1, api.MaxRevs + 1}} },
		"a band without width": func(p *circuit.Plant) { p.Drive.Bands = [][2]int{{2, 2}} },
		"a band downwards":     func(p *circuit.Plant) { p.Drive.Bands = [][2]int{{1, 2}, {3, 2}} },
		"a flow below 0":       func(p *circuit.Plant) { p.Drive.Flow = span("-1/9", "2") },
		"efficiency 0":         func(p *circuit.Plant) { p.Drive.Efficiency = exact.Num{} },
		"efficiency below 0":   func(p *circuit.Plant) { p.Drive.Efficiency = num("-1/2") },
		"efficiency above 1":   func(p *circuit.Plant) { p.Drive.Efficiency = num("1.01") },
		"power below 0":        func(p *circuit.Plant) { p.Drive.Power = num("-1/9") },
		"capacity 0":           func(p *circuit.Plant) { p.Cooler.Capacity, p.Cooler.Rate = exact.Num{}, exact.Num{} },
		"capacity below 0":     func(p *circuit.Plant) { p.Cooler.Capacity = num("-10") },
		"rate below 0":         func(p *circuit.Plant) { p.Cooler.Rate = num("-1/9") },
		"rate above capacity":  func(p *circuit.Plant) { p.Cooler.Rate = num("10.01") },
	} {
		plants[what] = changed(change)
	}
	return plants
}

// steps returns n levels.
func steps(n int) []int {
	l := make([]int, n)
	for i := range l {
		l[i] = 100 * i
	}
	return l
}

// oneBandTooMany returns the same band once more than there may be bands.
func oneBandTooMany(b [2]int) [][2]int {
	var l [][2]int
	for range api.MaxBands + 1 {
		l = append(l, b)
	}
	return l
}

// P3.6
func TestCheckPlant(t *testing.T) {
	for what, change := range map[string]func(p *circuit.Plant){
		"example":         func(p *circuit.Plant) {},
		"most levels":     func(p *circuit.Plant) { p.Drive.Levels = steps(api.MaxHeld) },
		"one level":       func(p *circuit.Plant) { p.Drive.Levels = []int{api.MaxRevs} },
		"no change":       func(p *circuit.Plant) { p.Drive.Up, p.Drive.Down = 0, 0 },
		"any change":      func(p *circuit.Plant) { p.Drive.Up, p.Drive.Down = api.MaxRevs, api.MaxRevs },
		"most bands":      func(p *circuit.Plant) { p.Drive.Bands = oneBandTooMany([2]int{0, api.MaxRevs})[1:] },
		"no flow":         func(p *circuit.Plant) { p.Drive.Flow = exact.Box{} },
		"any flow":        func(p *circuit.Plant) { p.Drive.Flow = span("0", "1000") },
		"no losses":       func(p *circuit.Plant) { p.Drive.Efficiency = num("1") },
		"no power":        func(p *circuit.Plant) { p.Drive.Power = exact.Num{} },
		"no cooling":      func(p *circuit.Plant) { p.Cooler.Rate = exact.Num{} },
		"all is cooled":   func(p *circuit.Plant) { p.Cooler.Rate = p.Cooler.Capacity },
		"frost":           func(p *circuit.Plant) { p.Cooler.Cold, p.Cooler.Hot = num("-50"), num("-10") },
		"hot before cold": func(p *circuit.Plant) { p.Cooler.Cold, p.Cooler.Hot = num("50"), num("10") },
	} {
		isError(t, what, circuit.CheckPlant(changed(change)), api.OK)
	}
	for what, p := range wrongPlants() {
		isError(t, what, circuit.CheckPlant(p), api.ErrArg)
	}
}

// P3.6
func TestPower(t *testing.T) {
	for _, c := range []struct {
		speed        int
		flow, lo, hi string
	}{
		{100, "2", "16", "16"}, {50, "2", "2", "2"}, // example 4
		{0, "2", "0", "0"}, {200, "2", "128", "128"}, {1, "2", "0.000016", "0.000016"}, {api.MaxRevs, "2", "432000", "432000"},
		{100, "0", "0", "0"}, {50, "1/3", "1/108", "1/108"},
	} {
		b, e := circuit.Power(changed(func(p *circuit.Plant) { p.Drive.Flow = only(c.flow) }), c.speed)
		isBox(t, c.flow, b, e, c.lo, c.hi)
	}
	wide := changed(func(p *circuit.Plant) {
		p.Drive.Flow, p.Drive.Efficiency = span("0.5", "3"), num("3/4")
		p.Ring.Density = num("3")
		p.Fan.Speed = 10
		p.Drive.Power = exact.Num{} // which limits steps alone
	})
	b, e := circuit.Power(wide, 20)
	isBox(t, "a box of flows", b, e, "2", "432")
	for _, speed := range []int{-1, api.MaxRevs + 1, math.MaxInt, math.MinInt} {
		b, e := circuit.Power(plant(), speed)
		isError(t, "no speed", e, api.ErrRange, b)
	}
	for what, p := range wrongPlants() {
		b, e := circuit.Power(p, -1)
		isError(t, what, e, api.ErrArg, b)
	}
}

// P3.7
func TestStep(t *testing.T) {
	s, e := circuit.Step(plant(), at(0, "0"), 50)
	isState(t, "example 4", s, e, 50, "0.2", "0.2")
	s, e = circuit.Step(plant(), s, 100)
	isState(t, "example 4, again", s, e, 100, "1.78", "1.78")
	s, e = circuit.Step(plant(), s, 100)
	isError(t, "example 4, once more", e, api.ErrHot, s)
	s, e = circuit.Step(plant(), at(100, "2"), 0)
	isState(t, "switched off", s, e, 0, "1.8", "1.8")
	s, e = circuit.Step(plant(), circuit.State{Speed: 100, Heat: span("-10", "5/9")}, 50)
	isState(t, "a box of temperatures", s, e, 50, "-8.8", "0.7")

	wide := changed(func(p *circuit.Plant) {
		p.Drive.Flow = span("1", "2")
		p.Cooler.Cold, p.Cooler.Hot = num("-3"), num("100")
	})
	s, e = circuit.Step(wide, circuit.State{Speed: 70, Heat: span("2", "4")}, 100)
	isState(t, "boxes", s, e, 100, "1.7", "4.9") // 2 + (2 - 5) / 10 and 4 + (16 - 7) / 10
	wide.Cooler.Rate = wide.Cooler.Capacity
	s, e = circuit.Step(wide, circuit.State{Speed: 70, Heat: span("2", "4")}, 100)
	isState(t, "all is cooled", s, e, 100, "-2.8", "-1.4")
	wide.Cooler.Rate = exact.Num{}
	s, e = circuit.Step(wide, circuit.State{Speed: 70, Heat: span("2", "4")}, 100)
	isState(t, "nothing is cooled", s, e, 100, "2.2", "5.6")
	for what, p := range wrongPlants() {
		s, e := circuit.Step(p, at(0, "99"), 77)
		isError(t, what, e, api.ErrArg, s)
	}
}

// P3.7: each refusal, and just not it.
func TestRefused(t *testing.T) {
	drive := func(up, down int, bands ...[2]int) circuit.Plant {
		return changed(func(p *circuit.Plant) {
			p.Drive.Levels, p.Drive.Up, p.Drive.Down, p.Drive.Bands = []int{0, 50, 100, 3000}, up, down, bands
		})
	}
	limits := func(power, hot string) circuit.Plant {
		return changed(func(p *circuit.Plant) {
			p.Drive.Power, p.Cooler.Hot, p.Drive.Flow = num(power), num(hot), span("1", "2")
		})
	}
	for _, c := range []struct {
		what  string
		plant circuit.Plant
		from  circuit.State
		speed int
		want  api.Errno
	}{
		{"no level", plant(), at(60, "0"), 70, api.ErrDrive},
		{"a speed below 0", plant(), at(0, "0"), -50, api.ErrDrive},
		{"any integer", plant(), at(0, "0"), math.MaxInt, api.ErrDrive},
		{"any integer below 0", plant(), at(0, "0"), math.MinInt, api.ErrDrive},
		{"from no level", plant(), at(77, "0"), 50, api.OK},
		{"as far up as can be", drive(50, 50), at(0, "0"), 50, api.OK},
		{"too far up", drive(49, 50), at(0, "0"), 50, api.ErrDrive},
		{"as far down as can be", drive(50, 50), at(100, "0"), 50, api.OK},
		{"too far down", drive(50, 49), at(100, "0"), 50, api.ErrDrive},
		{"staying", drive(0, 0), at(50, "0"), 50, api.OK},
		{"from below 0", drive(50, 0), at(-50, "0"), 0, api.OK},
		{"from too far below 0", drive(50, 0), at(-51, "0"), 0, api.ErrDrive},
		{"from above all", drive(0, 3000), at(3050, "0"), 50, api.OK},
		{"from too far above all", drive(0, 3000), at(3051, "0"), 50, api.ErrDrive},
		{"from the greatest integer", drive(3000, 3000), at(math.MaxInt, "0"), 50, api.ErrDrive},
		{"from the least integer", drive(3000, 3000), at(math.MinInt, "0"), 50, api.ErrDrive},
		{"in a band", drive(50, 50, [2]int{1, 2}, [2]int{49, 51}), at(0, "0"), 50, api.ErrDrive},
		{"staying in a band", drive(50, 50, [2]int{49, 51}), at(50, "0"), 50, api.ErrDrive},
		{"at the end of a band", drive(50, 50, [2]int{40, 50}), at(0, "0"), 50, api.OK},
		{"at the beginning of a band", drive(50, 50, [2]int{50, 60}), at(0, "0"), 50, api.OK},
		{"out of a band", drive(50, 50, [2]int{60, 70}), at(65, "0"), 50, api.OK},
		{"through a band", drive(50, 50, [2]int{10, 40}), at(0, "0"), 50, api.OK},
		{"just enough power", limits("16", "99"), at(100, "0"), 100, api.OK},
		{"perhaps too much power", limits("15.99", "99"), at(100, "0"), 100, api.ErrPower},
		{"just cool enough", limits("16", "1.6"), at(100, "0"), 100, api.OK},
		{"perhaps too hot", limits("16", "1.59"), at(100, "0"), 100, api.ErrHot},
		{"cool enough with what it has", limits("16", "0.5"), at(0, "1/3"), 50, api.OK},
		{"cooled, but not enough", limits("16", "10"), at(0, "100"), 0, api.ErrHot},
		{"cooled enough", limits("16", "90"), at(0, "100"), 0, api.OK},
		{"the drive before the power", limits("0", "-99"), at(0, "0"), 100, api.ErrDrive},
		{"a band before the power", changed(func(p *circuit.Plant) { p.Drive.Bands, p.Drive.Power = [][2]int{{99, 101}}, num("1") }), at(100, "0"), 100, api.ErrDrive},
		{"the power before the heat", limits("1", "-99"), at(0, "0"), 50, api.ErrPower},
	} {
		s, e := circuit.Step(c.plant, c.from, c.speed)
		if e != c.want || e == api.OK && s.Speed != c.speed {
			t.Errorf("%s: %v, error %d instead of %d", c.what, s, e, c.want)
		}
		if e != api.OK {
			isError(t, c.what, e, c.want, s)
		}
	}
}

// P3.7
func TestRun(t *testing.T) {
	l, n, e := circuit.Run(plant(), at(0, "0"), []int{50, 100, 100})
	if e != api.ErrHot || n != 2 || len(l) != 2 {
		t.Fatal("example 4", l, n, e)
	}
	isState(t, "first", l[0], api.OK, 50, "0.2", "0.2")
	isState(t, "second", l[1], api.OK, 100, "1.78", "1.78")
	l, n, e = circuit.Run(plant(), at(0, "0"), []int{50, 0, 60, 50})
	if e != api.ErrDrive || n != 2 || len(l) != 2 || l[1].Speed != 0 || l[1].Heat.Hi().String() != "0.18" {
		t.Error("no level", l, n, e)
	}
	l, n, e = circuit.Run(plant(), at(0, "0"), []int{50, 0})
	if e != api.OK || n != 2 || len(l) != 2 || l[1].Heat.Hi().String() != "0.18" {
		t.Error("complete", l, n, e)
	}
	l, n, e = circuit.Run(plant(), at(0, "0"), []int{100, 50})
	isError(t, "refused at once", e, api.ErrDrive, l, n)
	for _, none := range [][]int{nil, {}} {
		l, n, e = circuit.Run(plant(), at(0, "99"), none)
		isError(t, "nothing to do", e, api.OK, l, n)
	}
	l, n, e = circuit.Run(plant(), at(0, "0"), make([]int, api.MaxRun))
	if e != api.OK || n != api.MaxRun || len(l) != api.MaxRun {
		t.Error("the longest run", l, n, e)
	}
	l, n, e = circuit.Run(plant(), at(0, "0"), make([]int, api.MaxRun+1))
	isError(t, "too long", e, api.ErrLong, l, n)
	strong := changed(func(p *circuit.Plant) { p.Drive.Power = num("15") })
	l, n, e = circuit.Run(strong, at(0, "0"), []int{50, 100})
	if e != api.ErrPower || n != 1 || len(l) != 1 {
		t.Error("too much power", l, n, e)
	}
	for what, p := range wrongPlants() {
		l, n, e := circuit.Run(p, at(0, "0"), make([]int, api.MaxRun+1))
		isError(t, what, e, api.ErrArg, l, n)
	}
}
