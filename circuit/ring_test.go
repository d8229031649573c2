package circuit_test

import (
	"math"
	"testing"

	"venturi/api"
	"venturi/circuit"
	"venturi/exact"
)

// wrongRings returns rings that are not valid.
func wrongRings() map[string]circuit.Ring {
	many := unit()
	for len(many.Sections) <= api.MaxSections {
		many.Sections = append(many.Sections, many.Sections[0])
	}
	light, hollow := unit(), unit()
	light.Density = exact.Num{}
	hollow.Density = num("-2")
	return map[string]circuit.Ring{
		"zero value":        {},
		"density 0":         light,
		"density below 0":   hollow,
		"no section":        ring(),
		"too many sections": many,
		"area 0":            ring([2]string{"1", "1"}, [2]string{"0", "1"}),
		"area below 0":      ring([2]string{"-1", "1"}, [2]string{"1", "1"}),
		"loss below 0":      ring([2]string{"1", "1"}, [2]string{"1", "-1/9"}),
		"no losses":         ring([2]string{"1", "0"}, [2]string{"2", "0"}),
	}
}

// wrongFans returns fans that are not valid.
func wrongFans() map[string]circuit.Fan {
	many := hill()
	for len(many.Knots) <= api.MaxCurve {
		many.Knots = append(many.Knots, circuit.Knot{Flow: whole(len(many.Knots) + 1)})
	}
	still, back, fast := hill(), hill(), hill()
	still.Speed, back.Speed, fast.Speed = 0, -100, api.MaxRevs+1
	return map[string]circuit.Fan{
		"zero value":     {},
		"speed 0":        still,
		"speed below 0":  back,
		"speed too high": fast,
		"no knot":        fan(),
		"one knot":       fan([2]string{"0", "1"}),
		"too many knots": many,
		"first above 0":  fan([2]string{"1", "1"}, [2]string{"2", "1"}),
		"first below 0":  fan([2]string{"-1", "1"}, [2]string{"0", "1"}, [2]string{"2", "1"}),
		"equal flows":    fan([2]string{"0", "1"}, [2]string{"1", "1"}, [2]string{"1", "2"}),
		"falling flows":  fan([2]string{"0", "1"}, [2]string{"2", "1"}, [2]string{"1", "2"}),
	}
}

// P3.1
func TestCheck(t *testing.T) {
	full := unit()
	for len(full.Sections) < api.MaxSections {
		full.Sections = append(full.Sections, full.Sections[0])
	}
	for what, r := range map[string]circuit.Ring{
		"example": unit(), "full": full, "one section": ring([2]string{"1/9", "1/9"}), "a section without loss": ring([2]string{"1", "0"}, [2]string{"1", "1"}),
	} {
		isError(t, what, circuit.CheckRing(r), api.OK)
	}
	for what, r := range wrongRings() {
		isError(t, what, circuit.CheckRing(r), api.ErrArg)
	}
	long, slow, fast := hill(), hill(), hill()
	for len(long.Knots) < api.MaxCurve {
		long.Knots = append(long.Knots, circuit.Knot{Flow: whole(len(long.Knots) + 1), Rise: num("-1")})
	}
	slow.Speed, fast.Speed = 1, api.MaxRevs
	for what, f := range map[string]circuit.Fan{
		"example": hill(), "longest": long, "slow": slow, "fast": fast, "two knots": fan([2]string{"0", "-1"}, [2]string{"1/9", "-5"}),
	} {
		isError(t, what, circuit.CheckFan(f), api.OK)
	}
	for what, f := range wrongFans() {
		isError(t, what, circuit.CheckFan(f), api.ErrArg)
	}
}

// P3.2
func TestResistance(t *testing.T) {
	x, e := circuit.Resistance(unit())
	isNum(t, "example 1", x, e, "1")
	r := ring([2]string{"3", "1"}, [2]string{"1/2", "0"}, [2]string{"2/3", "5"})
	r.Density = num("1.2")
	x, e = circuit.Resistance(r)
	isNum(t, "three sections", x, e, "409/60") // 0.6 * (1/9 + 5 * 9/4)
	for what, r := range wrongRings() {
		x, e := circuit.Resistance(r)
		isError(t, what, e, api.ErrArg, x)
		speed, pressure, loss, e := circuit.Drop(r, -1, num("-1"))
		isError(t, what, e, api.ErrArg, speed, pressure, loss)
	}
}

// P3.2
func TestDrop(t *testing.T) {
	for _, c := range []struct {
		section               int
		flow                  string
		speed, pressure, loss string
	}{
		{1, "3", "1.5", "2.25", "4.5"}, // example 1
		{0, "3", "3", "9", "4.5"},
		{0, "0", "0", "0", "0"},
		{1, "1/3", "1/6", "1/36", "1/18"},
	} {
		speed, pressure, loss, e := circuit.Drop(unit(), c.section, num(c.flow))
		isNum(t, "speed", speed, e, c.speed)
		isNum(t, "pressure", pressure, e, c.pressure)
		isNum(t, "loss", loss, e, c.loss)
	}
	for _, c := range []struct {
		section int
		flow    string
	}{{-1, "1"}, {2, "1"}, {math.MaxInt, "1"}, {math.MinInt, "1"}, {0, "-1/9"}, {1, "-1"}} {
		speed, pressure, loss, e := circuit.Drop(unit(), c.section, num(c.flow))
		isError(t, c.flow, e, api.ErrRange, speed, pressure, loss)
	}
	r := unit()
	r.Density = num("3")
	speed, pressure, loss, e := circuit.Drop(r, 1, num("1"))
	isNum(t, "speed with another density", speed, e, "0.5")
	isNum(t, "pressure with another density", pressure, e, "0.375")
	isNum(t, "loss with another density", loss, e, "0.75")
}

// P3.3
func TestRise(t *testing.T) {
	for _, c := range []struct {
		speed      int
		flow, want string
	}{
		{200, "4", "16"}, // example 2
		{100, "0", "4"}, {100, "1", "5"}, {100, "3", "3"},
		{100, "1/3", "13/3"}, {100, "2.5", "3.5"},
		{200, "6", "12"}, {50, "1.5", "0.75"}, {50, "0.25", "1.125"},
		{1, "0.03", "0.0003"}, {api.MaxRevs, "90", "2700"}, {7, "0", "0.0196"},
	} {
		x, e := circuit.Rise(hill(), c.speed, num(c.flow))
		isNum(t, c.flow, x, e, c.want)
	}
	for _, c := range []struct {
		speed int
		flow  string
		want  api.Errno
	}{
		{200, "7", api.ErrFlow}, {100, "3.01", api.ErrFlow}, {50, "1.51", api.ErrFlow}, {100, "-1/9", api.ErrFlow}, {api.MaxRevs, "-1", api.ErrFlow},
		{0, "0", api.ErrRange}, {-100, "1", api.ErrRange}, {api.MaxRevs + 1, "1", api.ErrRange}, {0, "-1", api.ErrRange},
		{math.MaxInt, "1", api.ErrRange}, {math.MinInt, "1", api.ErrRange},
	} {
		x, e := circuit.Rise(hill(), c.speed, num(c.flow))
		isError(t, c.flow, e, c.want, x)
	}
	for what, f := range wrongFans() {
		x, e := circuit.Rise(f, 0, num("-1"))
		isError(t, what, e, api.ErrArg, x)
	}
}
