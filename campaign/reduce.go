package campaign

import (
	"strconv"
	"strings"

	"venturi/api"
	"venturi/balance"
	"venturi/correct"
	"venturi/exact"
)

// How many steps of the grids there are in 1, on which loads and square roots are enclosed.
const (
	loadSteps = 1_000_000
	rootSteps = 1000
)

// rounds is how many rounds an inversion has.
const rounds = 6

// forces is how many of the loads are forces; the moments follow them.
const forces = 3

// setup is the numbers of the balance, the model and the chain of a reduction.
type setup struct{ rig, model, chain int }

// measured is what was measured at a point.
type measured struct {
	words    string // as they stand in the line
	readings []exact.Box
	pressure exact.Box
	attitude []balance.Turn
}

// measured reads the three words of what was measured.
func (r *reader) measured() measured {
	words := strings.Join(r.words[:3], " ")
	return measured{words: words, readings: r.boxes(r.next()), pressure: r.box(r.next()), attitude: r.turns(r.next())}
}

// grid returns the grid with so many steps in 1.
func grid(steps int64) exact.Num {
	x, _ := exact.Ratio(1, steps)
	return x
}

// reduce returns the text of the results of a point; ErrArg if the attitude is not valid, or there is not one reading for each component, then the errors of Invert, ErrOver if the readings allow loads that do not keep the limits, and the errors of Run.
func (c *customer) reduce(used setup, levels []int, m measured) (string, api.Errno) {
	body := c.models[used.model-1]
	tare, e := balance.Tare(body.weight, body.centre, m.attitude)
	if e != api.OK {
		return "", e
	}
	loads, e := c.rigs[used.rig-1].loads(m.readings)
	if e != api.OK {
		return "", e
	}
	env := correct.Env{Values: values(m.pressure, less(loads, tare), levels), Grid: grid(rootSteps)}
	results, _, e := correct.Run(c.chains[used.chain-1], env)
	if e != api.OK {
		return "", e
	}
	return orNothing(joined(results, ",", resultText)), api.OK
}

// loads encloses the loads that readings allow; the errors of Invert, ErrOver if some of them do not keep the limits.
func (b rig) loads(readings []exact.Box) ([]exact.Box, api.Errno) {
	inverse, e := balance.Invert(b.calibration, readings, b.within, rounds, grid(loadSteps))
	if e != api.OK {
		return nil, e
	}
	broken, e := balance.Allowed(b.limits, inverse.Loads)
	if e != api.OK {
		return nil, e
	}
	if broken != -1 {
		return nil, api.ErrOver
	}
	return inverse.Loads, api.OK
}

// less returns loads less a tare.
func less(loads []exact.Box, tare balance.Load) []exact.Box {
	var left []exact.Box
	for k, b := range loads {
		part := tare.Force
		if k >= forces {
			part = tare.Moment
		}
		left = append(left, b.Sub(exact.Point(part[k%forces])))
	}
	return left
}

// values returns the values with which a chain begins.
func values(pressure exact.Box, loads []exact.Box, levels []int) []correct.Named {
	named := []correct.Named{{Name: "q", Box: pressure}}
	for i, b := range loads {
		named = append(named, correct.Named{Name: "f" + strconv.Itoa(i), Box: b})
	}
	for i, level := range levels {
		b := exact.Point(exact.Whole(int64(level)))
		named = append(named, correct.Named{Name: "l" + strconv.Itoa(i), Box: b})
	}
	return named
}
