package campaign

import (
	"strconv"

	"venturi/api"
	"venturi/balance"
	"venturi/exact"
	"venturi/fit"
)

// rig is a balance.
type rig struct {
	calibration balance.Calibration
	within      []exact.Box // where the loads are
	limits      []balance.Limit
}

// model is the weight and the centre of gravity of a model.
type model struct {
	weight exact.Num
	centre balance.Vector
}

// last returns the last element of a list, which is not empty.
func last[T any](l []T) T { return l[len(l)-1] }

// add adds a balance, a model or a chain to a list, and answers its number; ErrFull if there is no room.
func add[T any](l *[]T, x T) (string, api.Errno) {
	if len(*l) >= api.MaxSetups {
		return "", api.ErrFull
	}
	*l = append(*l, x)
	return strconv.Itoa(len(*l)), api.OK
}

// readBalance reads the terms, the hooks, the loadings, the readings, the boxes of the loads and the limits of a balance.
func readBalance(r *reader) act {
	terms := list(r.next(), ";", r.integers)
	form := fit.Form{Inputs: len(terms[0]), Terms: terms}
	hooks := list(r.next(), ";", r.hook)
	loadings := list(r.next(), ";", r.loading)
	readings := list(r.next(), ";", r.numbers)
	within := r.boxes(r.next())
	limits := listOrNothing(r.next(), ";", r.limit)
	return func(v visit) (string, api.Errno) {
		calibration, fits, e := balance.Calibrate(form, hooks, loadings, readings)
		if e != api.OK {
			return "", e
		}
		return v.own.addRig(rig{calibration, within, limits}, fits)
	}
}

// addRig adds a balance that was calibrated by fits, and answers its number and their sums of squares; ErrArg if it does not have a box for each component, or its limits are not valid, ErrOver if loads of zeros do not keep them, ErrFull if there is no room.
func (c *customer) addRig(b rig, fits []fit.Fit) (string, api.Errno) {
	if len(b.within) != len(fits) {
		return "", api.ErrArg
	}
	zeros := make([]exact.Num, len(fits))
	if e := b.sweep(zeros, zeros); e != api.OK {
		return "", e
	}
	number, e := add(&c.rigs, b)
	if e != api.OK {
		return "", e
	}
	c.commanded = zeros
	return number + " " + joined(fits, ",", func(f fit.Fit) string { return f.Squares.String() }), api.OK
}

// sweep returns ErrArg if there are not as many loads as the limits want, ErrOver if some loads on the straight line do not keep them.
func (b rig) sweep(from, to []exact.Num) api.Errno {
	broken, e := balance.Sweep(b.limits, from, to)
	if e != api.OK {
		return e
	}
	if broken != -1 {
		return api.ErrOver
	}
	return api.OK
}

// readModel reads the weight and the centre of gravity of a model.
func readModel(r *reader) act {
	m := model{weight: r.number(r.next()), centre: r.vector(r.next())}
	return func(v visit) (string, api.Errno) { return add(&v.own.models, m) }
}

// readChain reads the steps of a chain.
func readChain(r *reader) act {
	steps := listOrNothing(r.next(), ";", r.step)
	return func(v visit) (string, api.Errno) { return add(&v.own.chains, steps) }
}

// hasRig reports whether the customer has a balance.
func (v visit) hasRig() bool { return len(v.own.rigs) > 0 }

// readCommand reads loads.
func readCommand(r *reader) act {
	loads := r.numbers(r.next())
	return silent(func(v visit) api.Errno { return v.own.command(loads) })
}

// command makes loads the commanded ones; ErrArg if there is not one for each component, ErrOver if some on the way to them do not keep the limits.
func (c *customer) command(loads []exact.Num) api.Errno {
	if e := last(c.rigs).sweep(c.commanded, loads); e != api.OK {
		return e
	}
	c.commanded = loads
	return api.OK
}
