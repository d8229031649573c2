package probe

import (
	"venturi/api"
	"venturi/exact"
)

// Agrees reports whether a pressure that stays the same can be the cause of a record; ErrArg if the port is not valid, ErrLong if the record has more than MaxRecord readings.
func Agrees(p Port, record []exact.Num, x exact.Num) (bool, api.Errno) {
	if e := check(p, len(record), 0); e != api.OK {
		return false, e
	}
	// What the tube can have at a moment is always all numbers of a box, so that nothing is lost from moment to moment.
	var can exact.Box
	for i, reading := range record {
		told := around(reading, p.Error)
		if i == 0 {
			can = told
			continue
		}
		both, ok := p.follow(can, exact.Point(x)).Meet(told)
		if !ok {
			return false, api.OK
		}
		can = both
	}
	return true, api.OK
}

// pair returns the pair box of two readings of a valid port: the pressures that can be the cause of both.
func (p Port) pair(a, b exact.Num) exact.Box {
	cause := func(u, v, g exact.Num) exact.Num { return u.Add(over(v.Sub(u), g)) }
	return corners(cause, around(a, p.Error), around(b, p.Error), p.Gain)
}

// Pressure returns the box of the numbers that all pair boxes of a record have; ErrArg if the port is not valid, ErrLong if the record has more than MaxRecord readings, ErrNone if it has fewer than two, ErrMoved if there is no such number.
func Pressure(p Port, record []exact.Num) (exact.Box, api.Errno) {
	if e := check(p, len(record), 2); e != api.OK {
		return exact.Box{}, e
	}
	all := p.pair(record[0], record[1])
	for i := 2; i < len(record); i++ {
		both, ok := all.Meet(p.pair(record[i-1], record[i]))
		if !ok {
			return exact.Box{}, api.ErrMoved
		}
		all = both
	}
	return all, api.OK
}

// bound returns by how much a reading b behind a reading a of a valid port can differ from a pressure that stays the same.
func (p Port) bound(a, b exact.Num) exact.Num {
	moved := b.Sub(a).Abs().Add(p.Error).Add(p.Error)
	return over(p.slowest(), p.Gain.Lo()).Mul(moved).Add(p.Error)
}

// Still returns the number of the first reading that is sure to differ from the pressure by at most tolerance; ErrArg if the port is not valid, ErrLong if the record has more than MaxRecord readings, ErrRange unless tolerance is at least 0, ErrNever if there is no such reading.
func Still(p Port, record []exact.Num, tolerance exact.Num) (int, api.Errno) {
	if e := check(p, len(record), 0); e != api.OK {
		return 0, e
	}
	if tolerance.Sign() < 0 {
		return 0, api.ErrRange
	}
	for i := 1; i < len(record); i++ {
		if p.bound(record[i-1], record[i]).Cmp(tolerance) <= 0 {
			return i, api.OK
		}
	}
	return 0, api.ErrNever
}

// power returns the product of n times x: Pow ends at MaxPower, which is less than a record may have steps.
func power(x exact.Num, n int) exact.Num {
	product := exact.Whole(1)
	for range n {
		product = product.Mul(x)
	}
	return product
}

// Tight says whether the leak of a closed tube is at most limit; ErrArg if the port is not valid, ErrLong if the record has more than MaxRecord readings, ErrNone if it has fewer than two, ErrRange unless limit is at least 0 and less than 1, ErrClose if the tube may have begun with the pressure around it.
func Tight(p Port, record []exact.Num, ambient, limit exact.Num) (api.Ruling, api.Errno) {
	if e := check(p, len(record), 2); e != api.OK {
		return 0, e
	}
	if limit.Sign() < 0 || limit.Cmp(exact.Whole(1)) >= 0 {
		return 0, api.ErrRange
	}
	steps := len(record) - 1
	above := func(reading exact.Num) exact.Box { return around(reading.Sub(ambient), p.Error) }
	ratio, e := above(record[steps]).Div(above(record[0]))
	if e != api.OK {
		return 0, api.ErrClose
	}
	allowed := power(exact.Whole(1).Sub(limit), steps)
	return ruling(ratio.Lo().Cmp(allowed) >= 0, ratio.Hi().Cmp(allowed) < 0), api.OK
}
