package image

import (
	"venturi/api"
	"venturi/exact"
	"venturi/probe"
)

// Spot is the pressure at a pixel.
type Spot struct {
	Known    bool
	Pressure exact.Box
}

// Paint returns the pressures that the paint shows, pixel by pixel; ErrImage, ErrSize, ErrArg if the table is not valid, ErrRange unless by is from 0 to MaxBright.
func Paint(run, still, mask api.Image, table []probe.Knot, by int) ([]Spot, api.Errno) {
	if e := alike(run, still, mask); e != api.OK {
		return nil, e
	}
	if e := probe.CheckTable(table); e != api.OK {
		return nil, e
	}
	if by < 0 || by > api.MaxBright {
		return nil, api.ErrRange
	}
	spots := make([]Spot, len(mask.Pixels))
	for i, counts := range mask.Pixels {
		if counts != 0 {
			spots[i] = spot(brightness(run.Pixels[i], by), brightness(still.Pixels[i], by), table)
		}
	}
	return spots, api.OK
}

// brightness returns what the true brightness of a pixel can be.
func brightness(pixel, by int) exact.Box {
	b, _ := exact.Span(exact.Whole(int64(max(pixel-by, 0))), exact.Whole(int64(pixel+by)))
	return b
}

// spot returns what a valid table says of the ratio of two brightnesses. If the one of the run can be 0, there is none.
func spot(run, still exact.Box, table []probe.Knot) Spot {
	ratio, e := still.Div(run)
	if e != api.OK {
		return Spot{}
	}
	pressure, e := probe.Look(table, ratio)
	return Spot{Known: e == api.OK, Pressure: pressure}
}

// Force returns the force on the spots that are known, and their number; ErrLong if there are more spots than an image has pixels, ErrRange unless area is greater than 0.
func Force(l []Spot, area exact.Num) (force exact.Box, spots int, e api.Errno) {
	if len(l) > api.MaxSide*api.MaxSide {
		return exact.Box{}, 0, api.ErrLong
	}
	if area.Sign() <= 0 {
		return exact.Box{}, 0, api.ErrRange
	}
	var pressures []exact.Box
	for _, s := range l {
		if s.Known {
			pressures = append(pressures, s.Pressure)
		}
	}
	return sum(pressures).Mul(exact.Point(area)), len(pressures), api.OK
}

// sum adds boxes by halves: so, numbers with many digits are met by few others.
func sum(l []exact.Box) exact.Box {
	switch len(l) {
	case 0:
		return exact.Box{}
	case 1:
		return l[0]
	}
	half := len(l) / 2
	return sum(l[:half]).Add(sum(l[half:]))
}
