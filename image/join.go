package image

import (
	"cmp"
	"slices"

	"venturi/api"
)

// overlap is how well two images fit if one is moved: how many pixels both have, and the sum of the squares of their differences.
type overlap struct {
	way             place
	pixels, squares int64
}

// lay returns the overlap of a with b, whose first pixel lies on the place way of a.
func lay(a, b api.Image, way place) overlap {
	o := overlap{way: way}
	for y := range b.Height {
		for x := range b.Width {
			if i, in := way.plus(place{x, y}).in(a.Width, a.Height); in {
				d := int64(a.Pixels[i] - b.Pixels[y*b.Width+x])
				o.pixels++
				o.squares += d * d
			}
		}
	}
	return o
}

// Join joins two images that overlap where they fit best; ErrImage, ErrRange unless reach is from 0 to MaxSide and least is at least 1, ErrApart if no offset has so many pixels of overlap.
func Join(a, b api.Image, reach, least int) (dx, dy int, joined api.Image, e api.Errno) {
	if e := valid(a, b); e != api.OK {
		return 0, 0, api.Image{}, e
	}
	if reach < 0 || reach > api.MaxSide || least < 1 {
		return 0, 0, api.Image{}, api.ErrRange
	}
	var l []overlap
	for _, way := range offsets(reach) {
		if o := lay(a, b, way); o.pixels >= int64(least) {
			l = append(l, o)
		}
	}
	if len(l) == 0 {
		return 0, 0, api.Image{}, api.ErrApart
	}
	best := slices.MinFunc(l, func(o, p overlap) int {
		return cmp.Or(cmp.Compare(o.squares*p.pixels, p.squares*o.pixels), cmp.Compare(p.pixels, o.pixels))
	}).way
	return best.x, best.y, mosaic(a, b, best), api.OK
}

// mosaic returns the least image that has a, and b moved by way: with the mean, rounded down, of the pixels that both have.
func mosaic(a, b api.Image, way place) api.Image {
	first := place{min(0, way.x), min(0, way.y)}
	joined := dark(max(a.Width, way.x+b.Width)-first.x, max(a.Height, way.y+b.Height)-first.y)
	for y := range joined.Height {
		for x := range joined.Width {
			p := first.plus(place{x, y})
			joined.Pixels[y*joined.Width+x] = blend(a, b, p, p.minus(way))
		}
	}
	return joined
}

// blend returns the mean of the pixel p of a and the pixel q of b, or the one that there is, or 0.
func blend(a, b api.Image, p, q place) int {
	i, inA := p.in(a.Width, a.Height)
	k, inB := q.in(b.Width, b.Height)
	switch {
	case inA && inB:
		return (a.Pixels[i] + b.Pixels[k]) / 2
	case inA:
		return a.Pixels[i]
	case inB:
		return b.Pixels[k]
	}
	return 0
}
