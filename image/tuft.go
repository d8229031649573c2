package image

import "venturi/api"

// Tuft returns the axis of a tuft; ErrImage, ErrSize, ErrFlat if all pixels that count are 0.
func Tuft(im, mask api.Image) (api.Axis, api.Errno) {
	if e := alike(im, mask); e != api.OK {
		return 0, e
	}
	var weight, x, y, xx, yy, xy int64
	for row := range im.Height {
		for column := range im.Width {
			i := row*im.Width + column
			if mask.Pixels[i] == 0 {
				continue
			}
			w, c, r := int64(im.Pixels[i]), int64(column), int64(row)
			weight += w
			x, y = x+w*c, y+w*r
			xx, yy, xy = xx+w*c*c, yy+w*r*r, xy+w*c*r
		}
	}
	if weight == 0 {
		return 0, api.ErrFlat
	}
	// Times the weight, the sums about the means are integers.
	return axis(weight*xx-x*x, weight*yy-y*y, weight*xy-x*y), api.OK
}

// axis returns the axis of the sums of squares and products about the means, or of a multiple of them.
func axis(xx, yy, xy int64) api.Axis {
	flat, steep := xx-yy, 2*xy
	switch {
	case flat > 0 && flat >= max(steep, -steep):
		return api.Level
	case -flat > 0 && -flat >= max(steep, -steep):
		return api.Upright
	case steep > 0: // and greater than both differences
		return api.Falling
	case steep < 0:
		return api.Rising
	}
	return api.Round
}
