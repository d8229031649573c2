package image

import (
	"slices"

	"venturi/api"
)

// Validate says which vectors, in rows of so many columns, are like their neighbours; ErrLong if there are more than an image has pixels, ErrRange unless columns is at least 1 and limit at least 0, ErrArg if the last row is not full.
func Validate(l []Vector, columns, limit int) ([]bool, api.Errno) {
	if len(l) > api.MaxSide*api.MaxSide {
		return nil, api.ErrLong
	}
	if columns < 1 || limit < 0 {
		return nil, api.ErrRange
	}
	if len(l)%columns != 0 {
		return nil, api.ErrArg
	}
	good := make([]bool, len(l))
	for i, v := range l {
		dx, dy := around(l, columns, i)
		good[i] = v.Found && len(dx) >= 2 && apart(v.Match.DX, median(dx)) <= uint64(limit) && apart(v.Match.DY, median(dy)) <= uint64(limit)
	}
	return good, api.OK
}

// around returns the displacements of the neighbours of the vector i.
func around(l []Vector, columns, i int) (dx, dy []int) {
	p := place{i % columns, i / columns}
	for _, step := range [8]place{{-1, -1}, {0, -1}, {1, -1}, {-1, 0}, {1, 0}, {-1, 1}, {0, 1}, {1, 1}} {
		if k, in := p.plus(step).in(columns, len(l)/columns); in && l[k].Found {
			dx = append(dx, l[k].Match.DX)
			dy = append(dy, l[k].Match.DY)
		}
	}
	return dx, dy
}

// median returns the median of a list that is not empty, and sorts it.
func median(l []int) int {
	slices.Sort(l)
	return l[(len(l)-1)/2]
}

// apart returns the difference of the greater and the lesser one of two integers, which may be too great for an int.
func apart(a, b int) uint64 {
	return uint64(max(a, b)) - uint64(min(a, b))
}
