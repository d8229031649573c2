package image

import (
	"cmp"
	"slices"

	"venturi/api"
	"venturi/exact"
)

// Match is a displacement, how good it is, and how good the best one away from it is.
type Match struct {
	DX, DY int
	Score  exact.Num
	Rival  bool
	Second exact.Num
}

// Vector is what was found for a window.
type Vector struct {
	X, Y  int
	Found bool
	Match Match
}

// offsets returns all ways of at most reach in each direction: first the shortest ones by the sum of both, of these the least y, then the least x.
func offsets(reach int) []place {
	var l []place
	for y := range 2*reach + 1 {
		for x := range 2*reach + 1 {
			l = append(l, place{x - reach, y - reach})
		}
	}
	length := func(p place) int { return max(p.x, -p.x) + max(p.y, -p.y) }
	slices.SortStableFunc(l, func(p, q place) int { return cmp.Compare(length(p), length(q)) })
	return l
}

// within reports whether a window that is not empty is in an image.
func within(im api.Image, p place, size int) bool {
	return p.x >= 0 && p.y >= 0 && p.x <= im.Width-size && p.y <= im.Height-size
}

// window returns the pixels of a window that is in an image.
func window(im api.Image, p place, size int) []int {
	var pixels []int
	for y := range size {
		start := (p.y+y)*im.Width + p.x
		pixels = append(pixels, im.Pixels[start:start+size]...)
	}
	return pixels
}

// together returns n times the sum of the products of n pixels each, less the product of both sums.
func together(p, q []int) int64 {
	var products, sumP, sumQ int64
	for i := range p {
		products += int64(p[i]) * int64(q[i])
		sumP += int64(p[i])
		sumQ += int64(q[i])
	}
	return int64(len(p))*products - sumP*sumQ
}

// score returns the score of two windows, and whether it is defined.
func score(p, q []int) (exact.Num, bool) {
	c := exact.Whole(together(p, q))
	divisor := exact.Whole(together(p, p)).Mul(exact.Whole(together(q, q)))
	s, e := c.Mul(c.Abs()).Div(divisor)
	return s, e == api.OK
}

// candidate is a displacement with its score.
type candidate struct {
	way   place
	score exact.Num
}

// candidates returns those of the displacements of a window of a for which there is a score, in their order.
func candidates(a, b api.Image, p place, size int, ways []place) []candidate {
	from := window(a, p, size)
	var l []candidate
	for _, way := range ways {
		to := p.plus(way)
		if !within(b, to, size) {
			continue
		}
		if s, ok := score(from, window(b, to, size)); ok {
			l = append(l, candidate{way, s})
		}
	}
	return l
}

// greatest returns the first candidate with the greatest score.
func greatest(l []candidate) candidate {
	return slices.MaxFunc(l, func(c, d candidate) int { return c.score.Cmp(d.score) })
}

// match returns the match of a list of candidates, the preferred ones first; false if there is none.
func match(l []candidate) (Match, bool) {
	if len(l) == 0 {
		return Match{}, false
	}
	best := greatest(l)
	m := Match{DX: best.way.x, DY: best.way.y, Score: best.score}
	near := func(c candidate) bool {
		way := c.way.minus(best.way)
		return max(way.x, -way.x, way.y, -way.y) <= 1
	}
	if rivals := slices.DeleteFunc(l, near); len(rivals) > 0 {
		m.Rival, m.Second = true, greatest(rivals).score
	}
	return m, true
}

// wrongReach reports whether displacements may not be looked for so far.
func wrongReach(reach int) bool { return reach < 0 || reach > api.MaxReach }

// Displace returns the displacement of a window of a in b; ErrImage, ErrSize, ErrRange unless size is at least 2, reach is from 0 to MaxReach and the window is within a, ErrFlat if there is no candidate.
func Displace(a, b api.Image, x, y, size, reach int) (Match, api.Errno) {
	if e := alike(a, b); e != api.OK {
		return Match{}, e
	}
	p := place{x, y}
	if size < 2 || wrongReach(reach) || !within(a, p, size) {
		return Match{}, api.ErrRange
	}
	m, ok := match(candidates(a, b, p, size, offsets(reach)))
	if !ok {
		return Match{}, api.ErrFlat
	}
	return m, api.OK
}

// Field returns the displacements of the windows at the multiples of step; ErrImage, ErrSize, ErrRange unless size is from 2 to the lesser side, step from 1 to MaxSide and reach from 0 to MaxReach.
func Field(a, b api.Image, size, step, reach int) ([]Vector, api.Errno) {
	if e := alike(a, b); e != api.OK {
		return nil, e
	}
	if size < 2 || size > min(a.Width, a.Height) || step < 1 || step > api.MaxSide || wrongReach(reach) {
		return nil, api.ErrRange
	}
	ways := offsets(reach)
	var l []Vector
	for row := range (a.Height-size)/step + 1 {
		for column := range (a.Width-size)/step + 1 {
			p := place{column * step, row * step}
			m, ok := match(candidates(a, b, p, size, ways))
			l = append(l, Vector{X: p.x, Y: p.y, Found: ok, Match: m})
		}
	}
	return l, api.OK
}
