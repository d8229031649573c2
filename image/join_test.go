package image_test

import (
	"cmp"
	"math"
	"math/rand/v2"
	"slices"
	"testing"

	"venturi/api"
	"venturi/exact"
	"venturi/image"
)

// isJoin compares a result of Join.
func isJoin(t *testing.T, what string, a, b api.Image, reach, least, dx, dy int, want api.Image) {
	t.Helper()
	x, y, j, e := image.Join(a, b, reach, least)
	is(t, what, [2]int{x, y}, e, [2]int{dx, dy})
	isImage(t, what, j, e, want)
}

// P8.10
func TestJoin(t *testing.T) {
	isJoin(t, "example 5", im(4, 1, 2, 3, 4), im(4, 3, 4, 5, 6), 3, 2, 2, 0, im(6, 1, 2, 3, 4, 5, 6))
	isJoin(t, "example 5, exchanged", im(4, 3, 4, 5, 6), im(4, 1, 2, 3, 4), 3, 2, -2, 0, im(6, 1, 2, 3, 4, 5, 6))
	isJoin(t, "it is beyond the reach", im(4, 1, 2, 3, 4), im(4, 3, 4, 5, 6), 1, 2, 1, 0, im(5, 1, 2, 3, 4, 6))
	isJoin(t, "one pixel suffices", im(2, 1, 5), im(2, 5, 9), 1, 1, 1, 0, im(3, 1, 5, 9))
	isJoin(t, "one pixel does not suffice", im(2, 1, 5), im(2, 5, 9), 1, 2, 0, 0, im(2, 3, 7))
	isJoin(t, "rounded down", im(2, 1, 5), im(2, 4, 6), 0, 1, 0, 0, im(2, 2, 5))
	isJoin(t, "two sizes", im(3, 1, 2, 3, 4, 5, 6), im(1, 5), 2, 1, 1, 1, im(3, 1, 2, 3, 4, 5, 6))
	isJoin(t, "two sizes, exchanged", im(1, 5), im(3, 1, 2, 3, 4, 5, 6), 2, 1, -1, -1, im(3, 1, 2, 3, 4, 5, 6))
	isJoin(t, "where neither is", im(2, 1, 2, 3, 4), im(2, 4, 5, 6, 7), 2, 1, 1, 1, im(3, 1, 2, 0, 3, 4, 5, 0, 6, 7))
	isJoin(t, "where neither is, on the other side", im(2, 1, 8, 3, 4), im(2, 5, 6, 8, 7), 2, 1, 1, -1, im(3, 0, 5, 6, 1, 8, 7, 3, 4, 0))
	isJoin(t, "wider than MaxSide", im(2, 7, 9), full(24, 1, 9), 24, 1, 1, 0, im(25, append([]int{7}, full(24, 1, 9).Pixels...)...))
	// As far as there can be an overlap: 23 columns and rows.
	a, b, want := full(24, 24, 0), full(24, 24, 1000), full(47, 47, 0)
	a.Pixels[575], b.Pixels[0] = 3, 3
	for y := range 24 {
		for x := range 24 {
			want.Pixels[(y+23)*47+x+23] = pixel(b, x, y)
		}
	}
	isJoin(t, "from corner to corner", a, b, api.MaxSide, 1, 23, 23, want)
}

// P8.10: which one of equally good offsets is meant.
func TestJoinEqual(t *testing.T) {
	isJoin(t, "the most pixels", im(3, 1, 9, 1), im(3, 1, 9, 1), 2, 1, 0, 0, im(3, 1, 9, 1))
	isJoin(t, "the most pixels of the farther ones", im(4, 8, 0, 0, 0), im(4, 0, 0, 0, 8), 3, 1, 1, 0, im(5, 8, 0, 0, 0, 8))
	isJoin(t, "the least mean, not the least sum", im(2, 1, 2), im(2, 0, 4), 1, 1, 0, 0, im(2, 0, 3))
	isJoin(t, "the nearest one", full(3, 3, 5), im(1, 5), 3, 1, 0, 0, full(3, 3, 5))
	// The most pixels of overlap are reached by more than one offset.
	isJoin(t, "the least dy", im(3, 0, 5, 0, 5, 0, 5, 0, 5, 0), im(1, 5), 3, 1, 1, 0, im(3, 0, 5, 0, 5, 0, 5, 0, 5, 0))
	isJoin(t, "the least dy, below 0", im(1, 5), im(3, 0, 5, 0, 5, 0, 5, 0, 5, 0), 3, 1, 0, -1, im(3, 0, 5, 0, 5, 0, 5, 0, 5, 0))
	isJoin(t, "the least dx", im(1, 5), im(3, 5, 0, 5), 3, 1, 0, 0, im(3, 5, 0, 5))
	isJoin(t, "the least dy of four", im(3, 0, 7, 0, 7, 0, 7, 0, 7, 0), im(3, 0, 0, 0, 0, 7, 0, 0, 0, 0), 1, 4, 0, -1, im(3, 0, 0, 0, 0, 7, 0, 3, 0, 3, 0, 7, 0))
	isJoin(t, "the least dx of two", im(3, 7, 0, 7), im(3, 0, 7, 0), 1, 2, -1, 0, im(4, 0, 7, 0, 7))
}

// P8.10
func TestJoinErrors(t *testing.T) {
	x := im(2, 5, 6, 7, 8)
	for what, wrong := range wrongImages() {
		for _, pair := range [][2]api.Image{{wrong, x}, {x, wrong}, {wrong, wrong}} {
			dx, dy, j, e := image.Join(pair[0], pair[1], -1, 0)
			isError(t, what, e, api.ErrImage, dx, dy, j)
		}
	}
	for _, c := range [][2]int{{-1, 1}, {25, 1}, {math.MinInt, 1}, {math.MaxInt, 1}, {2, 0}, {2, -1}, {2, math.MinInt}, {25, 100}} {
		dx, dy, j, e := image.Join(x, x, c[0], c[1])
		isError(t, "out of range", e, api.ErrRange, dx, dy, j)
	}
	for _, c := range [][2]int{{0, 5}, {24, 5}, {3, math.MaxInt}} {
		dx, dy, j, e := image.Join(x, x, c[0], c[1])
		isError(t, "apart", e, api.ErrApart, dx, dy, j)
	}
	dx, dy, j, e := image.Join(im(1, 5), full(1, 3, 5), 24, 2)
	isError(t, "too little to overlap", e, api.ErrApart, dx, dy, j)
	isJoin(t, "just enough", x, x, 24, 4, 0, 0, x)
}

// laid is an offset with its mean and its overlap.
type laid struct {
	dx, dy, pixels int
	mean           exact.Num
}

// plain returns the pixels of an image by their places, moved.
func plain(x api.Image, dx, dy int) map[[2]int]int {
	m := map[[2]int]int{}
	for i, p := range x.Pixels {
		m[[2]int{i%x.Width + dx, i/x.Width + dy}] = p
	}
	return m
}

// plainOffsets returns all offsets with enough overlap, the best one first.
func plainOffsets(a, b api.Image, reach, least int) []laid {
	var l []laid
	under := plain(a, 0, 0)
	for dx := -reach; dx <= reach; dx++ {
		for dy := -reach; dy <= reach; dy++ {
			pixels, squares := 0, 0
			for at, p := range plain(b, dx, dy) {
				if q, ok := under[at]; ok {
					pixels++
					squares += (p - q) * (p - q)
				}
			}
			if pixels >= least {
				l = append(l, laid{dx, dy, pixels, ratio(squares, pixels)})
			}
		}
	}
	size := func(n int) int { return max(n, -n) }
	slices.SortFunc(l, func(c, d laid) int {
		far := cmp.Compare(size(c.dx)+size(c.dy), size(d.dx)+size(d.dy))
		return cmp.Or(c.mean.Cmp(d.mean), cmp.Compare(d.pixels, c.pixels), far, cmp.Compare(c.dy, d.dy), cmp.Compare(c.dx, d.dx))
	})
	return l
}

// plainMosaic returns the joined image for an offset.
func plainMosaic(a, b api.Image, dx, dy int) api.Image {
	under, over := plain(a, 0, 0), plain(b, dx, dy)
	var columns, rows []int
	for _, m := range []map[[2]int]int{under, over} {
		for at := range m {
			columns, rows = append(columns, at[0]), append(rows, at[1])
		}
	}
	var pixels []int
	for y := slices.Min(rows); y <= slices.Max(rows); y++ {
		for x := slices.Min(columns); x <= slices.Max(columns); x++ {
			p, inA := under[[2]int{x, y}]
			q, inB := over[[2]int{x, y}]
			if inA && inB {
				pixels = append(pixels, (p+q)/2)
			} else {
				pixels = append(pixels, p+q)
			}
		}
	}
	return im(slices.Max(columns)-slices.Min(columns)+1, pixels...)
}

// P8.10: as another method joins them.
func TestJoinAny(t *testing.T) {
	random := rand.New(rand.NewPCG(8, 10))
	apart := 0
	for range 1000 {
		most := anyOf(random, 2, 2, 3, 1001)
		a := anyImage(random, 1+random.IntN(5), 1+random.IntN(5), most)
		b := anyImage(random, 1+random.IntN(5), 1+random.IntN(5), most)
		reach, least := random.IntN(6), 1+random.IntN(6)
		l := plainOffsets(a, b, reach, least)
		if len(l) == 0 {
			apart++
			dx, dy, j, e := image.Join(a, b, reach, least)
			isError(t, "apart", e, api.ErrApart, dx, dy, j)
			continue
		}
		isJoin(t, "joined", a, b, reach, least, l[0].dx, l[0].dy, plainMosaic(a, b, l[0].dx, l[0].dy))
	}
	if apart < 50 || apart > 500 {
		t.Error("too few images of a kind", apart)
	}
}

// P8.15: parts of one image fit, and what is joined has all pixels of both.
func TestParts(t *testing.T) {
	random := rand.New(rand.NewPCG(8, 15))
	for range 1000 {
		x := anyImage(random, 8, 8, anyOf(random, 2, 3, 9))
		var first, size [2][2]int
		for k := range 2 {
			size[k] = [2]int{4 + random.IntN(3), 4 + random.IntN(3)}
			first[k] = [2]int{random.IntN(9 - size[k][0]), random.IntN(9 - size[k][1])}
		}
		piece := func(k int) api.Image { return part(x, first[k][0], first[k][1], size[k][0], size[k][1]) }
		overlap := 1
		for i := range 2 {
			overlap *= max(0, min(first[0][i]+size[0][i], first[1][i]+size[1][i])-max(first[0][i], first[1][i]))
		}
		if overlap == 0 {
			continue
		}
		a, b := piece(0), piece(1)
		dx, dy, j, e := image.Join(a, b, 4, 1+random.IntN(overlap))
		if e != api.OK {
			t.Fatal(a, b, overlap, e)
		}
		all := plain(j, min(0, dx), min(0, dy))
		for _, m := range []map[[2]int]int{plain(a, 0, 0), plain(b, dx, dy)} {
			for at, p := range m {
				if q, ok := all[at]; !ok || q != p {
					t.Fatal(a, b, dx, dy, j, at)
				}
			}
		}
	}
}
