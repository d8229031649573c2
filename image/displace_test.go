package image_test

import (
	"cmp"
	"math"
	"math/rand/v2"
	"slices"
	"testing"

	"venturi/api"
	"venturi/exact"
	"venturi/image"
)

// corner returns an image in which a corner stands in the column x and the row y.
func corner(width, height, x, y int) api.Image {
	c := full(width, height, 0)
	c.Pixels[y*width+x] = 9
	c.Pixels[y*width+x+1] = 1
	c.Pixels[(y+1)*width+x] = 2
	return c
}

// P8.6
func TestDisplace(t *testing.T) {
	for _, c := range []struct {
		what              string
		a, b              api.Image
		x, y, size, reach int
		want              score
	}{
		{"example 3", corner(5, 3, 1, 1), corner(5, 3, 2, 1), 1, 1, 2, 1, score{1, 0, "1", false, "0"}},
		{"no way to go", corner(5, 3, 1, 1), corner(5, 3, 2, 1), 1, 1, 2, 0, score{0, 0, "-384/1825", false, "0"}},
		{"all of it", corner(3, 3, 0, 0), corner(3, 3, 0, 0), 0, 0, 3, 8, score{0, 0, "1", false, "0"}},
		{"to the left and up", corner(6, 6, 4, 3), corner(6, 6, 1, 1), 4, 3, 2, 3, score{-3, -2, "1", false, "0"}},
		{"to the right and down", corner(6, 6, 1, 0), corner(6, 6, 4, 3), 1, 0, 2, 3, score{3, 3, "1", false, "0"}},
		{"farther than the reach", corner(6, 6, 1, 0), corner(6, 6, 4, 3), 1, 0, 2, 2, score{2, 2, "-0.24", false, "0"}},
		{"as far as the reach", corner(12, 3, 0, 0), corner(12, 3, 8, 0), 0, 0, 2, 8, score{8, 0, "1", false, "0"}},
	} {
		m, e := image.Displace(c.a, c.b, c.x, c.y, c.size, c.reach)
		is(t, c.what, written(m), e, c.want)
	}
}

// P8.6: of the greatest scores the nearest one is meant, then the upper one, then the left one.
func TestDisplaceEqual(t *testing.T) {
	// stamp returns an image of 9 by 9 with the same corner in some places.
	stamp := func(places ...[2]int) api.Image {
		x := full(9, 9, 0)
		for _, p := range places {
			for i, q := range corner(9, 9, p[0], p[1]).Pixels {
				x.Pixels[i] += q
			}
		}
		return x
	}
	for _, c := range []struct {
		what   string
		b      api.Image
		dx, dy int
		rival  bool
	}{
		{"where it was", stamp([2]int{3, 3}, [2]int{0, 0}, [2]int{6, 6}), 0, 0, true},
		{"the nearest one", stamp([2]int{1, 1}, [2]int{3, 6}), 0, 3, true},
		{"the sum is less though one is more", stamp([2]int{5, 5}, [2]int{6, 3}), 3, 0, true},
		{"the upper one", stamp([2]int{5, 2}, [2]int{1, 4}), 2, -1, true},
		{"the upper one", stamp([2]int{1, 4}, [2]int{4, 5}), -2, 1, true},
		{"the left one", stamp([2]int{1, 2}, [2]int{5, 2}), -2, -1, true},
		{"the left one of those below", stamp([2]int{5, 5}, [2]int{1, 5}), -2, 2, true},
	} {
		m, e := image.Displace(stamp([2]int{3, 3}), c.b, 3, 3, 2, 3)
		is(t, c.what, written(m), e, score{c.dx, c.dy, "1", c.rival, "1"})
	}
}

// P8.6: rivals are more than 1 away in a direction.
func TestRival(t *testing.T) {
	a := corner(8, 2, 3, 0)
	for _, c := range []struct {
		what string
		b    api.Image
		want score
	}{
		{"all near", im(8, 0, 0, 0, 9, 1, 0, 0, 0, 0, 0, 0, 2, 0, 0, 0, 0), score{0, 0, "1", false, "0"}},
		{"one that is 2 away", im(8, 0, 0, 0, 9, 1, 7, 0, 0, 0, 0, 0, 2, 0, 0, 0, 0), score{0, 0, "1", true, "0.96"}},
	} {
		m, e := image.Displace(a, c.b, 3, 0, 2, 2)
		is(t, c.what, written(m), e, c.want)
	}
	// A second score may be below 0.
	m, e := image.Displace(corner(4, 2, 0, 0), im(4, 9, 1, 0, 9, 2, 0, 9, 9), 0, 0, 2, 2)
	is(t, "below 0", written(m), e, score{0, 0, "1", true, "-0.96"})
}

// P8.6
func TestDisplaceErrors(t *testing.T) {
	for _, c := range wrongSets(2) {
		m, e := image.Displace(c.images[0], c.images[1], -1, 0, 2, 1)
		isError(t, c.what, e, c.want, m)
		l, e := image.Field(c.images[0], c.images[1], 0, 1, 1)
		isError(t, c.what, e, c.want, l)
	}
	dark, x := full(5, 4, 9), anyImage(rand.New(rand.NewPCG(8, 6)), 5, 4, 100)
	for _, c := range []struct {
		what              string
		x, y, size, reach int
	}{
		{"size 1", 0, 0, 1, 1},
		{"size 0", 0, 0, 0, 1},
		{"size below 0", 0, 0, -2, 1},
		{"least size", 0, 0, math.MinInt, 1},
		{"greatest size", 0, 0, math.MaxInt, 1},
		{"higher than the image", 0, 0, 5, 1},
		{"reach below 0", 0, 0, 2, -1},
		{"reach too far", 0, 0, 2, api.MaxReach + 1},
		{"least reach", 0, 0, 2, math.MinInt},
		{"x below 0", -1, 0, 2, 1},
		{"y below 0", 0, -1, 2, 1},
		{"x too great", 4, 0, 2, 1},
		{"y too great", 0, 3, 2, 1},
		{"greatest x", math.MaxInt, 0, 2, 1},
		{"greatest y", 0, math.MaxInt, 2, 1},
		{"least x", math.MinInt, 0, 2, 1},
		{"least y", 0, math.MinInt, math.MaxInt, 1},
	} {
		for _, a := range []api.Image{dark, x} {
			m, e := image.Displace(a, x, c.x, c.y, c.size, c.reach)
			isError(t, c.what, e, api.ErrRange, m)
		}
	}
	for what, pair := range map[string][2]api.Image{"both flat": {dark, dark}, "a flat window": {dark, x}, "flat all around": {x, dark}} {
		m, e := image.Displace(pair[0], pair[1], 1, 1, 2, 8)
		isError(t, what, e, api.ErrFlat, m)
	}
	m, e := image.Displace(x, x, 3, 2, 2, api.MaxReach)
	is(t, "the last window", written(m).score, e, "1")
}

// deviations returns the pixels of a window less their mean.
func deviations(x api.Image, left, top, size int) []exact.Num {
	w := part(x, left, top, size, size).Pixels
	sum := 0
	for _, p := range w {
		sum += p
	}
	var l []exact.Num
	for _, p := range w {
		l = append(l, whole(p).Sub(ratio(sum, size*size)))
	}
	return l
}

// scored is a displacement with its score.
type scored struct {
	dx, dy int
	score  exact.Num
}

// order compares by what P8.6 prefers.
func order(c, d scored) int {
	size := func(n int) int { return max(n, -n) }
	return cmp.Or(d.score.Cmp(c.score), cmp.Compare(size(c.dx)+size(c.dy), size(d.dx)+size(d.dy)), cmp.Compare(c.dy, d.dy), cmp.Compare(c.dx, d.dx))
}

// plainMatch returns the match by deviations from the means, and whether there is one.
func plainMatch(a, b api.Image, x, y, size, reach int) (image.Match, bool) {
	var l []scored
	p := deviations(a, x, y, size)
	pp, _ := exact.Dot(p, p)
	for dx := -reach; dx <= reach; dx++ {
		for dy := -reach; dy <= reach; dy++ {
			if x+dx < 0 || y+dy < 0 || x+dx+size > b.Width || y+dy+size > b.Height {
				continue
			}
			q := deviations(b, x+dx, y+dy, size)
			qq, _ := exact.Dot(q, q)
			pq, _ := exact.Dot(p, q)
			if s, e := pq.Mul(pq.Abs()).Div(pp.Mul(qq)); e == api.OK {
				l = append(l, scored{dx, dy, s})
			}
		}
	}
	if len(l) == 0 {
		return image.Match{}, false
	}
	slices.SortFunc(l, order)
	m := image.Match{DX: l[0].dx, DY: l[0].dy, Score: l[0].score}
	for _, c := range l {
		if d := (image.Match{DX: c.dx - m.DX, DY: c.dy - m.DY}); d.DX*d.DX > 1 || d.DY*d.DY > 1 {
			m.Rival, m.Second = true, c.score
			break
		}
	}
	return m, true
}

// P8.6: as another method finds them.
func TestDisplaceAny(t *testing.T) {
	random := rand.New(rand.NewPCG(8, 66))
	kinds := map[bool]int{}
	for range 1500 {
		width, height, most := 2+random.IntN(6), 2+random.IntN(6), anyOf(random, 2, 2, 3, 1001)
		a, b := anyImage(random, width, height, most), anyImage(random, width, height, most)
		size, reach := 2+random.IntN(min(width, height)-1), random.IntN(5)
		x, y := random.IntN(width-size+1), random.IntN(height-size+1)
		want, ok := plainMatch(a, b, x, y, size, reach)
		kinds[ok]++
		m, e := image.Displace(a, b, x, y, size, reach)
		if !ok {
			isError(t, "flat", e, api.ErrFlat, m)
		} else if e != api.OK || written(m) != written(want) {
			t.Fatal(a, b, x, y, size, reach, written(m), e, written(want))
		}
	}
	if kinds[false] < 50 || kinds[true] < 500 {
		t.Error("too few windows of a kind", kinds)
	}
}

// P8.6: the greatest windows with the greatest numbers.
func TestDisplaceGreat(t *testing.T) {
	a, b := full(24, 24, 0), full(24, 24, 1000)
	for i := range 288 {
		a.Pixels[i], b.Pixels[i] = 1000, 0
	}
	m, e := image.Displace(a, a, 0, 0, 24, 8)
	is(t, "the same", written(m), e, score{0, 0, "1", false, "0"})
	m, e = image.Displace(a, b, 0, 0, 24, 8)
	is(t, "opposite", written(m), e, score{0, 0, "-1", false, "0"})
	l, e := image.Field(a, b, 24, 24, 8)
	is(t, "one window", len(l), e, 1)
	is(t, "one window", written(l[0].Match), e, score{0, 0, "-1", false, "0"})
}

// P8.7: the windows are those at the multiples of step, with what Displace returns.
func TestField(t *testing.T) {
	random := rand.New(rand.NewPCG(8, 7))
	found := map[bool]int{}
	for range 500 {
		width, height := 2+random.IntN(6), 2+random.IntN(6)
		a, b := anyImage(random, width, height, anyOf(random, 2, 9)), anyImage(random, width, height, 2)
		size, step, reach := 2+random.IntN(min(width, height)-1), 1+random.IntN(4), random.IntN(4)
		l, e := image.Field(a, b, size, step, reach)
		for y := 0; y < height; y++ {
			for x := 0; x < width; x++ {
				if x%step != 0 || y%step != 0 || x+size > width || y+size > height {
					continue
				}
				m, e2 := image.Displace(a, b, x, y, size, reach)
				if e != api.OK || len(l) == 0 || l[0].X != x || l[0].Y != y || l[0].Found != (e2 == api.OK) || written(l[0].Match) != written(m) {
					t.Fatal(a, b, size, step, reach, x, y, l, e, m, e2)
				}
				found[l[0].Found]++
				l = l[1:]
			}
		}
		is(t, "vectors that are left", len(l), e, 0)
	}
	if found[false] < 50 || found[true] < 500 {
		t.Error("too few vectors of a kind", found)
	}
}

// P8.7
func TestFieldEdges(t *testing.T) {
	x := anyImage(rand.New(rand.NewPCG(7, 8)), 5, 4, 100)
	for _, c := range []struct {
		what              string
		size, step, reach int
		want              [][2]int
	}{
		{"every second place", 2, 2, 1, [][2]int{{0, 0}, {2, 0}, {0, 2}, {2, 2}}},
		{"columns of windows", 4, 1, 0, [][2]int{{0, 0}, {1, 0}}},
		{"the greatest numbers", 4, api.MaxSide, api.MaxReach, [][2]int{{0, 0}}},
		{"the last window of a row", 2, 3, 8, [][2]int{{0, 0}, {3, 0}}},
	} {
		l, e := image.Field(x, x, c.size, c.step, c.reach)
		var at [][2]int
		for _, v := range l {
			at = append(at, [2]int{v.X, v.Y})
			is(t, c.what, written(v.Match).score, e, "1")
		}
		isList(t, c.what, at, e, c.want...)
	}
	for _, c := range []struct{ size, step, reach int }{
		{1, 1, 1}, {0, 1, 1}, {-1, 1, 1}, {5, 1, 1}, {math.MaxInt, 1, 1}, {math.MinInt, 1, 1},
		{2, 0, 1}, {2, -1, 1}, {2, api.MaxSide + 1, 1}, {2, math.MaxInt, 1}, {2, math.MinInt, 1},
		{2, 1, -1}, {2, 1, api.MaxReach + 1}, {2, 1, math.MaxInt}, {2, 1, math.MinInt},
	} {
		l, e := image.Field(x, x, c.size, c.step, c.reach)
		isError(t, "Field", e, api.ErrRange, l)
	}
	l, e := image.Field(full(9, 1, 1), full(9, 1, 1), 2, 1, 1)
	isError(t, "no window is so low", e, api.ErrRange, l)
	l, e = image.Field(full(1, 9, 1), full(1, 9, 1), 2, 1, 1)
	isError(t, "no window is so narrow", e, api.ErrRange, l)
	l, e = image.Field(full(3, 3, 1), x, 2, 1, 1)
	isError(t, "two sizes", e, api.ErrSize, l)
}

// P8.11: a window that stands in b too has the score 1, and no candidate has a greater one.
func TestShift(t *testing.T) {
	random := rand.New(rand.NewPCG(8, 11))
	for range 1000 {
		width, height, size := 3+random.IntN(5), 3+random.IntN(5), 2+random.IntN(2)
		a, b := anyImage(random, width, height, 5), anyImage(random, width, height, 5)
		x, y := random.IntN(width-size+1), random.IntN(height-size+1)
		toX, toY := random.IntN(width-size+1), random.IntN(height-size+1)
		w := part(a, x, y, size, size)
		for i, p := range w.Pixels {
			b.Pixels[(toY+i/size)*width+toX+i%size] = p
		}
		if slices.Min(w.Pixels) == slices.Max(w.Pixels) {
			continue
		}
		reach := max(x-toX, toX-x, y-toY, toY-y) + random.IntN(2)
		m, e := image.Displace(a, b, x, y, size, reach)
		if e != api.OK || m.Score.String() != "1" || m.Second.Cmp(m.Score) > 0 {
			t.Fatal(a, b, x, y, size, reach, written(m), e)
		}
		if there := part(b, x+m.DX, y+m.DY, size, size); !lighter(w, there) {
			t.Fatal(w, there)
		}
	}
}

// lighter reports whether the pixels of b are those of a, which are not all equal, times a positive number and plus another one.
func lighter(a, b api.Image) bool {
	least, low := slices.Min(a.Pixels), slices.Min(b.Pixels)
	rise := ratio(slices.Max(b.Pixels)-low, slices.Max(a.Pixels)-least)
	for i, p := range a.Pixels {
		if rise.Mul(whole(p-least)).Cmp(whole(b.Pixels[i]-low)) != 0 {
			return false
		}
	}
	return rise.Sign() > 0
}

// P8.11: more light, or more contrast, changes nothing.
func TestLight(t *testing.T) {
	random := rand.New(rand.NewPCG(11, 8))
	for range 500 {
		width, height := 2+random.IntN(5), 2+random.IntN(5)
		a, b := anyImage(random, width, height, 9), anyImage(random, width, height, 9)
		size, reach := 2+random.IntN(min(width, height)-1), random.IntN(4)
		lit := func(x api.Image) api.Image {
			times, plus := 1+random.IntN(100), random.IntN(200)
			light := full(width, height, 0)
			for i, p := range x.Pixels {
				light.Pixels[i] = p*times + plus
			}
			return light
		}
		want, e := image.Displace(a, b, 0, 0, size, reach)
		for _, pair := range [][2]api.Image{{lit(a), b}, {a, lit(b)}, {lit(a), lit(b)}} {
			m, e2 := image.Displace(pair[0], pair[1], 0, 0, size, reach)
			if e2 != e || written(m) != written(want) {
				t.Fatal(a, b, size, reach, pair, written(m), e2, written(want), e)
			}
		}
	}
}
