package image_test

import (
	"math/rand/v2"
	"testing"

	"venturi/api"
	"venturi/exact"
	"venturi/image"
)

// P8.9
func TestTuft(t *testing.T) {
	for _, c := range []struct {
		what string
		x    api.Image
		want api.Axis
	}{
		{"example 4", im(3, 5, 0, 0, 0, 5, 0, 0, 0, 5), api.Falling},
		{"example 4 alone", im(3, 1, 1, 1), api.Level},
		{"the other way", im(3, 0, 0, 5, 0, 5, 0, 5, 0, 0), api.Rising},
		{"one column", im(1, 1, 1, 1), api.Upright},
		{"one pixel", im(1, 7), api.Round},
		{"one bright pixel", im(3, 0, 0, 0, 0, 0, 9), api.Round},
		{"a square", full(2, 2, 3), api.Round},
		{"a great square", full(24, 24, 1000), api.Round},
		{"a great rectangle", full(24, 23, 1000), api.Level},
		{"a cross", im(3, 0, 1, 0, 1, 1, 1, 0, 1, 0), api.Round},
		{"xx - yy is 2 * xy", im(3, 1, 0, 1, 0, 0, 2), api.Level},
		{"xx - yy is -2 * xy", im(3, 0, 0, 2, 1, 0, 1), api.Level},
		{"yy - xx is 2 * xy", im(2, 1, 0, 0, 0, 1, 2), api.Upright},
		{"yy - xx is -2 * xy", im(2, 0, 1, 0, 0, 2, 1), api.Upright},
		{"xx - yy is a little less than 2 * xy", im(3, 100, 0, 99, 0, 0, 200), api.Falling},
		{"yy - xx is a little less than -2 * xy", im(2, 0, 100, 0, 0, 200, 99), api.Rising},
	} {
		a, e := image.Tuft(c.x, counts(c.x))
		is(t, c.what, a, e, c.want)
	}
}

// P8.9: pixels that do not count are as if they were 0.
func TestTuftMask(t *testing.T) {
	x := im(3, 5, 0, 8, 0, 5, 0, 0, 0, 5)
	a, e := image.Tuft(x, im(3, 1, 1, 0, 1, 1000, 1, 1, 1, 2))
	is(t, "without a corner", a, e, api.Falling)
	a, e = image.Tuft(x, im(3, 0, 1, 3, 1, 3, 1, 1, 1, 0))
	is(t, "without the other ones", a, e, api.Rising)
	a, e = image.Tuft(x, im(3, 1, 0, 1, 0, 0, 0, 0, 0, 0))
	is(t, "a row", a, e, api.Level)
	for what, mask := range map[string]api.Image{"none counts": full(3, 3, 0), "none that counts has a weight": im(3, 0, 1, 0, 1, 0, 1, 1, 1, 0)} {
		a, e := image.Tuft(x, mask)
		isError(t, what, e, api.ErrFlat, a)
	}
	a, e = image.Tuft(full(3, 3, 0), full(3, 3, 1))
	isError(t, "dark", e, api.ErrFlat, a)
	for _, c := range wrongSets(2) {
		a, e := image.Tuft(c.images[0], c.images[1])
		isError(t, c.what, e, c.want, a)
	}
}

// about returns a weighted sum of products of deviations from the means of the columns or the rows (0 or 1), by the definition.
func about(x, mask api.Image, first, second int) exact.Num {
	var weight exact.Num
	var sum [2]exact.Num
	each := func(tell func(w exact.Num, at [2]exact.Num)) {
		for i, p := range x.Pixels {
			if mask.Pixels[i] != 0 {
				tell(whole(p), [2]exact.Num{whole(i % x.Width), whole(i / x.Width)})
			}
		}
	}
	each(func(w exact.Num, at [2]exact.Num) {
		weight = weight.Add(w)
		for k := range sum {
			sum[k] = sum[k].Add(w.Mul(at[k]))
		}
	})
	var products exact.Num
	each(func(w exact.Num, at [2]exact.Num) {
		for _, k := range [2]int{first, second} {
			mean, _ := sum[k].Div(weight)
			w = w.Mul(at[k].Sub(mean))
		}
		products = products.Add(w)
	})
	return products
}

// plainAxis returns the axis by the rules in their order.
func plainAxis(x, mask api.Image) api.Axis {
	xx, yy, xy := about(x, mask, 0, 0), about(x, mask, 1, 1), about(x, mask, 0, 1)
	twice, flat := xy.Add(xy), xx.Sub(yy)
	lies := func(d exact.Num) bool { return d.Sign() > 0 && d.Cmp(twice) >= 0 && d.Cmp(twice.Neg()) >= 0 }
	leans := func(d exact.Num) bool { return d.Sign() > 0 && d.Cmp(flat) > 0 && d.Cmp(flat.Neg()) > 0 }
	switch {
	case lies(flat):
		return api.Level
	case lies(flat.Neg()):
		return api.Upright
	case leans(twice):
		return api.Falling
	case leans(twice.Neg()):
		return api.Rising
	}
	return api.Round
}

// P8.9: as another method tells.
func TestTuftAny(t *testing.T) {
	random := rand.New(rand.NewPCG(8, 9))
	axes := map[api.Axis]int{}
	for range 1500 {
		width, height := 1+random.IntN(4), 1+random.IntN(4)
		x, mask := anyImage(random, width, height, anyOf(random, 2, 3, 1001)), anyImage(random, width, height, 3)
		a, e := image.Tuft(x, mask)
		if e == api.ErrFlat {
			continue
		}
		is(t, "axis", a, e, plainAxis(x, mask))
		axes[a]++
	}
	for a := api.Level; a <= api.Round; a++ {
		if axes[a] < 100 {
			t.Error("too few tufts of an axis", axes)
		}
	}
}

// P8.14: what mirrors, and columns that become rows, do.
func TestMirror(t *testing.T) {
	random := rand.New(rand.NewPCG(8, 14))
	mirrored := map[api.Axis]api.Axis{api.Falling: api.Rising, api.Rising: api.Falling, api.Level: api.Level, api.Upright: api.Upright, api.Round: api.Round}
	exchanged := map[api.Axis]api.Axis{api.Falling: api.Falling, api.Rising: api.Rising, api.Level: api.Upright, api.Upright: api.Level, api.Round: api.Round}
	for range 1000 {
		width, height := 1+random.IntN(5), 1+random.IntN(5)
		x, mask := anyImage(random, width, height, 4), anyImage(random, width, height, 4)
		a, e := image.Tuft(x, mask)
		if e != api.OK {
			continue
		}
		for _, c := range []struct {
			what          string
			width, height int
			rule          func(column, row int) (int, int)
			want          api.Axis
		}{
			{"columns", width, height, func(c, r int) (int, int) { return width - 1 - c, r }, mirrored[a]},
			{"rows", width, height, func(c, r int) (int, int) { return c, height - 1 - r }, mirrored[a]},
			{"both", width, height, func(c, r int) (int, int) { return width - 1 - c, height - 1 - r }, a},
			{"columns become rows", height, width, func(c, r int) (int, int) { return r, c }, exchanged[a]},
		} {
			b, e := image.Tuft(turned(x, c.width, c.height, c.rule), turned(mask, c.width, c.height, c.rule))
			is(t, c.what, b, e, c.want)
		}
	}
}
