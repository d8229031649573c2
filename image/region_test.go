package image_test

import (
	"math"
	"math/rand/v2"
	"slices"
	"testing"

	"venturi/api"
	"venturi/image"
)

// P8.1
func TestCheck(t *testing.T) {
	for what, x := range map[string]api.Image{
		"one pixel": im(1, 0),
		"brightest": im(1, api.MaxBright),
		"widest":    full(api.MaxSide, 1, 7),
		"highest":   full(1, api.MaxSide, 7),
		"greatest":  full(api.MaxSide, api.MaxSide, api.MaxBright),
	} {
		isError(t, what, image.Check(x), api.OK)
	}
	for what, x := range wrongImages() {
		isError(t, what, image.Check(x), api.ErrImage)
	}
	// The product of these sides is 0 as an int.
	isError(t, "huge sides", image.Check(api.Image{Width: 1 << 32, Height: 1 << 32}), api.ErrImage)
}

// P8.2
func TestDiffer(t *testing.T) {
	a, b := im(3, 1, 5, 9, 9, 0, 1000), im(3, 3, 5, 5, 0, 1000, 0)
	for _, c := range []struct {
		what  string
		mask  api.Image
		least int
		want  api.Image
	}{
		{"all count", im(3, 1, 1, 1, 1, 1, 1), 1, im(3, 1, 0, 1, 1, 1, 1)},
		{"just so much", im(3, 1, 1, 1, 1, 1, 1), 4, im(3, 0, 0, 1, 1, 1, 1)},
		{"a little more", im(3, 1, 1, 1, 1, 1, 1), 5, im(3, 0, 0, 0, 1, 1, 1)},
		{"the greatest difference", im(3, 1, 1, 1, 1, 1, 1), 1000, im(3, 0, 0, 0, 0, 1, 1)},
		{"some count", im(3, 0, 1, 7, 1000, 0, 2), 2, im(3, 0, 0, 1, 1, 0, 1)},
		{"none counts", full(3, 2, 0), 1, full(3, 2, 0)},
	} {
		d, e := image.Differ(a, b, c.mask, c.least)
		isImage(t, c.what, d, e, c.want)
		d, e = image.Differ(b, a, c.mask, c.least)
		isImage(t, c.what+", exchanged", d, e, c.want)
	}
	for _, c := range wrongSets(3) {
		d, e := image.Differ(c.images[0], c.images[1], c.images[2], 0)
		isError(t, c.what, e, c.want, d)
	}
	for _, least := range []int{0, -1, math.MinInt, 1001, math.MaxInt} {
		d, e := image.Differ(a, b, a, least)
		isError(t, "least", e, api.ErrRange, d)
	}
}

// P8.3
func TestRegions(t *testing.T) {
	for _, c := range []struct {
		what string
		x    api.Image
		want []api.Region
	}{
		{"example 1", im(3, 1, 0, 2, 1, 0, 0, 0, 3, 3), []api.Region{{Size: 2, Bottom: 1}, {Size: 1, Left: 2, Right: 2}, {Size: 2, Left: 1, Top: 2, Right: 2, Bottom: 2}}},
		{"dark", full(3, 2, 0), nil},
		{"one pixel", im(1, 1000), []api.Region{{Size: 1}}},
		{"all of it", full(24, 24, 1), []api.Region{{Size: 576, Right: 23, Bottom: 23}}},
		{"numbers that differ", im(2, 1, 2, 3, 4), []api.Region{{Size: 4, Right: 1, Bottom: 1}}},
		{"corners do not join", im(2, 1, 0, 0, 1), []api.Region{{Size: 1}, {Size: 1, Left: 1, Top: 1, Right: 1, Bottom: 1}}},
		{"corners do not join", im(2, 0, 1, 1, 0), []api.Region{{Size: 1, Left: 1, Right: 1}, {Size: 1, Top: 1, Bottom: 1}}},
		{"the ends of rows do not join", im(3, 0, 0, 1, 1, 0, 0), []api.Region{{Size: 1, Left: 2, Right: 2}, {Size: 1, Top: 1, Bottom: 1}}},
		{"joined from below", im(3, 1, 0, 1, 1, 1, 1), []api.Region{{Size: 5, Right: 2, Bottom: 1}}},
		{"joined from the right", im(2, 1, 1, 0, 1, 1, 1), []api.Region{{Size: 5, Right: 1, Bottom: 2}}},
		{"joined to the left and up", im(4, 0, 0, 0, 1, 1, 0, 1, 1, 1, 1, 1, 0), []api.Region{{Size: 7, Right: 3, Bottom: 2}}},
		{"one in another one", im(5, 1, 1, 1, 1, 1, 1, 0, 0, 0, 1, 1, 0, 9, 0, 1, 1, 0, 0, 0, 1, 1, 1, 1, 1, 1), []api.Region{{Size: 16, Right: 4, Bottom: 4}, {Size: 1, Left: 2, Top: 2, Right: 2, Bottom: 2}}},
	} {
		l, e := image.Regions(c.x)
		isList(t, c.what, l, e, c.want...)
	}
	for what, x := range wrongImages() {
		l, e := image.Regions(x)
		isError(t, what, e, api.ErrImage, l)
	}
}

// labels returns for each pixel that is not 0 the first pixel of its region, by making equal what is side by side until nothing changes.
func labels(x api.Image) []int {
	l := make([]int, len(x.Pixels))
	for i := range l {
		l[i] = i
	}
	for changed := true; changed; {
		changed = false
		join := func(i, k int) {
			if x.Pixels[i] != 0 && x.Pixels[k] != 0 && l[i] != l[k] {
				l[i], l[k] = min(l[i], l[k]), min(l[i], l[k])
				changed = true
			}
		}
		for i := range l {
			if i%x.Width > 0 {
				join(i-1, i)
			}
			if i >= x.Width {
				join(i-x.Width, i)
			}
		}
	}
	return l
}

// plainRegions returns the regions by the labels.
func plainRegions(x api.Image) []api.Region {
	first := labels(x)
	var l []api.Region
	for i := range first {
		if x.Pixels[i] == 0 || first[i] != i {
			continue
		}
		region := api.Region{Left: x.Width, Top: x.Height}
		for k, label := range first {
			if label == i {
				region.Size++
				region.Left, region.Right = min(region.Left, k%x.Width), max(region.Right, k%x.Width)
				region.Top, region.Bottom = min(region.Top, k/x.Width), max(region.Bottom, k/x.Width)
			}
		}
		l = append(l, region)
	}
	return l
}

// P8.3 and P8.13: as another method finds them, and each pixel is in just one region.
func TestRegionsOfAny(t *testing.T) {
	random := rand.New(rand.NewPCG(8, 3))
	for range 1000 {
		x := anyImage(random, 1+random.IntN(8), 1+random.IntN(8), anyOf(random, 2, 2, 3))
		l, e := image.Regions(x)
		isList(t, "regions", l, e, plainRegions(x)...)
		bright, sizes := 0, 0
		for _, p := range x.Pixels {
			bright += min(p, 1)
		}
		for _, region := range l {
			sizes += region.Size
		}
		is(t, "sizes", sizes, e, bright)
	}
}

// P8.13: a greater least finds no more pixels, and none that a smaller one did not.
func TestDifferLess(t *testing.T) {
	random := rand.New(rand.NewPCG(8, 13))
	for range 1000 {
		width, height := 1+random.IntN(6), 1+random.IntN(6)
		a, b, mask := anyImage(random, width, height, 9), anyImage(random, width, height, 9), anyImage(random, width, height, 3)
		least := 1 + random.IntN(7)
		more, e := image.Differ(a, b, mask, least)
		less, e2 := image.Differ(a, b, mask, least+1+random.IntN(2))
		if e != api.OK || e2 != api.OK {
			t.Fatal(a, b, mask, least, e, e2)
		}
		for i, p := range less.Pixels {
			if p > more.Pixels[i] || more.Pixels[i] > 1 || p < 0 {
				t.Fatal(a, b, mask, least, more, less)
			}
		}
		if slices.Max(more.Pixels) == 1 && slices.Max(mask.Pixels) == 0 {
			t.Fatal(mask, more)
		}
	}
}
