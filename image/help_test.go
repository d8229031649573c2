package image_test

import (
	"math/rand/v2"
	"reflect"
	"slices"
	"testing"

	"venturi/api"
	"venturi/exact"
	"venturi/image"
	"venturi/probe"
)

// im returns an image of a width.
func im(width int, pixels ...int) api.Image {
	return api.Image{Width: width, Height: len(pixels) / width, Pixels: pixels}
}

// full returns an image of which all pixels are one number.
func full(width, height, pixel int) api.Image {
	return im(width, slices.Repeat([]int{pixel}, width*height)...)
}

// counts returns a mask with which all pixels of an image count.
func counts(x api.Image) api.Image { return full(x.Width, x.Height, 1) }

// same reports whether two images are equal.
func same(a, b api.Image) bool {
	return a.Width == b.Width && a.Height == b.Height && slices.Equal(a.Pixels, b.Pixels)
}

// pixel returns the pixel in a column and a row.
func pixel(x api.Image, column, row int) int { return x.Pixels[row*x.Width+column] }

// part returns a part of an image.
func part(x api.Image, left, top, width, height int) api.Image {
	var pixels []int
	for row := top; row < top+height; row++ {
		for column := left; column < left+width; column++ {
			pixels = append(pixels, pixel(x, column, row))
		}
	}
	return im(width, pixels...)
}

// turned returns an image of which the pixel in a column and a row is one of x, whose column and row a rule tells.
func turned(x api.Image, width, height int, rule func(column, row int) (int, int)) api.Image {
	var pixels []int
	for row := range height {
		for column := range width {
			c, r := rule(column, row)
			pixels = append(pixels, pixel(x, c, r))
		}
	}
	return im(width, pixels...)
}

// wrongImages returns images that are not valid.
func wrongImages() map[string]api.Image {
	return map[string]api.Image{
		"zero value":        {},
		"no column":         {Height: 1},
		"no row":            {Width: 1},
		"too wide":          full(api.MaxSide+1, 1, 0),
		"too high":          full(1, api.MaxSide+1, 0),
		"no pixels":         {Width: 1, Height: 1},
		"a pixel missing":   {Width: 2, Height: 2, Pixels: make([]int, 3)},
		"a pixel more":      {Width: 2, Height: 2, Pixels: make([]int, 5)},
		"sides below 0":     {Width: -2, Height: -1, Pixels: make([]int, 2)},
		"a pixel below 0":   im(2, 5, 5, 5, -1),
		"a pixel too great": im(2, api.MaxBright+1, 5, 5, 5),
	}
}

// wrongSet is arguments with the error that a function has for them.
type wrongSet struct {
	what   string
	images []api.Image
	want   api.Errno
}

// wrongSets returns n images, which may be masks, of which some are not valid or of another size.
func wrongSets(n int) []wrongSet {
	var sets []wrongSet
	for k := range n {
		with := func(other api.Image) []api.Image {
			l := slices.Repeat([]api.Image{full(3, 2, 1)}, n)
			l[k] = other
			return l
		}
		for what, wrong := range wrongImages() {
			sets = append(sets, wrongSet{what, with(wrong), api.ErrImage})
		}
		if n == 1 {
			continue
		}
		for _, other := range []api.Image{full(2, 3, 1), full(3, 3, 1), full(2, 2, 1), full(1, 6, 1)} {
			sets = append(sets, wrongSet{"two sizes", with(other), api.ErrSize})
			l := with(other)
			l[(k+1)%n].Pixels = nil
			sets = append(sets, wrongSet{"two sizes and no pixels", l, api.ErrImage})
		}
	}
	return sets
}

// num returns the value of a numeral that the test has written.
func num(s string) exact.Num {
	x, e := exact.Parse(s)
	if e != api.OK {
		panic("no numeral: " + s)
	}
	return x
}

func whole(n int) exact.Num { return exact.Whole(int64(n)) }

// ratio returns a / b.
func ratio(a, b int) exact.Num {
	x, e := exact.Ratio(int64(a), int64(b))
	if e != api.OK {
		panic("divided by 0")
	}
	return x
}

// between returns the box between two numbers.
func between(lo, hi exact.Num) exact.Box {
	b, e := exact.Span(lo, hi)
	if e != api.OK {
		panic("no box: " + lo.String() + ", " + hi.String())
	}
	return b
}

// span returns the box between two numerals.
func span(lo, hi string) exact.Box { return between(num(lo), num(hi)) }

// text writes a box.
func text(b exact.Box) string { return b.Lo().String() + ".." + b.Hi().String() }

// table returns a table of knots that are written as their reading and their value.
func table(knots ...[2]string) []probe.Knot {
	var t []probe.Knot
	for _, k := range knots {
		t = append(t, probe.Knot{Read: num(k[0]), Value: num(k[1])})
	}
	return t
}

// paint returns the table of the document's example 2.
func paint() []probe.Knot { return table([2]string{"1", "0"}, [2]string{"3", "4"}) }

// score writes a match.
type score struct {
	dx, dy int
	score  string
	rival  bool
	second string
}

func written(m image.Match) score {
	return score{m.DX, m.DY, m.Score.String(), m.Rival, m.Second.String()}
}

// is compares a result without error with the value that it should have.
func is[T comparable](t *testing.T, what string, got T, e api.Errno, want T) {
	t.Helper()
	if e != api.OK || got != want {
		t.Errorf("%s: %v, error %d, instead of %v", what, got, e, want)
	}
}

// isList compares a list without error with what it should have.
func isList[T comparable](t *testing.T, what string, got []T, e api.Errno, want ...T) {
	t.Helper()
	if e != api.OK || !slices.Equal(got, want) {
		t.Errorf("%s: %v, error %d, instead of %v", what, got, e, want)
	}
}

// isImage compares an image without error with the one that it should be.
func isImage(t *testing.T, what string, got api.Image, e api.Errno, want api.Image) {
	t.Helper()
	if e != api.OK || !same(got, want) {
		t.Errorf("%s: %v, error %d, instead of %v", what, got, e, want)
	}
}

// isError checks an error, and that the results beside it are zero values.
func isError(t *testing.T, what string, e, want api.Errno, results ...any) {
	t.Helper()
	if e != want {
		t.Errorf("%s: error %d instead of %d", what, e, want)
	}
	for _, r := range results {
		if !isNothing(reflect.ValueOf(r)) {
			t.Errorf("%s: result %v beside an error", what, r)
		}
	}
}

// isNothing reports whether a value is the zero value, for which an empty list counts too (R3).
func isNothing(v reflect.Value) bool {
	switch v.Kind() {
	case reflect.Slice:
		return v.Len() == 0
	case reflect.Struct:
		for i := range v.NumField() {
			if !isNothing(v.Field(i)) {
				return false
			}
		}
		return true
	}
	return v.IsZero()
}

// anyOf returns one of some values.
func anyOf[T any](r *rand.Rand, l ...T) T { return l[r.IntN(len(l))] }

// anyImage returns an image with pixels that are less than most.
func anyImage(r *rand.Rand, width, height, most int) api.Image {
	var pixels []int
	for range width * height {
		pixels = append(pixels, r.IntN(most))
	}
	return im(width, pixels...)
}

// anyTable returns a table of up to six knots, from a reading near 0 on.
func anyTable(r *rand.Rand) []probe.Knot {
	read := ratio(r.IntN(7)-1, 4)
	var t []probe.Knot
	for range 2 + r.IntN(5) {
		t = append(t, probe.Knot{Read: read, Value: ratio(r.IntN(41)-20, 1+r.IntN(6))})
		read = read.Add(ratio(1+r.IntN(9), 4))
	}
	return t
}
