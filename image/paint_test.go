package image_test

import (
	"math"
	"math/rand/v2"
	"strings"
	"testing"

	"venturi/api"
	"venturi/exact"
	"venturi/image"
	"venturi/probe"
)

// P8.4
func TestPaint(t *testing.T) {
	falling := table([2]string{"0", "10"}, [2]string{"1", "0"}, [2]string{"2", "20"})
	for _, c := range []struct {
		what                 string
		table                []probe.Knot
		run, still, mask, by int
		want                 string // none if it is not Known
	}{
		{"example 2", paint(), 100, 200, 1, 0, "2..2"},
		{"example 2 with by 10", paint(), 100, 200, 1, 10, "16/11..8/3"},
		{"a mask of any number", paint(), 100, 200, 1000, 0, "2..2"},
		{"it does not count", paint(), 100, 200, 0, 0, ""},
		{"the first Read", paint(), 100, 100, 1, 0, "0..0"},
		{"the last Read", paint(), 100, 300, 1, 0, "4..4"},
		{"below the table", paint(), 100, 99, 1, 0, ""},
		{"above the table", paint(), 100, 301, 1, 0, ""},
		{"partly below the table", paint(), 100, 101, 1, 1, ""},
		{"partly above the table", paint(), 100, 295, 1, 2, ""},
		{"just within the table", paint(), 100, 294, 1, 1, "384/101..392/99"},
		{"no brightness in the flow", falling, 0, 1, 1, 0, ""},
		{"0 is possible in the flow", falling, 10, 10, 1, 10, ""},
		{"less than 0 would be possible in the flow", falling, 10, 10, 1, 11, ""},
		{"a little above 0 in the flow", falling, 2, 1, 1, 1, "0..20"},
		{"no brightness in still air", falling, 10, 0, 1, 0, "10..10"},
		{"still air is not darker than 0", falling, 10, 2, 1, 5, "0..10"},
		{"over a knot", falling, 100, 100, 1, 10, "0..40/9"},
		{"brighter than any pixel", falling, 1000, 1000, 1, 500, ""},
		{"brighter than any pixel", falling, 1000, 1000, 1, 200, "0..10"},
		{"the greatest by", falling, 1000, 1000, 1, 1000, ""},
	} {
		l, e := image.Paint(im(1, c.run), im(1, c.still), im(1, c.mask), c.table, c.by)
		if e != api.OK || len(l) != 1 {
			t.Error(c.what, l, e)
			continue
		}
		is(t, c.what, l[0].Known, e, c.want != "")
		if c.want == "" {
			c.want = "0..0"
		}
		is(t, c.what, text(l[0].Pressure), e, c.want)
	}
	l, e := image.Paint(im(2, 100, 100, 100, 0, 100, 100), im(2, 200, 300, 50, 50, 150, 100), im(2, 1, 1, 1, 1, 0, 1), paint(), 0)
	got := ""
	for _, s := range l {
		if s.Known {
			got += text(s.Pressure)
		}
		got += " "
	}
	is(t, "row by row", got, e, "2..2 4..4    0..0 ")
}

// P8.4
func TestPaintErrors(t *testing.T) {
	wrong := table([2]string{"1", "0"}, [2]string{"1", "4"})
	for _, c := range wrongSets(3) {
		l, e := image.Paint(c.images[0], c.images[1], c.images[2], wrong, -1)
		isError(t, c.what, e, c.want, l)
	}
	x := full(2, 2, 50)
	for what, l := range map[string][]probe.Knot{"nil": nil, "one knot": paint()[:1], "equal Reads": wrong, "too long": make([]probe.Knot, api.MaxTable+1)} {
		spots, e := image.Paint(x, x, full(2, 2, 0), l, -1)
		isError(t, what, e, api.ErrArg, spots)
	}
	for _, by := range []int{-1, 1001, math.MinInt, math.MaxInt} {
		l, e := image.Paint(x, x, x, paint(), by)
		isError(t, "by", e, api.ErrRange, l)
	}
}

// ends returns the least and the greatest s / r of P8.4, and false if some r is not greater than 0.
func ends(run, still, by int) (lo, hi exact.Num, ok bool) {
	if run-by <= 0 {
		return lo, hi, false
	}
	return ratio(max(still-by, 0), run+by), ratio(still+by, run-by), true
}

// P8.4: spots are Known just if they may be, with the Pressure of all ratios.
func TestPaintOfAny(t *testing.T) {
	random := rand.New(rand.NewPCG(8, 4))
	known := 0
	for range 1000 {
		width, height := 1+random.IntN(3), 1+random.IntN(3)
		run, still, mask := anyImage(random, width, height, 40), anyImage(random, width, height, 40), anyImage(random, width, height, 4)
		l, by := anyTable(random), random.IntN(6)
		spots, e := image.Paint(run, still, mask, l, by)
		if e != api.OK || len(spots) != width*height {
			t.Fatal(run, still, mask, l, by, spots, e)
		}
		for i, s := range spots {
			lo, hi, ok := ends(run.Pixels[i], still.Pixels[i], by)
			ok = ok && mask.Pixels[i] != 0 && l[0].Read.Cmp(lo) <= 0 && hi.Cmp(l[len(l)-1].Read) <= 0
			var want exact.Box
			if ok {
				known++
				want, _ = probe.Look(l, between(lo, hi))
			}
			if s.Known != ok || !s.Pressure.Equal(want) {
				t.Fatal(run, still, mask, l, by, i, s, want)
			}
		}
	}
	if known < 500 {
		t.Error("too few spots that are known", known)
	}
}

// P8.12: the value for the true ratio is in the Pressure, and with a smaller by there is no less to know.
func TestTruePaint(t *testing.T) {
	random := rand.New(rand.NewPCG(8, 12))
	known := 0
	for range 2000 {
		run, still, by := random.IntN(40), random.IntN(40), random.IntN(6)
		l := anyTable(random)
		wide, e := image.Paint(im(1, run), im(1, still), im(1, 1), l, by)
		if e != api.OK {
			t.Fatal(run, still, by, l, e)
		}
		if !wide[0].Known {
			continue
		}
		known++
		true1 := ratio(max(0, 4*(still-by)+random.IntN(8*by+1)), 4)
		true2 := ratio(4*(run-by)+random.IntN(8*by+1), 4)
		r, _ := true1.Div(true2)
		if true1.Cmp(whole(still+by)) > 0 {
			continue
		}
		value, e := probe.Look(l, exact.Point(r))
		if e != api.OK || !value.Inside(wide[0].Pressure) {
			t.Fatal(run, still, by, l, r, value, wide, e)
		}
		narrow, e := image.Paint(im(1, run), im(1, still), im(1, 1), l, random.IntN(by+1))
		if e != api.OK || !narrow[0].Known || !narrow[0].Pressure.Inside(wide[0].Pressure) {
			t.Fatal(run, still, by, l, wide, narrow, e)
		}
	}
	if known < 500 {
		t.Error("too few spots that are known", known)
	}
}

// P8.5
func TestForce(t *testing.T) {
	at := func(known bool, b exact.Box) image.Spot { return image.Spot{Known: known, Pressure: b} }
	var many []image.Spot
	for range api.MaxSide * api.MaxSide {
		many = append(many, at(true, span("-1/3", "1/2")))
	}
	for _, c := range []struct {
		what  string
		l     []image.Spot
		area  string
		want  string
		spots int
	}{
		{"no spot", nil, "2", "0..0", 0},
		{"one spot", []image.Spot{at(true, span("1", "3"))}, "1", "1..3", 1},
		{"two spots", []image.Spot{at(true, span("1", "3")), at(true, span("-2", "1/2"))}, "2", "-2..7", 2},
		{"three spots", []image.Spot{at(true, span("1", "3")), at(true, span("5", "5")), at(true, span("0", "1"))}, "1/3", "2..3", 3},
		{"some are not known", []image.Spot{at(false, span("8", "9")), at(true, span("1", "3")), {}, at(true, exact.Box{})}, "3", "3..9", 2},
		{"none is known", []image.Spot{{}, at(false, span("8", "9"))}, "3", "0..0", 0},
		{"as many as there may be", many, "1", "-192..288", 576},
	} {
		f, n, e := image.Force(c.l, num(c.area))
		is(t, c.what, text(f), e, c.want)
		is(t, c.what, n, e, c.spots)
	}
	for _, area := range []string{"0", "-1"} {
		f, n, e := image.Force(many, num(area))
		isError(t, "area", e, api.ErrRange, f, n)
		f, n, e = image.Force(append(many, image.Spot{}), num(area))
		isError(t, "too many", e, api.ErrLong, f, n)
	}
}

// P8.5: of spots with numbers that have many digits, too.
func TestForceOfLongNumbers(t *testing.T) {
	sum, lo, hi := exact.Box{}, num("1/"+strings.Repeat("7", 90)), num("2/"+strings.Repeat("3", 90))
	var l []image.Spot
	for i := range 100 {
		b := between(whole(-i).Add(lo), whole(i).Add(hi))
		l = append(l, image.Spot{Known: i%3 > 0, Pressure: b})
		if i%3 > 0 {
			sum = sum.Add(b)
		}
		lo, hi = lo.Mul(num("10/11")), hi.Mul(num("10/13"))
	}
	f, n, e := image.Force(l, num("7/5"))
	is(t, "long numbers", text(f), e, text(sum.Mul(exact.Point(num("7/5")))))
	is(t, "long numbers", n, e, 66)
}
