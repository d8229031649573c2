package image_test

import (
	"math"
	"math/big"
	"math/rand/v2"
	"testing"

	"venturi/api"
	"venturi/image"
)

// lost stands for a vector that is not Found.
const lost = math.MinInt + 1

// vector returns a Found vector, or one that is not.
func vector(dx, dy int) image.Vector {
	return image.Vector{Found: dx != lost, Match: image.Match{DX: dx, DY: dy}}
}

// vectors returns vectors with these DX, of which some are lost.
func vectors(dx ...int) []image.Vector {
	var l []image.Vector
	for _, n := range dx {
		l = append(l, vector(n, 0))
	}
	return l
}

// exchanged returns vectors of which DX and DY are exchanged.
func exchanged(l []image.Vector) []image.Vector {
	var out []image.Vector
	for _, v := range l {
		v.Match.DX, v.Match.DY = v.Match.DY, v.Match.DX
		out = append(out, v)
	}
	return out
}

// signs writes answers.
func signs(l []bool) string {
	s := ""
	for _, good := range l {
		if good {
			s += "+"
		} else {
			s += "-"
		}
	}
	return s
}

// P8.8
func TestValidate(t *testing.T) {
	for _, c := range []struct {
		what           string
		l              []image.Vector
		columns, limit int
		want           string
	}{
		{"no vector", nil, 1, 0, ""},
		{"no vector in rows of many", nil, math.MaxInt, math.MaxInt, ""},
		{"one vector", vectors(0), 1, 9, "-"},
		{"one neighbour", vectors(0, 0), 1, 9, "--"},
		{"two neighbours in a row", vectors(0, 0, 0), 3, 0, "-+-"},
		{"two neighbours in a column", vectors(0, 0, 0), 1, 0, "-+-"},
		{"corners are neighbours", vectors(1, lost, lost, 1, lost, lost, lost, lost, 1), 3, 0, "---" + "---" + "---"},
		{"corners are neighbours", vectors(1, lost, lost, lost, 1, lost, lost, lost, 1), 3, 0, "---" + "-+-" + "---"},
		{"and the other corners", vectors(lost, lost, 1, lost, 1, lost, 1, lost, lost), 3, 0, "---" + "-+-" + "---"},
		{"the ends of rows are none", vectors(1, lost, 1, 1, lost, 1), 3, 0, "------"},
		{"just the limit", vectors(5, 8, 5), 3, 3, "-+-"},
		{"just the limit", vectors(8, 5, 8), 3, 3, "-+-"},
		{"a little more", vectors(5, 9, 5), 3, 3, "---"},
		{"a little more", vectors(9, 5, 9), 3, 3, "---"},
		{"of two neighbours the lesser one", vectors(1, 2, 9), 3, 1, "-+-"},
		{"not the greater one", vectors(1, 8, 9), 3, 1, "---"},
		{"of three the one in the middle", vectors(5, 1, 1, 9), 2, 4, "+++-"},
		{"of three the one in the middle", vectors(5, 1, 1, 9), 2, 3, "----"},
		{"not found", vectors(1, lost, 1, 1), 2, 9, "+-++"},
		{"of four the second one", vectors(lost, 1, lost, 9, 2, 2, lost, 8, lost), 3, 0, "---" + "-++" + "---"},
		{"of eight the fourth one", vectors(9, 1, 8, 2, 4, 7, 3, 6, 4), 3, 0, "---" + "-+-" + "---"},
		{"below 0", vectors(-9, -5, -6), 3, 4, "-+-"},
	} {
		l, e := image.Validate(c.l, c.columns, c.limit)
		is(t, c.what, signs(l), e, c.want)
		l, e = image.Validate(exchanged(c.l), c.columns, c.limit)
		is(t, c.what+", downwards", signs(l), e, c.want)
	}
	// Both medians are found for themselves.
	l, e := image.Validate([]image.Vector{vector(1, 9), vector(5, 5), vector(9, 1), vector(7, 3)}, 4, 4)
	is(t, "both", signs(l), e, "-++-")
	l, e = image.Validate([]image.Vector{vector(1, 9), vector(1, 5), vector(9, 9), vector(7, 3)}, 4, 3)
	is(t, "one of both", signs(l), e, "----")
}

// P8.8: DX and DY may be any integers, whose difference may be too great for an int.
func TestValidateFar(t *testing.T) {
	const least, most = math.MinInt, math.MaxInt
	for _, c := range []struct {
		l     []image.Vector
		limit int
		want  string
	}{
		{vectors(most, least, most), most, "---"},
		{vectors(least, most, least), most, "---"},
		{vectors(least, -1, least), most, "-+-"},
		{vectors(least, 0, least), most, "---"},
		{vectors(most, 0, most), most, "-+-"},
		{vectors(most, -1, most), most, "---"},
		{vectors(least, least, least), 0, "-+-"},
		{vectors(-2, most, -2), 0, "---"},
	} {
		l, e := image.Validate(c.l, 3, c.limit)
		is(t, "far", signs(l), e, c.want)
		l, e = image.Validate(exchanged(c.l), 3, c.limit)
		is(t, "far downwards", signs(l), e, c.want)
	}
}

// P8.8
func TestValidateErrors(t *testing.T) {
	most := make([]image.Vector, api.MaxSide*api.MaxSide)
	l, e := image.Validate(most, api.MaxSide, 0)
	is(t, "as many as there may be", len(l), e, len(most))
	for _, c := range []struct {
		what           string
		l              []image.Vector
		columns, limit int
		want           api.Errno
	}{
		{"too many", append(most, image.Vector{}), 0, -1, api.ErrLong},
		{"too many", make([]image.Vector, 100000), 7, 0, api.ErrLong},
		{"no column", most, 0, 0, api.ErrRange},
		{"no column and no vector", nil, 0, 0, api.ErrRange},
		{"columns below 0", most[:5], -1, 0, api.ErrRange},
		{"least columns", most[:5], math.MinInt, 0, api.ErrRange},
		{"limit below 0", most[:5], 2, -1, api.ErrRange},
		{"least limit", most[:5], 2, math.MinInt, api.ErrRange},
		{"a row that is not full", most[:5], 2, 0, api.ErrArg},
		{"a row that is not full", most[:5], 10, 0, api.ErrArg},
		{"a huge row", most[:5], math.MaxInt, 0, api.ErrArg},
	} {
		l, e := image.Validate(c.l, c.columns, c.limit)
		isError(t, c.what, e, c.want, l)
	}
}

// isMedian reports whether a number of a list has (k - 1) / 2 of its k numbers before it in ascending order.
func isMedian(x int, l []int) bool {
	less, equal, before := 0, 0, (len(l)-1)/2
	for _, y := range l {
		if y < x {
			less++
		} else if y == x {
			equal++
		}
	}
	return equal > 0 && less <= before && before < less+equal
}

// isNear reports whether a number differs by at most limit from the median of a list.
func isNear(x int, l []int, limit int) bool {
	for _, y := range l {
		if isMedian(y, l) {
			d := new(big.Int).Sub(big.NewInt(int64(x)), big.NewInt(int64(y)))
			return d.CmpAbs(big.NewInt(int64(limit))) <= 0
		}
	}
	return false
}

// P8.8: as another method tells.
func TestValidateAny(t *testing.T) {
	random := rand.New(rand.NewPCG(8, 8))
	answers := map[bool]int{}
	for range 1000 {
		columns, rows, limit := 1+random.IntN(5), 1+random.IntN(5), anyOf(random, 0, 1, 2, 5, math.MaxInt)
		var l []image.Vector
		for range columns * rows {
			v := image.Vector{X: random.IntN(9), Y: random.IntN(9), Found: random.IntN(3) > 0}
			v.Match = image.Match{DX: random.IntN(7) - 3, DY: random.IntN(7) - 3, Rival: random.IntN(2) > 0}
			if random.IntN(20) == 0 {
				v.Match.DY = anyOf(random, math.MinInt, math.MaxInt)
			}
			l = append(l, v)
		}
		got, e := image.Validate(l, columns, limit)
		is(t, "answers", len(got), e, len(l))
		for i, v := range l {
			var dx, dy []int
			for k, w := range l {
				x, y := k%columns-i%columns, k/columns-i/columns
				if k != i && x*x <= 1 && y*y <= 1 && w.Found {
					dx, dy = append(dx, w.Match.DX), append(dy, w.Match.DY)
				}
			}
			want := v.Found && len(dx) >= 2 && isNear(v.Match.DX, dx, limit) && isNear(v.Match.DY, dy, limit)
			if got[i] != want {
				t.Fatal(l, columns, limit, i, got, want)
			}
			answers[want]++
		}
	}
	if answers[true] < 1000 || answers[false] < 1000 {
		t.Error("too few answers of a kind", answers)
	}
}
