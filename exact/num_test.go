package exact_test

import (
	"math"
	"math/big"
	"math/rand/v2"
	"reflect"
	"strings"
	"testing"

	"venturi/api"
	"venturi/exact"
)

// num returns the value of a numeral.
func num(t *testing.T, s string) exact.Num {
	t.Helper()
	x, e := exact.Parse(s)
	if e != api.OK {
		t.Fatalf("Parse(%q): error %d", s, e)
	}
	return x
}

// isNum compares a result without error with the text that it should have.
func isNum(t *testing.T, what string, got exact.Num, e api.Errno, want string) {
	t.Helper()
	if e != api.OK || got.String() != want {
		t.Errorf("%s: %v, error %d, instead of %s", what, got, e, want)
	}
}

// isError checks an error, and that the result beside it is the zero value.
func isError(t *testing.T, what string, got any, e, want api.Errno) {
	t.Helper()
	if e != want {
		t.Errorf("%s: error %d instead of %d", what, e, want)
	}
	if v := reflect.ValueOf(got); !v.IsZero() {
		t.Errorf("%s: result %v beside an error", what, got)
	}
}

// rat returns the number of the standard library that has the text of x.
func rat(t *testing.T, x exact.Num) *big.Rat {
	t.Helper()
	r, ok := new(big.Rat).SetString(x.String())
	if !ok {
		t.Fatalf("no number: %s", x)
	}
	return r
}

// anyNum returns a number of up to so many digits, on each side of the point or of the line.
func anyNum(t *testing.T, r *rand.Rand, digits int) exact.Num {
	t.Helper()
	natural := func() string {
		n := 1 + r.IntN(digits)
		b := make([]byte, n)
		for i := range b {
			b[i] = '0' + byte(r.IntN(10))
		}
		if s := strings.TrimLeft(string(b), "0"); s != "" {
			return s
		}
		return "1"
	}
	s := natural()
	switch r.IntN(8) {
	case 0:
		s = "0"
	case 1, 2:
		s += "." + natural()
	case 3, 4, 5:
		s += "/" + natural()
	}
	if r.IntN(2) == 0 {
		s = "-" + s
	}
	return num(t, s)
}

// P1.1
func TestWholeRatio(t *testing.T) {
	for n, want := range map[int64]string{0: "0", 7: "7", -7: "-7", math.MaxInt64: "9223372036854775807", math.MinInt64: "-9223372036854775808"} {
		isNum(t, "Whole", exact.Whole(n), api.OK, want)
	}
	for _, c := range []struct {
		a, b int64
		want string
	}{{1, 3, "1/3"}, {-2, 6, "-1/3"}, {2, -6, "-1/3"}, {-2, -6, "1/3"}, {0, -5, "0"}, {6, 3, "2"}, {7, 28, "0.25"}, {math.MinInt64, math.MinInt64, "1"}, {math.MinInt64, -1, "9223372036854775808"}, {math.MinInt64, math.MaxInt64, "-9223372036854775808/9223372036854775807"}, {1, math.MinInt64, "-0.000000000000000000108420217248550443400745280086994171142578125"}} {
		x, e := exact.Ratio(c.a, c.b)
		isNum(t, "Ratio", x, e, c.want)
	}
	for _, a := range []int64{0, 1, math.MinInt64} {
		x, e := exact.Ratio(a, 0)
		isError(t, "Ratio over 0", x, e, api.ErrZero)
	}
}

// P1.2
func TestParse(t *testing.T) {
	thousand := strings.Repeat("9", 1000)
	for s, want := range map[string]string{
		"0": "0", "-0": "0", "0.0": "0", "-0.000": "0", "0/1": "0", "-0/9": "0",
		"3": "3", "10": "10", "-12.50": "-12.5", "-25/2": "-12.5", "7/28": "0.25", "-2/6": "-1/3", "4/2": "2",
		"0.04": "0.04", "100.00": "100", "1/3": "1/3", "1/7": "1/7", "1/6": "1/6", "1/15": "1/15", "1/5": "0.2", "1/8": "0.125", "1/1000": "0.001", "3/40": "0.075",
		"1/7450580596923828125":                      "0.000000000000000000134217728",
		"1/37252902984619140625":                     "0.0000000000000000000268435456",
		"1/18446744073709551616":                     "0.0000000000000000000542101086242752217003726400434970855712890625",
		"18446744073709551616/18446744073709551617":  "18446744073709551616/18446744073709551617",
		"-10000000000000000000.10000000000000000000": "-10000000000000000000.1",
		"10000000000000000000000000000000000000001":  "10000000000000000000000000000000000000001",
		thousand + "." + thousand[1:]:                thousand + "." + thousand[1:],
		thousand + "/1":                              thousand,
		"1/" + thousand:                              "1/" + thousand,
		strings.Repeat("1", api.MaxNumeral):          strings.Repeat("1", api.MaxNumeral),
	} {
		x, e := exact.Parse(s)
		isNum(t, "Parse "+s, x, e, want)
	}
}

// P1.2
func TestParseErrors(t *testing.T) {
	for _, s := range []string{"", "-", "--1", "+1", "-+1", ".", ".5", "-.5", "5.", "0.", "01", "00", "-01", "00.5", "1.2.3", "1..2", "1.-5", "/", "1/", "/2", "1/0", "0/0", "1/02", "1/00", "01/2", "1/-2", "1/+2", "1.5/2", "1/2.5", "1/2/3", " 1", "1 ", "1e5", "0x1", "1,5", "1_000", "½", "٣", "1\x00", "inf", "-1/ 2"} {
		x, e := exact.Parse(s)
		isError(t, "Parse "+s, x, e, api.ErrForm)
	}
	for _, s := range []string{strings.Repeat("1", api.MaxNumeral+1), strings.Repeat("x", api.MaxNumeral+1), strings.Repeat("0", 1<<20)} {
		x, e := exact.Parse(s)
		isError(t, "Parse of a long text", x, e, api.ErrLong)
	}
	x, e := exact.Parse(strings.Repeat("x", api.MaxNumeral))
	isError(t, "Parse of MaxNumeral wrong bytes", x, e, api.ErrForm)
}

// P1.2: texts are the shortest decimals, or fractions in lowest terms, of any length.
func TestString(t *testing.T) {
	isNum(t, "the zero value", exact.Num{}, api.OK, "0")
	long, e := num(t, "0."+strings.Repeat("3", 1998)).Pow(64)
	if s := long.String(); e != api.OK || len(s) != 2+1998*64 {
		t.Error("a text longer than a numeral", len(s), e)
	}
	r := rand.New(rand.NewPCG(1, 2))
	for range 3000 {
		x := rat(t, anyNum(t, r, 30))
		want := x.RatString()
		if n, exactly := x.FloatPrec(); exactly {
			want = x.FloatString(n)
		}
		isNum(t, "a text", num(t, x.String()), api.OK, want)
	}
}

// P1.3, P1.4
func TestArithmetic(t *testing.T) {
	r := rand.New(rand.NewPCG(3, 4))
	for i := range 4000 {
		digits := 3 + i%40
		x, y := anyNum(t, r, digits), anyNum(t, r, digits)
		if r.IntN(10) == 0 {
			y = x.Neg().Neg()
		}
		a, b := rat(t, x), rat(t, y)
		check := func(what string, got exact.Num, want *big.Rat) {
			t.Helper()
			if rat(t, got).Cmp(want) != 0 {
				t.Fatalf("%s of %v, %v: %v instead of %v", what, x, y, got, want)
			}
		}
		check("Add", x.Add(y), new(big.Rat).Add(a, b))
		check("Sub", x.Sub(y), new(big.Rat).Sub(a, b))
		check("Mul", x.Mul(y), new(big.Rat).Mul(a, b))
		check("Neg", x.Neg(), new(big.Rat).Neg(a))
		check("Abs", x.Abs(), new(big.Rat).Abs(a))
		if q, e := x.Div(y); b.Sign() == 0 {
			isError(t, "Div by 0", q, e, api.ErrZero)
		} else if check("Div", q, new(big.Rat).Quo(a, b)); e != api.OK {
			t.Fatal("Div", x, y, e)
		}
		if x.Cmp(y) != a.Cmp(b) || y.Cmp(x) != b.Cmp(a) || x.Sign() != a.Sign() || x.Cmp(exact.Num{}) != a.Sign() {
			t.Fatal("Cmp, Sign", x, y)
		}
	}
}

// P1.3
func TestPow(t *testing.T) {
	for _, c := range []struct {
		x    string
		n    int
		want string
	}{{"0", 0, "1"}, {"0", 1, "0"}, {"0", 64, "0"}, {"-3/2", 0, "1"}, {"-3/2", 1, "-1.5"}, {"-3/2", 2, "2.25"}, {"-3/2", 3, "-3.375"}, {"2/3", 5, "32/243"}, {"-1", 63, "-1"}, {"-1", 64, "1"}, {"2", 64, "18446744073709551616"}} {
		p, e := num(t, c.x).Pow(c.n)
		isNum(t, "Pow of "+c.x, p, e, c.want)
	}
	for _, n := range []int{-1, api.MaxPower + 1, math.MinInt, math.MaxInt} {
		p, e := num(t, "2").Pow(n)
		isError(t, "Pow", p, e, api.ErrRange)
	}
}

// P1.4: numbers that are near each other, or of very different sizes.
func TestCmp(t *testing.T) {
	ascending := []string{"-10000000000000000000000000000000000000000", "-18446744073709551616", "-18446744073709551615", "-2", "-5/3", "-1.5", "-4/3", "-1", "-1000000000000000000000/1000000000000000000001", "-1/3", "-1/100000000000000000000000000000000000003", "0", "0.000000000000000000000000000000000000001", "1/3", "0.33333333333333333333333333333333333334", "999999999999/1000000000001", "1", "4/3", "1.5", "2", "18446744073709551615", "18446744073709551616", "36893488147419103233/2", "10000000000000000000000000000000000000000"}
	for i, s := range ascending {
		for j, u := range ascending {
			want := 0
			if i < j {
				want = -1
			} else if i > j {
				want = 1
			}
			if got := num(t, s).Cmp(num(t, u)); got != want {
				t.Errorf("Cmp of %s and %s: %d", s, u, got)
			}
		}
		if x := num(t, s); x.Sign() != x.Cmp(exact.Whole(0)) {
			t.Error("Sign of", s)
		}
	}
}

// P1.5
func TestFloorRound(t *testing.T) {
	for s, want := range map[string]string{"0": "0", "7": "7", "-7": "-7", "1/2": "0", "-1/2": "-1", "7/2": "3", "-7/2": "-4", "-0.001": "-1", "99999999999999999999.9": "99999999999999999999", "-99999999999999999999.1": "-100000000000000000000"} {
		isNum(t, "Floor of "+s, num(t, s).Floor(), api.OK, want)
	}
	for _, c := range [][3]string{{"7/2", "1", "4"}, {"-7/2", "1", "-3"}, {"1.26", "0.5", "1.5"}, {"1.25", "0.5", "1.5"}, {"-1.25", "0.5", "-1"}, {"-1.26", "0.5", "-1.5"}, {"0", "3", "0"}, {"1", "1/3", "1"}, {"0.4", "1/3", "1/3"}, {"10", "7", "7"}, {"10.5", "7", "14"}, {"-10.5", "7", "-7"}} {
		x, e := num(t, c[0]).Round(num(t, c[1]))
		isNum(t, "Round of "+c[0], x, e, c[2])
	}
	for _, grid := range []string{"0", "-1", "-1/3"} {
		x, e := num(t, "5").Round(num(t, grid))
		isError(t, "Round on "+grid, x, e, api.ErrRange)
	}
}

// P1.5: what Floor and Round mean, for many numbers.
func TestFloorRoundMean(t *testing.T) {
	r := rand.New(rand.NewPCG(5, 6))
	one, two := exact.Whole(1), exact.Whole(2)
	for range 1500 {
		x, grid := anyNum(t, r, 12), anyNum(t, r, 6).Abs()
		f := x.Floor()
		if _, den := f.Frac(); den.Cmp(one) != 0 || f.Cmp(x) > 0 || f.Add(one).Cmp(x) <= 0 {
			t.Fatal("Floor", x, f)
		}
		if grid.Sign() == 0 {
			continue
		}
		m, e := x.Round(grid)
		times, _ := m.Div(grid)
		if _, den := times.Frac(); e != api.OK || den.Cmp(one) != 0 {
			t.Fatal("Round is no multiple", x, grid, m)
		}
		if d := x.Sub(m).Mul(two); d.Cmp(grid.Neg()) < 0 || d.Cmp(grid) >= 0 {
			t.Fatal("Round is not nearest, or not the greater one", x, grid, m)
		}
	}
}

// P1.5
func TestInt64Frac(t *testing.T) {
	for s, want := range map[string]int64{"0": 0, "-1": -1, "4/2": 2, "9223372036854775807": math.MaxInt64, "-9223372036854775808": math.MinInt64, "-9223372036854775807": -math.MaxInt64} {
		if n, ok := num(t, s).Int64(); n != want || !ok {
			t.Error("Int64 of", s, n, ok)
		}
	}
	for _, s := range []string{"1/2", "-0.5", "9223372036854775808", "-9223372036854775809", "18446744073709551615", "18446744073709551616", "-36893488147419103232", "36893488147419103233", "9223372036854775807.5"} {
		if n, ok := num(t, s).Int64(); n != 0 || ok {
			t.Error("Int64 of", s, n, ok)
		}
	}
	for _, c := range [][3]string{{"0", "0", "1"}, {"-6/8", "-3", "4"}, {"5", "5", "1"}, {"-12.50", "-25", "2"}, {"0.125", "1", "8"}} {
		top, bottom := num(t, c[0]).Frac()
		isNum(t, "the numerator of "+c[0], top, api.OK, c[1])
		isNum(t, "the denominator of "+c[0], bottom, api.OK, c[2])
	}
	if top, bottom := (exact.Num{}).Frac(); top.Sign() != 0 || bottom.Cmp(exact.Whole(1)) != 0 {
		t.Error("Frac of the zero value", top, bottom)
	}
}

// P1.6
func TestSumDot(t *testing.T) {
	s, e := exact.Sum(nil)
	isNum(t, "Sum of none", s, e, "0")
	s, e = exact.Sum([]exact.Num{num(t, "1/2"), num(t, "1/3"), num(t, "-1/6")})
	isNum(t, "Sum", s, e, "2/3")
	full := make([]exact.Num, api.MaxTerms)
	for i := range full {
		full[i] = exact.Whole(int64(i))
	}
	s, e = exact.Sum(full)
	isNum(t, "Sum of many", s, e, "19900")
	d, e := exact.Dot(full, full)
	isNum(t, "Dot of many", d, e, "2646700")
	d, e = exact.Dot(nil, []exact.Num{})
	isNum(t, "Dot of none", d, e, "0")
	d, e = exact.Dot([]exact.Num{num(t, "1/2"), num(t, "-3")}, []exact.Num{num(t, "4"), num(t, "1/3")})
	isNum(t, "Dot", d, e, "1")

	long := make([]exact.Num, api.MaxTerms+1)
	s, e = exact.Sum(long)
	isError(t, "Sum of too many", s, e, api.ErrLong)
	d, e = exact.Dot(long, nil)
	isError(t, "Dot of too many", d, e, api.ErrLong)
	d, e = exact.Dot(nil, long)
	isError(t, "Dot with too many", d, e, api.ErrLong)
	d, e = exact.Dot(full, full[1:])
	isError(t, "Dot of lists of different lengths", d, e, api.ErrArg)
	d, e = exact.Dot(nil, full[:1])
	isError(t, "Dot of none and one", d, e, api.ErrArg)
}

// P1.13
func TestLaws(t *testing.T) {
	r := rand.New(rand.NewPCG(7, 8))
	same := func(what string, x, y exact.Num) {
		t.Helper()
		if x.Cmp(y) != 0 || !reflect.DeepEqual(x, y) || x.String() != y.String() {
			t.Fatal(what, x, y)
		}
	}
	for range 1500 {
		x, y, z := anyNum(t, r, 15), anyNum(t, r, 15), anyNum(t, r, 15)
		same("x + y", x.Add(y), y.Add(x))
		same("x * y", x.Mul(y), y.Mul(x))
		same("x + y + z", x.Add(y).Add(z), x.Add(y.Add(z)))
		same("x * y * z", x.Mul(y).Mul(z), x.Mul(y.Mul(z)))
		same("x * (y + z)", x.Mul(y.Add(z)), x.Mul(y).Add(x.Mul(z)))
		same("x - x", x.Sub(x), exact.Num{})
		same("x + 0", x.Add(exact.Num{}), x)
		same("text", num(t, x.String()), x)
		if x.Sign() != 0 {
			reciprocal, e := exact.Whole(1).Div(x)
			if e != api.OK {
				t.Fatal("no reciprocal", x, e)
			}
			same("x / x", reciprocal.Mul(x), exact.Whole(1))
		}
		if x.Cmp(y) != -y.Cmp(x) || x.Cmp(y) < 0 && y.Cmp(z) < 0 && x.Cmp(z) >= 0 {
			t.Fatal("no order", x, y, z)
		}
		if x.Add(z).Cmp(y.Add(z)) != x.Cmp(y) || z.Sign() > 0 && x.Mul(z).Cmp(y.Mul(z)) != x.Cmp(y) {
			t.Fatal("the order does not agree with sums or products", x, y, z)
		}
	}
}

// P1: no function panics for zero values.
func TestZeroValues(t *testing.T) {
	var x exact.Num
	var b exact.Box
	for _, zero := range []exact.Num{x.Add(x), x.Sub(x), x.Mul(x), x.Neg(), x.Abs(), x.Floor(), exact.Whole(0), b.Lo(), b.Hi(), b.Mid(), b.Width()} {
		isNum(t, "a zero", zero, api.OK, "0")
		if !reflect.DeepEqual(zero, x) {
			t.Errorf("a zero is not the zero value: %#v", zero)
		}
	}
	for _, zero := range []exact.Box{b.Add(b), b.Sub(b), b.Mul(b), b.Neg(), b.Abs(), b.Hull(b), exact.Point(x)} {
		if !reflect.DeepEqual(zero, b) {
			t.Errorf("a box of 0 is not the zero value: %#v", zero)
		}
	}
	if n, ok := x.Int64(); n != 0 || !ok || x.Cmp(x) != 0 || x.Sign() != 0 || !b.Has(x) || !b.Inside(b) || !b.Equal(b) {
		t.Error("questions of zero values")
	}
	if m, ok := b.Meet(b); !ok || !m.Equal(b) {
		t.Error("Meet of zero values", m, ok)
	}
	q, e := x.Div(x)
	isError(t, "Div of zero values", q, e, api.ErrZero)
	c, e := b.Div(b)
	isError(t, "Div of boxes of 0", c, e, api.ErrZero)
	r, e := x.Round(x)
	isError(t, "Round of zero values", r, e, api.ErrRange)
	c, e = b.Root(x)
	isError(t, "Root of zero values", c, e, api.ErrRange)
	c, e = b.Out(x)
	isError(t, "Out of zero values", c, e, api.ErrRange)
}
