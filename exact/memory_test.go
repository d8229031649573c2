package exact

import (
	"reflect"
	"testing"

	"venturi/api"
)

// words returns where the words of numbers and boxes are.
func words(t *testing.T, values ...any) []*uint64 {
	t.Helper()
	var at []*uint64
	for _, v := range values {
		switch x := v.(type) {
		case Num:
			for _, a := range []nat{x.top, x.below} {
				if len(a) > 0 {
					at = append(at, &a[0])
				}
			}
		case Box:
			at = append(at, words(t, x.lo, x.hi)...)
		case []Num:
			for _, y := range x {
				at = append(at, words(t, y)...)
			}
		case []Box:
			for _, y := range x {
				at = append(at, words(t, y)...)
			}
		case api.Errno:
			if x != api.OK {
				t.Fatal("error", x)
			}
		case bool:
			if !x {
				t.Fatal("false")
			}
		default:
			t.Fatal("no number", v)
		}
	}
	return at
}

// apart checks that results share no memory with arguments, nor with each other.
func apart(t *testing.T, what string, arguments []*uint64, results ...any) {
	t.Helper()
	seen := map[*uint64]bool{}
	for _, p := range arguments {
		seen[p] = true
	}
	for _, p := range words(t, results...) {
		if seen[p] {
			t.Errorf("%s shares memory", what)
		}
		seen[p] = true
	}
}

// pair makes one list of two results.
func pair[A, B any](a A, b B) []any { return []any{a, b} }

// R4
func TestMemory(t *testing.T) {
	third, half, five := Num{top: nat{1}, below: nat{3}}, Num{true, nat{1}, nat{2}}, Whole(5)
	for _, x := range []Num{third, half, five, {}} {
		for _, y := range []Num{third, half, five, Whole(1), {}} {
			in := words(t, x, y)
			apart(t, "Add", in, x.Add(y))
			apart(t, "Sub", in, x.Sub(y))
			apart(t, "Mul", in, x.Mul(y))
			apart(t, "Hull", in, Point(x).Hull(Point(y)))
			if y.Sign() != 0 {
				apart(t, "Div", in, pair(x.Div(y))...)
			}
			apart(t, "Sum", in, pair(Sum([]Num{x}))...)
			apart(t, "Dot", in, pair(Dot([]Num{x}, []Num{y}))...)
		}
		in := words(t, x)
		apart(t, "Neg", in, x.Neg())
		apart(t, "Abs", in, x.Abs())
		apart(t, "Pow", in, pair(x.Pow(1))...)
		apart(t, "Floor", in, x.Floor())
		apart(t, "Round", in, pair(x.Round(Whole(1)))...)
		apart(t, "Frac", in, pair(x.Frac())...)
		apart(t, "Point", in, Point(x))
		apart(t, "Span", in, pair(Span(x, x))...)
	}
}

// R4
func TestMemoryOfBoxes(t *testing.T) {
	grid := Whole(1)
	for _, b := range []Box{Point(Whole(4)), {Whole(-1), Whole(4)}, {Whole(1), Num{top: nat{7}, below: nat{3}}}, {Whole(-2), Whole(-1)}} {
		in := words(t, b, grid)
		apart(t, "Lo, Hi", in, b.Lo(), b.Hi())
		apart(t, "Mid, Width", in, b.Mid(), b.Width())
		apart(t, "Neg", in, b.Neg())
		apart(t, "Abs", in, b.Abs())
		apart(t, "Pow", in, pair(b.Pow(1))...)
		apart(t, "Hull", in, b.Hull(b))
		apart(t, "Meet", in, pair(b.Meet(b))...)
		apart(t, "Out", in, pair(b.Out(grid))...)
		apart(t, "Mul", in, b.Mul(Point(grid)))
		apart(t, "Add", in, b.Add(Box{}))
		apart(t, "Parts", in, pair(b.Parts(2))...)
		apart(t, "Root", in, pair(b.Abs().Root(grid))...)
		apart(t, "Poly", in, pair(Poly([]Num{grid}, b, 1))...)
	}
}

// R4: no argument is changed.
func TestArgumentsStay(t *testing.T) {
	coefs := []Num{Whole(-2), {top: nat{1}, below: nat{3}}, Whole(7)}
	b := Box{Num{true, nat{1}, nat{3}}, Whole(4)}
	before, same := []Num{Whole(-2), {top: nat{1}, below: nat{3}}, Whole(7)}, Box{Num{true, nat{1}, nat{3}}, Whole(4)}
	Sum(coefs)
	Dot(coefs, coefs)
	Poly(coefs, b, 3)
	b.Abs().Root(coefs[1])
	b.Out(coefs[1])
	b.Mul(b).Div(Point(coefs[0]))
	coefs[0].Round(coefs[1])
	if !reflect.DeepEqual(coefs, before) || !reflect.DeepEqual(b, same) {
		t.Error("an argument was changed", coefs, b)
	}
}
