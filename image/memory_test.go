package image_test

import (
	"math/rand/v2"
	"reflect"
	"slices"
	"testing"

	"venturi/api"
	"venturi/exact"
	"venturi/image"
	"venturi/probe"
)

// memory returns where all lists in a value are, those of the digits of numbers too.
func memory(v reflect.Value) []uintptr {
	var found []uintptr
	switch v.Kind() {
	case reflect.Interface:
		return memory(v.Elem())
	case reflect.Slice:
		if v.Len() > 0 {
			found = append(found, v.Pointer())
		}
		for i := range v.Len() {
			found = append(found, memory(v.Index(i))...)
		}
	case reflect.Struct:
		for i := range v.NumField() {
			found = append(found, memory(v.Field(i))...)
		}
	}
	return found
}

// apart checks that a result shares no memory with an argument, nor with itself.
func apart(t *testing.T, what string, arguments, result any) {
	t.Helper()
	seen := map[uintptr]bool{}
	for _, p := range memory(reflect.ValueOf(arguments)) {
		seen[p] = true
	}
	for _, p := range memory(reflect.ValueOf(result)) {
		if seen[p] {
			t.Errorf("%s shares memory", what)
		}
		seen[p] = true
	}
}

// given is all that the functions get.
type given struct {
	A, B, Mask api.Image
	Table      []probe.Knot
	Spots      []image.Spot
	Area       exact.Num
	Vectors    []image.Vector
}

// anyGiven returns the same as another call with the same numbers, in new memory.
func anyGiven(a, b uint64) given {
	r := rand.New(rand.NewPCG(a, b))
	width, height := 3+r.IntN(3), 3+r.IntN(3)
	g := given{A: anyImage(r, width, height, 9), B: anyImage(r, width, height, 9), Mask: anyImage(r, width, height, 4)}
	g.Table, g.Area = anyTable(r), anyOf(r, whole(1), ratio(2, 3))
	for range anyOf(r, 0, 1, 1, 2, 5) {
		lo := ratio(r.IntN(9), 1+r.IntN(5))
		g.Spots = append(g.Spots, image.Spot{Known: r.IntN(3) > 0, Pressure: between(lo, lo.Add(ratio(r.IntN(2), 3)))})
	}
	for range 6 {
		m := image.Match{DX: r.IntN(3), DY: r.IntN(3), Score: ratio(1, 1+r.IntN(3))}
		g.Vectors = append(g.Vectors, image.Vector{Found: r.IntN(4) > 0, Match: m})
	}
	return g
}

// R4: results are new memory, and no argument is changed.
func TestMemory(t *testing.T) {
	for n := range uint64(500) {
		g, before := anyGiven(n, 8), anyGiven(n, 8)
		check := func(what string, results ...any) { t.Helper(); apart(t, what, g, results) }
		image.Check(g.A)
		differ, _ := image.Differ(g.A, g.B, g.Mask, 1)
		check("Differ", differ)
		regions, _ := image.Regions(g.Mask)
		check("Regions", regions)
		spots, _ := image.Paint(g.A, g.B, g.Mask, g.Table, 0)
		check("Paint", spots)
		force, _, _ := image.Force(g.Spots, g.Area)
		check("Force", force)
		match, _ := image.Displace(g.A, g.B, 1, 1, 2, 2)
		check("Displace", match)
		vectors, _ := image.Field(g.A, g.B, 2, 1, 2)
		check("Field", vectors)
		good, _ := image.Validate(g.Vectors, 3, 1)
		check("Validate", good)
		image.Tuft(g.A, g.Mask)
		_, _, joined, _ := image.Join(g.A, g.B, 2, 2)
		check("Join", joined)
		_, _, joined, _ = image.Join(g.A, g.A, 0, 1)
		check("Join of the same", joined)
		if !reflect.DeepEqual(g, before) {
			t.Fatal("an argument was changed", g, before)
		}
	}
}

// R4: a change of a result changes no other one.
func TestNewEachTime(t *testing.T) {
	x := im(2, 1, 0, 0, 1)
	for range 2 {
		d, e := image.Differ(x, full(2, 2, 0), full(2, 2, 1), 1)
		isImage(t, "Differ", d, e, x)
		d.Pixels[0] = 7
		l, e := image.Regions(x)
		isList(t, "Regions", l, e, api.Region{Size: 1}, api.Region{Size: 1, Left: 1, Top: 1, Right: 1, Bottom: 1})
		l[0] = api.Region{}
		_, _, j, e := image.Join(x, x, 0, 1)
		isImage(t, "Join", j, e, x)
		j.Pixels[0] = 7
	}
}

// R3: it makes no difference whether a list is nil or empty.
func TestEmpty(t *testing.T) {
	x := full(2, 2, 1)
	for _, none := range []api.Image{{Width: 2, Height: 2}, {Width: 2, Height: 2, Pixels: []int{}}, {Pixels: []int{}}} {
		isError(t, "Check", image.Check(none), api.ErrImage)
		a, e := image.Tuft(x, none)
		isError(t, "Tuft", e, api.ErrImage, a)
	}
	spots, e := image.Paint(x, x, x, []probe.Knot{}, 0)
	isError(t, "Paint", e, api.ErrArg, spots)
	f, n, e := image.Force([]image.Spot{}, whole(1))
	is(t, "Force", text(f), e, "0..0")
	is(t, "Force", n, e, 0)
	l, e := image.Validate([]image.Vector{}, 3, 0)
	is(t, "Validate", len(l), e, 0)
	f, n, e = image.Force(make([]image.Spot, 100000), whole(1))
	isError(t, "many spots", e, api.ErrLong, f, n)
	isError(t, "many pixels", image.Check(api.Image{Width: 1000, Height: 1000, Pixels: slices.Repeat([]int{1}, 1000000)}), api.ErrImage)
}
