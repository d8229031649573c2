package fit_test

import (
	"math/rand/v2"
	"reflect"
	"testing"

	"venturi/api"
	"venturi/exact"
	"venturi/fit"
)

// lists returns where all lists in some values are, those of the digits of numbers too.
func lists(values ...any) []uintptr {
	var found []uintptr
	for _, v := range values {
		found = append(found, listsOf(reflect.ValueOf(v))...)
	}
	return found
}

func listsOf(v reflect.Value) []uintptr {
	var found []uintptr
	switch v.Kind() {
	case reflect.Slice:
		if v.Len() > 0 {
			found = append(found, v.Pointer())
		}
		for i := range v.Len() {
			found = append(found, listsOf(v.Index(i))...)
		}
	case reflect.Struct:
		for i := range v.NumField() {
			found = append(found, listsOf(v.Field(i))...)
		}
	}
	return found
}

// apart checks that a result shares no memory with arguments, nor with itself.
func apart(t *testing.T, what string, arguments []uintptr, result any, e api.Errno) {
	t.Helper()
	if e != api.OK {
		t.Errorf("%s: error %d", what, e)
	}
	seen := map[uintptr]bool{}
	for _, p := range arguments {
		seen[p] = true
	}
	for _, p := range lists(result) {
		if seen[p] {
			t.Errorf("%s shares memory", what)
		}
		seen[p] = true
	}
}

// R4: results are new memory, and no argument is changed.
func TestMemory(t *testing.T) {
	r := rand.New(rand.NewPCG(4, 2))
	for range 30 {
		f, data := anyTold(r)
		coefs, x, errors := anyNums(r, len(f.Terms)), anyNums(r, f.Inputs), anyNums(r, len(data))
		for i := range errors {
			errors[i] = errors[i].Abs()
		}
		boxes := make([]exact.Box, len(coefs))
		for i, c := range coefs {
			boxes[i] = exact.Point(c)
		}
		inputs := make([]exact.Box, len(x))
		for i, c := range x {
			inputs[i] = exact.Point(c)
		}
		before := copied(t, f, data, coefs, x, errors, boxes, inputs)
		in := lists(f, data, coefs, x, errors, boxes, inputs)
		check(t, in, f, data, coefs, x, errors, boxes, inputs)
		for i, v := range []any{f, data, coefs, x, errors, boxes, inputs} {
			if !reflect.DeepEqual(v, before[i]) {
				t.Error("an argument was changed", v, before[i])
			}
		}
	}
}

// check calls all functions and looks at the memory of their results.
func check(t *testing.T, in []uintptr, f fit.Form, data []fit.Point, coefs, x, errors []exact.Num, boxes, inputs []exact.Box) {
	t.Helper()
	if len(f.Terms) > 0 {
		v, e := fit.Term(f, 0, x)
		apart(t, "Term", in, v, e)
	}
	v, e := fit.Value(f, coefs, x)
	apart(t, "Value", in, v, e)
	b, e := fit.Range(f, boxes, inputs)
	apart(t, "Range", in, b, e)
	s, e := fit.Solve(f, data)
	apart(t, "Solve", in, s, e)
	if h, e := fit.Hidden(f, data[:len(data)/2]); e == api.OK {
		apart(t, "Hidden", in, h, e)
	}
	v, e = fit.Squares(f, coefs, data)
	apart(t, "Squares", in, v, e)
	g, e := fit.Gains(f, data)
	apart(t, "Gains", in, g, e)
	l, e := fit.Leverage(f, data)
	apart(t, "Leverage", in, l, e)
	if w, e := fit.Without(f, data, len(data)/2); e == api.OK {
		apart(t, "Without", in, w, e)
	}
	c, e := fit.Enclose(f, data, errors)
	apart(t, "Enclose", in, c, e)
	b, e = fit.Predict(f, data, errors, x)
	apart(t, "Predict", in, b, e)
	fit.Rank(f, data)
	fit.Better(f, f, data)
	fit.CheckForm(f)
}

// copied returns equal values in other memory.
func copied(t *testing.T, values ...any) []any {
	t.Helper()
	var out []any
	for _, v := range values {
		out = append(out, copyOf(t, reflect.ValueOf(v)).Interface())
	}
	return out
}

func copyOf(t *testing.T, v reflect.Value) reflect.Value {
	t.Helper()
	c := reflect.New(v.Type()).Elem()
	switch x := v.Interface().(type) {
	case exact.Num:
		c.Set(reflect.ValueOf(num(t, x.String())))
		return c
	case exact.Box:
		c.Set(reflect.ValueOf(span(t, x.Lo().String(), x.Hi().String())))
		return c
	}
	switch {
	case v.Kind() == reflect.Slice && !v.IsNil():
		c.Set(reflect.MakeSlice(v.Type(), v.Len(), v.Len()))
		for i := range v.Len() {
			c.Index(i).Set(copyOf(t, v.Index(i)))
		}
	case v.Kind() == reflect.Struct:
		for i := range v.NumField() {
			c.Field(i).Set(copyOf(t, v.Field(i)))
		}
	default:
		c.Set(v)
	}
	return c
}
