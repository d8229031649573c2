package vault_test

import (
	"bytes"
	"reflect"
	"slices"
	"testing"

	"venturi/api"
	"venturi/vault"
)

// memory returns where all lists in a value are.
func memory(v reflect.Value) []uintptr {
	var found []uintptr
	switch v.Kind() {
	case reflect.Interface:
		return memory(v.Elem())
	case reflect.Slice:
		if v.Cap() > 0 {
			found = append(found, v.Pointer())
		}
		for i := range v.Len() {
			found = append(found, memory(v.Index(i))...)
		}
	case reflect.Struct:
		for i := range v.NumField() {
			found = append(found, memory(v.Field(i))...)
		}
	}
	return found
}

// apart checks that some values share no memory with each other.
func apart(t *testing.T, what string, values ...any) {
	t.Helper()
	seen := map[uintptr]bool{}
	for _, p := range memory(reflect.ValueOf(values)) {
		if seen[p] {
			t.Errorf("%s shares memory", what)
		}
		seen[p] = true
	}
}

// spoil changes all that links have.
func spoil(links []api.Link) {
	for i := range links {
		for k := range links[i].Body {
			links[i].Body[k] ^= 255
		}
		links[i] = api.Link{Op: 9, Customer: "x", Number: 99}
	}
}

// R4: links that come in and go out are copies.
func TestLinksAreCopies(t *testing.T) {
	for r := range cases(50) {
		v := anyVault(r, 30)
		a, b := v.Dump(), v.Dump()
		w := loaded(t, a)
		c := w.Dump()
		apart(t, "Dump", a, b, c)
		spoil(a)
		isVault(t, "the Dump was changed", v, b, v.Day())
		isVault(t, "the links that were loaded were changed", w, c, v.Day())
		isSame(t, "another Dump", b, c)
		sealed(t, v, "ada", 1000000, "more")
		isSame(t, "a call after Dump", b, c)
	}
}

// R4: entries are new memory.
func TestEntriesAreCopies(t *testing.T) {
	v := withCustomers(t, "ada")
	sealed(t, v, "ada", 9, "one")
	a, e := v.List("ada", passOf("ada"))
	b, f := v.List("ada", passOf("ada"))
	apart(t, "List", a, b)
	a[0].Kind, a[0].Versions = "x", 7
	c, g := v.List("ada", passOf("ada"))
	isList(t, "List", b, f, c...)
	if e != api.OK || g != api.OK || c[0].Versions != 1 {
		t.Error("List", e, g, c)
	}
}

// R4: no argument is changed, nor what is behind its end.
func TestArguments(t *testing.T) {
	for r := range cases(200) {
		whole := anyBytes(r, 50)
		before := slices.Clone(whole)
		data := whole[:r.IntN(50)]
		coded := vault.Cipher(r.Uint64(), data)
		apart(t, "Cipher", whole, coded)
		vault.Digest(r.Uint64(), data)
		l := anyLink(r)
		l.Body = data
		vault.Chain(r.Uint64(), l)
		links := append(rechained([]api.Link{l, l}), l)[:2]
		vault.Check(links)
		vault.Load(links)
		if !bytes.Equal(whole, before) || !reflect.DeepEqual(links[:3], append(rechained([]api.Link{l, l}), l)) {
			t.Error("an argument was changed")
		}
	}
}

// R4: a loaded vault does not share what it has with the one from which it comes.
func TestLoadedApart(t *testing.T) {
	v := released(t)
	w := loaded(t, v.Dump())
	sealed(t, v, "bob", 9, "of bob")
	v.Revise("ada", passOf("ada"), 1, "uno")
	release(v, "ada", 2, "bob", "word")
	advance(t, v, 3)
	isOpen(t, "loaded before", w, "ada", 1, 0, "one")
	notOpen(t, "loaded before", w, "bob", 1, 0, api.ErrRange)
	notBorrowed(t, "loaded before", w, "bob", "ada", 2, "word", api.ErrNone)
	is(t, "Day", w.Day(), api.OK, 0)
	is(t, "links", len(w.Dump()), api.OK, len(v.Dump())-4)
}
