package vault_test

import (
	"math"
	"math/rand/v2"
	"reflect"
	"strings"
	"testing"

	"venturi/api"
	"venturi/vault"
)

// P11.7, P11.8: the document's example 4.
func TestExampleOfChain(t *testing.T) {
	is(t, "Check of no links", vault.Check(nil), api.OK, -1)
	is(t, "Check of no links", vault.Check([]api.Link{}), api.OK, -1)
	v := vault.New()
	isError(t, "Enrol", v.Enrol("ada", "x"), api.OK)
	l := v.Dump()
	is(t, "links", len(l), api.OK, 1)
	is(t, "Op", l[0].Op, api.OK, 1)
	is(t, "Customer", l[0].Customer, api.OK, "ada")
}

// P11.8: the document's example 3.
func TestExampleOfPadded(t *testing.T) {
	v := withCustomers(t, "ada", "bob")
	sealed(t, v, "ada", 9, "ab")
	n, e := v.Revise("ada", passOf("ada"), 1, "ab")
	is(t, "Revise", n, e, 2)
	isError(t, "Release", release(v, "ada", 1, "bob", "word"), api.OK)
	want := append([]byte{0, 2, 97, 98}, make([]byte, 28)...)
	for i, l := range v.Dump()[2:] {
		key := vault.Key("ada", passOf("ada"))
		if i == 2 {
			key = vault.Digest(3, []byte("word"))
		}
		isList(t, "padded", vault.Cipher(plainSealKey(key, l), l.Body), api.OK, want...)
	}
	for _, c := range [][2]int{{0, 32}, {30, 32}, {31, 64}, {62, 64}, {63, 96}, {255, 288}, {256, 288}, {1982, 1984}, {1983, 2016}, {2000, 2016}} {
		v := withCustomers(t, "ada")
		sealed(t, v, "ada", 9, strings.Repeat("z", c[0]))
		is(t, "bytes of the Body", len(v.Dump()[1].Body), api.OK, c[1])
	}
}

// P11.8: the links of all calls, by the table.
func TestLinks(t *testing.T) {
	v, p := vault.New(), newPlain()
	for _, k := range []keeper{v, p} {
		k.Enrol("ada", "x")
		k.Enrol("bob", "y")
		k.Advance(3)
		k.Seal("ada", "x", "polar", 9, "one")
		k.Revise("ada", "x", 1, "two")
		k.Advance(4)
		k.Release("ada", "x", 1, "bob", "word")
	}
	l := v.Dump()
	isSame(t, "Dump", l, p.links)
	want := []api.Link{
		{Op: api.LinkEnrol, Customer: "ada"},
		{Op: api.LinkEnrol, Customer: "bob"},
		{Op: api.LinkDay, Day: 3},
		{Op: api.LinkSeal, Customer: "ada", Kind: "polar", Number: 1, Version: 1, Day: 3, Until: 9},
		{Op: api.LinkRevise, Customer: "ada", Number: 1, Version: 2, Day: 3},
		{Op: api.LinkDay, Day: 4},
		{Op: api.LinkRelease, Customer: "ada", Kind: "bob", Number: 1, Version: 2, Day: 4},
	}
	for i := range l {
		if (len(l[i].Body) > 0) != (want[i].Op >= api.LinkSeal) || (l[i].Tag != 0) != (want[i].Op != api.LinkDay) {
			t.Error("Body or Tag", l[i])
		}
		l[i].Body, l[i].Tag, l[i].Chain = nil, 0, 0
	}
	isSame(t, "without what keys tell", l, want)
}

// P11.8: calls that do not change the vault, or have an error, add no link.
func TestNoLinks(t *testing.T) {
	v := released(t)
	links := v.Dump()
	isOpen(t, "Open", v, "ada", 1, 0, "one")
	isBorrowed(t, "Borrow", v, "bob", "ada", 1, "word", "one")
	v.List("ada", passOf("ada"))
	v.Enrol("ada", "x")
	v.Advance(0)
	for _, c := range passCalls() {
		for _, name := range []string{"ada", "eve"} {
			c.do(v, name, passOf("ada"))
			c.do(v, name, "x")
		}
	}
	isVault(t, "no links", v, links, 0)
}

// anyLink returns a link that no call made.
func anyLink(r *rand.Rand) api.Link {
	text := func() string { return string(anyBytes(r, anyOf(r, 0, 1, 3, 50))) }
	number := func() int {
		return anyOf(r, 0, 1, -1, 1<<32, 1<<32-1, -1<<32, math.MaxInt, math.MinInt, int(r.Uint64()), r.IntN(1000))
	}
	return api.Link{
		Op: api.LinkOp(r.IntN(256)), Customer: text(), Kind: text(), Number: number(), Version: number(), Day: number(), Until: number(),
		Body: anyBytes(r, r.IntN(100)), Tag: anyStart(r), Chain: anyStart(r),
	}
}

// P11.7
func TestAnyChain(t *testing.T) {
	is(t, "an empty link", vault.Chain(7, api.Link{}), api.OK, plainChain(7, api.Link{}))
	for r := range cases(2000) {
		before, l := anyStart(r), anyLink(r)
		want := plainChain(before, l)
		is(t, "Chain", vault.Chain(before, l), api.OK, want)
		l.Chain++
		is(t, "the Chain of the link does not matter", vault.Chain(before, l), api.OK, want)
		l.Number += 1 << 32
		l.Until -= 1 << 32
		is(t, "modulo 2^32", vault.Chain(before, l), api.OK, want)
	}
}

// P11.7
func TestCheck(t *testing.T) {
	for r := range cases(200) {
		var links []api.Link
		for range 1 + r.IntN(6) {
			links = append(links, anyLink(r))
		}
		links = rechained(links)
		is(t, "right", vault.Check(links), api.OK, -1)
		is(t, "the first link", links[0].Chain, api.OK, plainChain(7, links[0]))
		for i := range links {
			is(t, "the beginning", vault.Check(links[:i]), api.OK, -1)
			right := links[i].Chain
			for _, chain := range []uint64{right + 1, right ^ 1<<63, right + api.Prime, 0, 7} {
				links[i].Chain = chain
				is(t, "a wrong one", vault.Check(links), api.OK, i)
			}
			links[i].Chain = right
			if i > 0 {
				is(t, "without the ones before it", vault.Check(links[i:]), api.OK, 0)
			}
		}
		if len(links) > 1 {
			links[0].Chain++
			links[1].Chain = vault.Chain(links[0].Chain, links[1])
			is(t, "the first of several", vault.Check(links), api.OK, 0)
		}
	}
}

// P11.10: what Check finds in the links of a vault.
func TestChangesAreSeen(t *testing.T) {
	for r := range cases(60) {
		links := anyVault(r, 30).Dump()
		for i := range links {
			changed := func(what string, change func(l *api.Link)) {
				t.Helper()
				before := links[i]
				change(&links[i])
				if !reflect.DeepEqual(links[i], before) {
					is(t, what, vault.Check(links), api.OK, i)
				}
				links[i] = before
			}
			changed("Body", func(l *api.Link) { l.Body = neighbours(r, l.Body) })
			other := int(anyOf(r, 0, 1, 2, 255, 256, 1<<32-1, r.Uint32()))
			changed("Number", func(l *api.Link) { l.Number = other })
			changed("Version", func(l *api.Link) { l.Version = other })
			changed("Day", func(l *api.Link) { l.Day = other })
			changed("Until", func(l *api.Link) { l.Until = other })
			changed("Tag", func(l *api.Link) { l.Tag ^= uint64(r.IntN(256)) << (8 * r.IntN(8)) })
		}
		is(t, "right", vault.Check(links), api.OK, -1)
	}
}

// neighbours returns a copy in which up to 7 neighbouring bytes are others.
func neighbours(r *rand.Rand, data []byte) []byte {
	if len(data) == 0 {
		return nil
	}
	data = append([]byte(nil), data...)
	first := anyOf(r, 0, r.IntN(len(data)), len(data)-1)
	for i := first; i < min(len(data), first+1+r.IntN(7)); i++ {
		data[i] ^= byte(r.Uint32())
	}
	return data
}

// P11.10: a changed Body, with all Chains made right again.
func TestChangedBody(t *testing.T) {
	seen := 0
	for r := range cases(300) {
		v := anyVault(r, 30)
		links := v.Dump()
		i := r.IntN(len(links))
		l := links[i]
		body := neighbours(r, l.Body)
		if l.Op != api.LinkSeal && l.Op != api.LinkRevise || string(body) == string(l.Body) {
			continue
		}
		links[i].Body = body
		changed := loaded(t, rechained(links))
		name := l.Customer
		for k := 1; ; k++ {
			text, e := v.Open(name, passOf(name), l.Number, k)
			if e != api.OK {
				break
			}
			if k == l.Version {
				notOpen(t, "changed", changed, name, l.Number, k, api.ErrSeal)
				seen++
				continue
			}
			isOpen(t, "other versions", changed, name, l.Number, k, text)
		}
	}
	if seen < 30 {
		t.Error("few bodies were changed", seen)
	}
}
