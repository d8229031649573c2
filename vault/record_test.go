package vault_test

import (
	"math"
	"strconv"
	"strings"
	"testing"

	"venturi/api"
	"venturi/vault"
)

// P11.4: the document's example 5.
func TestExampleOfNumbers(t *testing.T) {
	v := withCustomers(t, "ada", "bob")
	is(t, "ada", sealed(t, v, "ada", 9, "one"), api.OK, 1)
	is(t, "bob", sealed(t, v, "bob", 9, "two"), api.OK, 1)
	is(t, "ada again", sealed(t, v, "ada", 9, "three"), api.OK, 2)
	isOpen(t, "ada", v, "ada", 1, 0, "one")
	isOpen(t, "bob", v, "bob", 1, 0, "two")
	isOpen(t, "ada again", v, "ada", 2, 0, "three")
}

// long is a text that is too long.
var long = strings.Repeat("z", 2001)

// P11.4: the order of the errors.
func TestErrorsOfSeal(t *testing.T) {
	v := withCustomers(t, "ada")
	advance(t, v, 5)
	links := v.Dump()
	for _, kind := range wrongNames() {
		n, e := v.Seal("ada", passOf("ada"), kind, 4, long)
		isError(t, kind, e, api.ErrForm, n)
		n, e = v.Seal("ada", passOf("ada"), kind, 9, "")
		isError(t, kind, e, api.ErrForm, n)
	}
	for _, until := range []int{4, 0, -1, 1000001, math.MinInt, math.MaxInt, 1<<32 + 9} {
		n, e := v.Seal("ada", passOf("ada"), "polar", until, long)
		isError(t, "until", e, api.ErrRange, n)
		n, e = v.Seal("ada", passOf("ada"), "polar", until, "")
		isError(t, "until", e, api.ErrRange, n)
	}
	for _, text := range []string{long, strings.Repeat("z", 70000)} {
		n, e := v.Seal("ada", passOf("ada"), "polar", 5, text)
		isError(t, "long", e, api.ErrLong, n)
	}
	isVault(t, "errors", v, links, 5)
}

// P11.4
func TestManyRecords(t *testing.T) {
	v := withCustomers(t, "ada", "bob")
	for i := range 30 {
		is(t, "30 records", sealed(t, v, "ada", 9, strconv.Itoa(i)), api.OK, i+1)
	}
	links := v.Dump()
	n, e := v.Seal("ada", passOf("ada"), "polar", 9, "")
	isError(t, "31 records", e, api.ErrFull, n)
	n, e = v.Seal("ada", passOf("ada"), "polar", 9, long)
	isError(t, "a long one", e, api.ErrLong, n)
	isVault(t, "full", v, links, 0)
	for i := range 30 {
		isOpen(t, "all of them", v, "ada", i+1, 1, strconv.Itoa(i))
	}
	notOpen(t, "31", v, "ada", 31, 1, api.ErrRange)
	advance(t, v, 10)
	n, e = v.Seal("ada", passOf("ada"), "polar", 20, "")
	isError(t, "expired ones count", e, api.ErrFull, n)
	is(t, "another customer", sealed(t, v, "bob", 20, ""), api.OK, 1)
}

// P11.4, P11.5: kinds, last days and texts at their ends.
func TestRecords(t *testing.T) {
	v := withCustomers(t, "ada")
	advance(t, v, 5)
	texts := []string{"", "a", "a b; c", "\x00", "\x00\x00", "text\x00", "\xff\xfe\xfd", strings.Repeat("\x00", 2000), strings.Repeat("\xff", 2000)}
	for i, kind := range rightNames() {
		n, e := v.Seal("ada", passOf("ada"), kind, 5+i, texts[i])
		is(t, kind, n, e, i+1)
		isOpen(t, kind, v, "ada", n, 0, texts[i])
		isOpen(t, kind, v, "ada", n, 1, texts[i])
	}
	n, e := v.Seal("ada", passOf("ada"), "last", 1000000, texts[8])
	is(t, "the last day", n, e, 9)
	isOpen(t, "the last day", v, "ada", 9, 1, texts[8])
	for i := range texts {
		isOpen(t, "each", v, "ada", i+1, 1, texts[i])
	}
}

// P11.4, P11.5: texts of all lengths.
func TestLengths(t *testing.T) {
	var v *vault.Vault
	for n := range 2001 {
		if n%30 == 0 {
			v = withCustomers(t, "ada")
		}
		text := strings.Repeat("z", n)
		number := sealed(t, v, "ada", 0, text)
		isOpen(t, "all lengths", v, "ada", number, 0, text)
	}
}

// P11.4: the order of the errors.
func TestErrorsOfRevise(t *testing.T) {
	v := withCustomers(t, "ada", "bob")
	sealed(t, v, "ada", 4, "one")
	sealed(t, v, "ada", 5, "two")
	sealed(t, v, "bob", 9, "a")
	sealed(t, v, "bob", 9, "b")
	sealed(t, v, "bob", 9, "c")
	advance(t, v, 5)
	links := v.Dump()
	for _, number := range []int{0, 3, -1, 4, math.MinInt, math.MaxInt, 1<<32 + 1} {
		for _, text := range []string{"", long} {
			n, e := v.Revise("ada", passOf("ada"), number, text)
			isError(t, "no record", e, api.ErrRange, n)
		}
	}
	for _, text := range []string{"", long} {
		n, e := v.Revise("ada", passOf("ada"), 1, text)
		isError(t, "expired", e, api.ErrGone, n)
	}
	n, e := v.Revise("ada", passOf("ada"), 2, long)
	isError(t, "long", e, api.ErrLong, n)
	isVault(t, "errors", v, links, 5)
	n, e = v.Revise("ada", passOf("ada"), 2, strings.Repeat("z", 2000))
	is(t, "the last day", n, e, 2)
}

// P11.4
func TestManyVersions(t *testing.T) {
	v := withCustomers(t, "ada")
	sealed(t, v, "ada", 9, "1")
	sealed(t, v, "ada", 9, "other")
	for k := 2; k <= 20; k++ {
		n, e := v.Revise("ada", passOf("ada"), 1, strconv.Itoa(k))
		is(t, "20 versions", n, e, k)
	}
	links := v.Dump()
	n, e := v.Revise("ada", passOf("ada"), 1, "")
	isError(t, "21 versions", e, api.ErrFull, n)
	n, e = v.Revise("ada", passOf("ada"), 1, long)
	isError(t, "a long one", e, api.ErrLong, n)
	isVault(t, "full", v, links, 0)
	for k := 1; k <= 20; k++ {
		isOpen(t, "each", v, "ada", 1, k, strconv.Itoa(k))
	}
	isOpen(t, "the last one", v, "ada", 1, 0, "20")
	notOpen(t, "21", v, "ada", 1, 21, api.ErrRange)
	n, e = v.Revise("ada", passOf("ada"), 2, "")
	is(t, "another record", n, e, 2)
	isOpen(t, "the first one stays", v, "ada", 2, 1, "other")
	isOpen(t, "the later one", v, "ada", 2, 0, "")
	advance(t, v, 10)
	n, e = v.Revise("ada", passOf("ada"), 1, "")
	isError(t, "expired", e, api.ErrGone, n)
}

// P11.5: the order of the errors.
func TestErrorsOfOpen(t *testing.T) {
	v := withCustomers(t, "ada", "bob")
	sealed(t, v, "ada", 4, "one")
	sealed(t, v, "ada", 5, "two")
	sealed(t, v, "bob", 9, "a")
	sealed(t, v, "bob", 9, "b")
	sealed(t, v, "bob", 9, "c")
	advance(t, v, 5)
	for _, number := range []int{0, 3, -1, math.MinInt, math.MaxInt, 1<<32 + 2} {
		notOpen(t, "no record", v, "ada", number, 0, api.ErrRange)
		notOpen(t, "no record, no version", v, "ada", number, 7, api.ErrRange)
	}
	for _, version := range []int{0, 1, 2, -1} {
		notOpen(t, "expired", v, "ada", 1, version, api.ErrGone)
	}
	for _, version := range []int{2, -1, math.MinInt, math.MaxInt, 1<<32 + 1} {
		notOpen(t, "no version", v, "ada", 2, version, api.ErrRange)
	}
	isOpen(t, "the last day", v, "ada", 2, 0, "two")
	isOpen(t, "the last day", v, "ada", 2, 1, "two")
}

// P11.5
func TestList(t *testing.T) {
	v := withCustomers(t, "ada", "bob")
	isEntries := func(what, name string, want ...api.Entry) {
		t.Helper()
		l, e := v.List(name, passOf(name))
		isList(t, what, l, e, want...)
	}
	isEntries("none", "ada")
	advance(t, v, 3)
	v.Seal("ada", passOf("ada"), "polar", 3, "one")
	v.Seal("bob", passOf("bob"), "tare", 9, "two")
	isEntries("one", "ada", api.Entry{Number: 1, Versions: 1, Day: 3, Until: 3, Kind: "polar"})
	v.Revise("ada", passOf("ada"), 1, "uno")
	advance(t, v, 4)
	v.Seal("ada", passOf("ada"), "a_1", 1000000, "")
	v.Revise("ada", passOf("ada"), 2, "due")
	v.Revise("ada", passOf("ada"), 2, "tre")
	isEntries("two", "ada", api.Entry{Number: 1, Versions: 2, Day: 3, Until: 3, Kind: "polar", Gone: true}, api.Entry{Number: 2, Versions: 3, Day: 4, Until: 1000000, Kind: "a_1"})
	isEntries("of another customer", "bob", api.Entry{Number: 1, Versions: 1, Day: 3, Until: 9, Kind: "tare"})
	advance(t, v, 9)
	isEntries("the last day", "bob", api.Entry{Number: 1, Versions: 1, Day: 3, Until: 9, Kind: "tare"})
	advance(t, v, 10)
	isEntries("expired", "bob", api.Entry{Number: 1, Versions: 1, Day: 3, Until: 9, Kind: "tare", Gone: true})
}

// craft returns a link of ada with a Tag that its Body has, and with data in place of a padded text.
func craft(op api.LinkOp, number, version, day int, data []byte) api.Link {
	l := api.Link{Op: op, Customer: "ada", Number: number, Version: version, Day: day}
	seal := plainSealKey(vault.Key("ada", passOf("ada")), l)
	if op == api.LinkSeal {
		l.Kind, l.Until = "polar", 1000000
	}
	l.Body = vault.Cipher(seal, data)
	l.Tag = vault.Digest(seal, l.Body)
	return l
}

// block returns bytes with some first ones, all others being 0.
func block(size int, first ...byte) []byte {
	return append(first, make([]byte, size-len(first))...)
}

// P11.5: a Body with the right Tag that is not the Cipher of a padded text.
func TestNotPadded(t *testing.T) {
	links := withCustomers(t, "ada").Dump()
	nonzero := block(32, 0, 2, 'a', 'b')
	nonzero[31] = 1
	isOpen(t, "padded", loaded(t, with(links, craft(api.LinkSeal, 1, 1, 0, block(32, 0, 30, 'a')))), "ada", 1, 1, "a"+strings.Repeat("\x00", 29))
	for _, data := range [][]byte{block(32, 0, 31), block(32, 0, 62), nonzero, block(32, 0, 2, 'a', 'b', 1), block(64, 0, 2, 'a', 'b'), block(64, 0, 30), block(64, 0), block(32, 1), block(32, 255, 255), block(2016, 7, 190), block(2016, 7, 223)} {
		v := loaded(t, with(links, craft(api.LinkSeal, 1, 1, 0, data)))
		notOpen(t, "not padded", v, "ada", 1, 1, api.ErrSeal)
		notOpen(t, "not padded", v, "ada", 1, 0, api.ErrSeal)
		notOpen(t, "no version comes first", v, "ada", 1, 2, api.ErrRange)
		v = loaded(t, with(v.Dump(), craft(api.LinkRevise, 1, 2, 0, block(32, 0, 2, 'a', 'b'))))
		isOpen(t, "the later version", v, "ada", 1, 0, "ab")
		notOpen(t, "not padded", v, "ada", 1, 1, api.ErrSeal)
	}
}

// P11.5: a Body of which the key or the Tag is another one.
func TestNotTagged(t *testing.T) {
	links := withCustomers(t, "ada").Dump()
	right := craft(api.LinkSeal, 1, 1, 0, block(32, 0, 2, 'a', 'b'))
	isOpen(t, "right", loaded(t, with(links, right)), "ada", 1, 1, "ab")
	for bit := range 64 {
		l := right
		l.Tag ^= 1 << bit
		notOpen(t, "another Tag", loaded(t, with(links, l)), "ada", 1, 1, api.ErrSeal)
	}
	l := right
	l.Tag += api.Prime
	notOpen(t, "a Tag above Prime", loaded(t, with(links, l)), "ada", 1, 1, api.ErrSeal)
	for _, l := range []api.Link{craft(api.LinkSeal, 2, 1, 0, block(32, 0, 2, 'a', 'b')), craft(api.LinkSeal, 1, 2, 0, block(32, 0, 2, 'a', 'b')), craft(api.LinkRevise, 1, 1, 0, block(32, 0, 2, 'a', 'b'))} {
		l.Op, l.Kind, l.Number, l.Version, l.Until = api.LinkSeal, "polar", 1, 1, 1000000
		notOpen(t, "the key of another link", loaded(t, with(links, l)), "ada", 1, 1, api.ErrSeal)
	}
}
