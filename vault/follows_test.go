package vault_test

import (
	"slices"
	"strings"
	"testing"

	"venturi/api"
	"venturi/vault"
)

// releasers returns the customers who release something to one of them, as the links tell.
func releasers(links []api.Link, to string) []string {
	var names []string
	for _, l := range links {
		if l.Op == api.LinkRelease && l.Kind == to {
			names = append(names, l.Customer)
		}
	}
	return names
}

// P11.11: without the calls of customers who release nothing to a customer, the calls of this one return the same.
func TestApart(t *testing.T) {
	names := []string{"ada", "bob", "c_3", "d"}
	left, borrowed := 0, 0
	for r := range cases(300) {
		orders, answers, v := anyOrders(r, names, 60)
		name := anyOf(r, names...)
		near := append(releasers(v.Dump(), name), name, "")
		w := vault.New()
		for i, o := range orders {
			if o.what != "enrol" && !slices.Contains(near, o.who) {
				left++
				continue
			}
			answer := o.do(w)
			if o.who == name && answer != answers[i] {
				t.Error(o.who, o.what, "returned", answer, "instead of", answers[i])
			}
			if o.who == name && o.what == "borrow" && strings.HasSuffix(answer, noError) {
				borrowed++
			}
		}
		is(t, "Day", w.Day(), api.OK, v.Day())
	}
	if left < 1000 || borrowed < 5 {
		t.Error("few calls", left, borrowed)
	}
}

// P11.11: records of the same numbers, kinds and texts do not meet.
func TestSameRecords(t *testing.T) {
	v := withCustomers(t, "ada", "bob", "c")
	for _, name := range []string{"ada", "bob"} {
		sealed(t, v, name, 9, "of "+name)
		isError(t, "Release", release(v, name, 1, "c", "word"), api.OK)
	}
	links := v.Dump()
	if slices.Equal(links[3].Body, links[5].Body) || links[3].Tag == links[5].Tag {
		t.Error("the same seal")
	}
	n, e := v.Revise("ada", passOf("ada"), 1, "later")
	is(t, "Revise", n, e, 2)
	isOpen(t, "bob", v, "bob", 1, 0, "of bob")
	notOpen(t, "bob", v, "bob", 1, 2, api.ErrRange)
	isBorrowed(t, "from ada", v, "c", "ada", 1, "word", "of ada")
	isBorrowed(t, "from bob", v, "c", "bob", 1, "word", "of bob")
	l, e := v.List("c", passOf("c"))
	isList(t, "shares are no records", l, e)
	is(t, "the first record", sealed(t, v, "c", 9, "of c"), api.OK, 1)
}

// P11.12: texts of versions are opened as they were sealed, until they expire, in a vault that is loaded again and again.
func TestTextsYearsLater(t *testing.T) {
	for r := range cases(40) {
		v := withCustomers(t, "ada")
		var texts []string
		for k := range 10 {
			texts = append(texts, string(anyBytes(r, r.IntN(2001))))
			var e api.Errno
			if k == 0 {
				_, e = v.Seal("ada", passOf("ada"), "polar", 500, texts[0])
			} else {
				_, e = v.Revise("ada", passOf("ada"), 1, texts[k])
			}
			isError(t, "a text", e, api.OK)
			advance(t, v, 50*k+50)
			v = loaded(t, v.Dump())
			for i, text := range texts {
				isOpen(t, "a text", v, "ada", 1, i+1, text)
			}
		}
		advance(t, v, 501)
		notOpen(t, "expired", loaded(t, v.Dump()), "ada", 1, 1, api.ErrGone)
	}
}

// P1: a call depends on its vault alone.
func TestTwoVaults(t *testing.T) {
	v, w := withCustomers(t, "ada", "bob"), withCustomers(t, "bob", "c")
	sealed(t, v, "ada", 9, "one")
	sealed(t, v, "bob", 9, "two")
	advance(t, v, 4)
	isVault(t, "the other vault", w, w.Dump()[:2], 0)
	l, e := w.List("bob", passOf("bob"))
	isList(t, "the other vault", l, e)
	_, e = w.List("ada", passOf("ada"))
	isError(t, "the other vault", e, api.ErrNone)
}
