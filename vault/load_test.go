package vault_test

import (
	"math"
	"reflect"
	"slices"
	"strconv"
	"strings"
	"testing"

	"venturi/api"
	"venturi/vault"
)

// base returns the links of a vault on the day 5: ada has a record with two versions, an expired one and one of the last day; bob has one record.
func base(t *testing.T) []api.Link {
	v := withCustomers(t, "ada", "bob")
	sealed(t, v, "ada", 9, "one")
	v.Revise("ada", passOf("ada"), 1, "uno")
	sealed(t, v, "ada", 4, "two")
	sealed(t, v, "ada", 5, "three")
	sealed(t, v, "bob", 9, "of bob")
	advance(t, v, 5)
	return v.Dump()
}

// isLoad checks whether there is a vault with one more link.
func isLoad(t *testing.T, what string, links []api.Link, l api.Link, want api.Errno) {
	t.Helper()
	all := with(links, l)
	v, e := vault.Load(all)
	if e != want || (v != nil) != (want == api.OK) {
		t.Errorf("%s: Load with %v has error %d instead of %d", what, l, e, want)
	}
	if v != nil {
		isSame(t, what, v.Dump(), all)
	}
}

// wrongNumbers calls a function for links of which one of the numbers that a table does not name is another one.
func wrongNumbers(l api.Link, check func(what string, l api.Link)) {
	for _, x := range []int{-1, 1, 2, 3, 4, 5, 6, 9, 1000000, math.MinInt, math.MaxInt} {
		number, version, day, until := l, l, l, l
		number.Number, version.Version, day.Day, until.Until = x, x, x, x
		check("Number", number)
		check("Version", version)
		check("Day", day)
		check("Until", until)
	}
	// The Chain tells these numbers only modulo 2^32.
	number, version, day, until := l, l, l, l
	number.Number, version.Version, day.Day, until.Until = l.Number+1<<32, l.Version+1<<32, l.Day+1<<32, l.Until-1<<32
	check("Number + 2^32", number)
	check("Version + 2^32", version)
	check("Day + 2^32", day)
	check("Until - 2^32", until)
}

// isRight reports whether two links have the same numbers but those that may be others.
func isRight(a, b api.Link, day, until bool) bool {
	return a.Number == b.Number && a.Version == b.Version && (day || a.Day == b.Day) && (until || a.Until == b.Until)
}

// P11.8
func TestLoadOfEnrol(t *testing.T) {
	links := base(t)
	right := api.Link{Op: api.LinkEnrol, Customer: "eve", Tag: 5}
	isLoad(t, "right", links, right, api.OK)
	wrongNumbers(right, func(what string, l api.Link) {
		isLoad(t, what, links, l, api.ErrSeal)
	})
	for _, name := range append(wrongNames(), "ada", "bob") {
		l := right
		l.Customer = name
		isLoad(t, "Customer", links, l, api.ErrSeal)
	}
	for _, name := range rightNames()[:2] {
		l := right
		l.Customer, l.Tag = name, math.MaxUint64
		isLoad(t, "Customer", links, l, api.OK)
	}
	l := right
	l.Kind = "k"
	isLoad(t, "Kind", links, l, api.ErrSeal)
	for _, size := range []int{1, 32, 2016} {
		l := right
		l.Body = make([]byte, size)
		isLoad(t, "Body", links, l, api.ErrSeal)
	}
	l = right
	l.Body = []byte{}
	isLoad(t, "an empty Body", links, l, api.OK)
}

// P11.8
func TestLoadOfDay(t *testing.T) {
	links := base(t)
	right := api.Link{Op: api.LinkDay, Day: 6}
	isLoad(t, "right", links, right, api.OK)
	isLoad(t, "the last day", links, api.Link{Op: api.LinkDay, Day: 1000000}, api.OK)
	wrongNumbers(right, func(what string, l api.Link) {
		want := api.ErrSeal
		if isRight(l, right, true, false) && l.Day > 5 && l.Day <= 1000000 {
			want = api.OK
		}
		isLoad(t, what, links, l, want)
	})
	isLoad(t, "after the last day", links, api.Link{Op: api.LinkDay, Day: 1000001}, api.ErrSeal)
	isLoad(t, "Customer", links, api.Link{Op: api.LinkDay, Day: 6, Customer: "ada"}, api.ErrSeal)
	isLoad(t, "Kind", links, api.Link{Op: api.LinkDay, Day: 6, Kind: "k"}, api.ErrSeal)
	isLoad(t, "Tag", links, api.Link{Op: api.LinkDay, Day: 6, Tag: 1}, api.ErrSeal)
	isLoad(t, "Tag", links, api.Link{Op: api.LinkDay, Day: 6, Tag: 1 << 63}, api.ErrSeal)
	isLoad(t, "Body", links, api.Link{Op: api.LinkDay, Day: 6, Body: make([]byte, 32)}, api.ErrSeal)
}

// wrongBodies checks Bodies of other lengths.
func wrongBodies(t *testing.T, links []api.Link, right api.Link) {
	t.Helper()
	for size := range 2100 {
		if size > 100 && size < 1980 {
			continue
		}
		l := right
		l.Body = make([]byte, size)
		want := api.ErrSeal
		if slices.Contains([]int{32, 64, 96, 1984, 2016}, size) {
			want = api.OK
		}
		isLoad(t, "Body", links, l, want)
	}
	l := right
	l.Tag = math.MaxUint64
	isLoad(t, "any Tag", links, l, api.OK)
	for _, name := range []string{"", "eve", "Ada"} {
		l := right
		l.Customer = name
		isLoad(t, "Customer", links, l, api.ErrSeal)
	}
}

// P11.8
func TestLoadOfSeal(t *testing.T) {
	links := base(t)
	right := api.Link{Op: api.LinkSeal, Customer: "ada", Kind: "k", Number: 4, Version: 1, Day: 5, Until: 5, Body: make([]byte, 32)}
	isLoad(t, "right", links, right, api.OK)
	wrongNumbers(right, func(what string, l api.Link) {
		want := api.ErrSeal
		if isRight(l, right, false, true) && l.Until >= 5 && l.Until <= 1000000 {
			want = api.OK
		}
		isLoad(t, what, links, l, want)
	})
	wrongBodies(t, links, right)
	l := right
	l.Until = 1000001
	isLoad(t, "after the last day", links, l, api.ErrSeal)
	for _, kind := range wrongNames() {
		l := right
		l.Kind = kind
		isLoad(t, "Kind", links, l, api.ErrSeal)
	}
	for _, kind := range rightNames() {
		l := right
		l.Kind = kind
		isLoad(t, "Kind", links, l, api.OK)
	}
	l = right
	l.Customer = "bob"
	isLoad(t, "the number of another customer", links, l, api.ErrSeal)
	l.Number = 2
	isLoad(t, "the number of this customer", links, l, api.OK)
}

// P11.8
func TestLoadOfRevise(t *testing.T) {
	links := base(t)
	right := api.Link{Op: api.LinkRevise, Customer: "ada", Number: 1, Version: 3, Day: 5, Body: make([]byte, 32)}
	isLoad(t, "right", links, right, api.OK)
	wrongNumbers(right, func(what string, l api.Link) {
		want := api.ErrSeal
		if isRight(l, right, false, false) {
			want = api.OK
		}
		isLoad(t, what, links, l, want)
	})
	wrongBodies(t, links, right)
	l := right
	l.Kind = "polar"
	isLoad(t, "Kind", links, l, api.ErrSeal)
	for _, c := range []struct {
		number, version int
		want            api.Errno
	}{{2, 2, api.ErrSeal}, {3, 2, api.OK}, {3, 3, api.ErrSeal}, {4, 1, api.ErrSeal}, {4, 2, api.ErrSeal}, {0, 1, api.ErrSeal}, {-1, 1, api.ErrSeal}} {
		l := right
		l.Number, l.Version = c.number, c.version
		isLoad(t, "Number and Version", links, l, c.want)
	}
}

// P11.8
func TestLoadOfRelease(t *testing.T) {
	links := base(t)
	right := api.Link{Op: api.LinkRelease, Customer: "ada", Kind: "bob", Number: 1, Version: 2, Day: 5, Body: make([]byte, 32)}
	isLoad(t, "right", links, right, api.OK)
	wrongNumbers(right, func(what string, l api.Link) {
		want := api.ErrSeal
		if isRight(l, right, false, false) {
			want = api.OK
		}
		isLoad(t, what, links, l, want)
	})
	wrongBodies(t, links, right)
	for _, kind := range []string{"", "ada", "eve", "Bob"} {
		l := right
		l.Kind = kind
		isLoad(t, "Kind", links, l, api.ErrSeal)
	}
	for _, c := range []struct {
		number, version int
		want            api.Errno
	}{{2, 1, api.ErrSeal}, {3, 1, api.OK}, {3, 2, api.ErrSeal}, {3, 0, api.ErrSeal}, {4, 0, api.ErrSeal}, {4, 1, api.ErrSeal}, {0, 0, api.ErrSeal}, {-1, 0, api.ErrSeal}} {
		l := right
		l.Number, l.Version = c.number, c.version
		isLoad(t, "Number and Version", links, l, c.want)
	}
}

// P11.8, R8
func TestLoadOfOtherOps(t *testing.T) {
	links := base(t)
	for op := range 256 {
		for _, l := range []api.Link{{}, {Customer: "eve"}, {Day: 6}, {Customer: "ada", Kind: "k", Number: 4, Version: 1, Day: 5, Until: 5, Body: make([]byte, 32)}, {Customer: "ada", Number: 1, Version: 3, Day: 5, Body: make([]byte, 32)}, {Customer: "ada", Kind: "bob", Number: 1, Version: 2, Day: 5, Body: make([]byte, 32)}} {
			l.Op = api.LinkOp(op)
			if op < 1 || op > 5 {
				isLoad(t, "another Op", links, l, api.ErrSeal)
			}
		}
	}
}

// P11.8: what is full.
func TestLoadOfFull(t *testing.T) {
	v := vault.New()
	for i := range 19 {
		isError(t, "Enrol", v.Enrol("c"+strconv.Itoa(i), "x"), api.OK)
	}
	l := api.Link{Op: api.LinkEnrol, Customer: "eve"}
	isLoad(t, "20 customers", v.Dump(), l, api.OK)
	isLoad(t, "21 customers", with(v.Dump(), l), api.Link{Op: api.LinkEnrol, Customer: "bob"}, api.ErrSeal)

	v = withCustomers(t, "ada", "bob")
	for range 29 {
		sealed(t, v, "ada", 9, "")
	}
	l = api.Link{Op: api.LinkSeal, Customer: "ada", Kind: "k", Number: 30, Version: 1, Body: make([]byte, 32)}
	isLoad(t, "30 records", v.Dump(), l, api.OK)
	next := l
	next.Number = 31
	isLoad(t, "31 records", with(v.Dump(), l), next, api.ErrSeal)

	for range 18 {
		v.Revise("ada", passOf("ada"), 7, "")
	}
	l = api.Link{Op: api.LinkRevise, Customer: "ada", Number: 7, Version: 20, Body: make([]byte, 32)}
	isLoad(t, "20 versions", v.Dump(), l, api.OK)
	next = l
	next.Version = 21
	isLoad(t, "21 versions", with(v.Dump(), l), next, api.ErrSeal)

	for range 19 {
		release(v, "ada", 1, "bob", "word")
	}
	l = api.Link{Op: api.LinkRelease, Customer: "ada", Kind: "bob", Number: 2, Version: 1, Body: make([]byte, 32)}
	isLoad(t, "20 shares", v.Dump(), l, api.OK)
	next = l
	next.Number = 3
	isLoad(t, "21 shares", with(v.Dump(), l), next, api.ErrSeal)

	for day := range 1999 {
		advance(t, v, day+1)
	}
	l = api.Link{Op: api.LinkDay, Day: 5000}
	isLoad(t, "2000 days", v.Dump(), l, api.OK)
	isLoad(t, "2001 days", with(v.Dump(), l), api.Link{Op: api.LinkDay, Day: 5001}, api.ErrSeal)
}

// P11.8
func TestLongChains(t *testing.T) {
	links := make([]api.Link, 20001)
	v, e := vault.Load(links)
	isError(t, "20001 links", e, api.ErrLong, v)
	v, e = vault.Load(rechained(links))
	isError(t, "20001 links", e, api.ErrLong, v)
	v, e = vault.Load(links[:20000])
	isError(t, "20000 links", e, api.ErrSeal, v)
	v, e = vault.Load(rechained(links[:20000]))
	isError(t, "20000 links", e, api.ErrSeal, v)
}

// P11.8: a link that is wrong in the middle, or that came too early.
func TestLoadInOrder(t *testing.T) {
	links := base(t)
	for i := range links {
		less := rechained(slices.Delete(slices.Clone(links), i, i+1))
		if slices.Contains([]int{3, 5, 6, 7}, i) { // on which no later one depends
			isSame(t, "without a link", loaded(t, less).Dump(), less)
			continue
		}
		v, e := vault.Load(less)
		isError(t, "without a link", e, api.ErrSeal, v)
	}
	for i := range len(links) + 1 {
		v, e := vault.Load(rechained(slices.Insert(slices.Clone(links), i, api.Link{})))
		isError(t, "with one more", e, api.ErrSeal, v)
		isSame(t, "the beginning", loaded(t, links[:i]).Dump(), links[:i])
	}
	for i := range links {
		changed := slices.Clone(links)
		changed[i].Chain++
		v, e := vault.Load(changed)
		isError(t, "a wrong Chain", e, api.ErrSeal, v)
	}
}

// P11.8
func TestLoadOfNothing(t *testing.T) {
	for _, none := range [][]api.Link{nil, {}} {
		v := loaded(t, none)
		isVault(t, "no links", v, nil, 0)
		isError(t, "Enrol", v.Enrol("ada", "x"), api.OK)
		is(t, "Chain", v.Dump()[0].Chain, api.OK, plainChain(7, v.Dump()[0]))
	}
}

// addedBy returns the link that the call adds which a link tells, with another text; none if the call has an error.
func addedBy(v *vault.Vault, l api.Link) (api.Link, bool) {
	before := len(v.Dump())
	pass := passOf(l.Customer)
	switch l.Op {
	case api.LinkEnrol:
		v.Enrol(l.Customer, "x")
	case api.LinkDay:
		v.Advance(l.Day)
	case api.LinkSeal:
		v.Seal(l.Customer, pass, l.Kind, l.Until, "")
	case api.LinkRevise:
		v.Revise(l.Customer, pass, l.Number, "")
	case api.LinkRelease:
		v.Release(l.Customer, pass, l.Number, l.Kind, "word")
	}
	links := v.Dump()
	if len(links) == before {
		return api.Link{}, false
	}
	return links[before], true
}

// withoutBody returns a link without what only keys tell.
func withoutBody(l api.Link) api.Link {
	l.Body, l.Tag, l.Chain = nil, 0, 0
	return l
}

// P11.8: links that are told by whether a call adds the same one.
func TestAnyLoad(t *testing.T) {
	right, wrong := 0, 0
	for r := range cases(3000) {
		links := anyVault(r, 20).Dump()
		small := func() int { return anyOf(r, 0, 1, 1, 1, 2, 2, 3, 9) }
		l := api.Link{Op: api.LinkOp(r.IntN(7)), Customer: anyOf(r, "ada", "bob", "c_3", "d", ""), Number: small(), Version: small(), Day: anyOf(r, 0, 0, 0, loaded(t, links).Day(), loaded(t, links).Day(), small())}
		l.Kind = anyOf(r, "", "", "ada", "bob", "tare")
		if l.Op == api.LinkSeal {
			l.Until = small()
		}
		if l.Op >= api.LinkSeal {
			l.Body = make([]byte, 32)
		}
		if l.Op < api.LinkSeal && r.IntN(2) == 0 {
			l.Number, l.Version, l.Kind = 0, 0, ""
			if l.Op == api.LinkDay {
				l.Customer, l.Day = "", small()
			}
		}
		want := api.ErrSeal
		if added, some := addedBy(loaded(t, links), l); some && reflect.DeepEqual(withoutBody(added), withoutBody(l)) {
			want = api.OK
			right++
		} else {
			wrong++
		}
		isLoad(t, "any link", links, l, want)
	}
	if right < 100 || wrong < 100 {
		t.Error("few links are right, or wrong", right, wrong)
	}
}

// P11.12: Load of Dump, and what is called then.
func TestYearsLater(t *testing.T) {
	names := []string{"ada", "bob", "c_3"}
	for r := range cases(300) {
		_, _, v := anyOrders(r, names, r.IntN(60))
		w := loaded(t, v.Dump())
		isVault(t, "loaded", w, v.Dump(), v.Day())
		for range 60 {
			o := anyOrder(r, names, v.Day())
			if a, b := o.do(v), o.do(w); a != b {
				t.Error(o.who, o.what, "returned", b, "instead of", a)
			}
		}
		isVault(t, "later", w, v.Dump(), v.Day())
	}
}

// fullest returns a vault with no room for anything.
func fullest(t *testing.T) *vault.Vault {
	v := vault.New()
	for day := range 2000 {
		advance(t, v, day+1)
	}
	for i := range 20 {
		isError(t, "Enrol", v.Enrol("c"+strconv.Itoa(i), passOf("c"+strconv.Itoa(i))), api.OK)
	}
	for i := range 20 {
		name := "c" + strconv.Itoa(i)
		for k := range 30 {
			text := strings.Repeat(strconv.Itoa(k), 1000)
			n := sealed(t, v, name, 1000000, text)
			for range 19 {
				_, e := v.Revise(name, passOf(name), n, text)
				isError(t, "Revise", e, api.OK)
			}
		}
		for k := range 20 {
			isError(t, "Release", release(v, name, k+1, "c"+strconv.Itoa((i+1)%20), "word"), api.OK)
		}
	}
	return v
}

// P11.12: a vault with no room is as full when it is loaded again.
func TestFullest(t *testing.T) {
	v := fullest(t)
	links := v.Dump()
	is(t, "links", len(links), api.OK, 2000+20+20*(30*20+20))
	w := loaded(t, links)
	isVault(t, "loaded", w, links, 2000)
	isError(t, "Enrol", w.Enrol("ada", "x"), api.ErrFull)
	isError(t, "Advance", w.Advance(2001), api.ErrFull)
	for i := range 20 {
		name := "c" + strconv.Itoa(i)
		n, e := w.Seal(name, passOf(name), "k", 2000, "")
		isError(t, "Seal", e, api.ErrFull, n)
		n, e = w.Revise(name, passOf(name), 30, "")
		isError(t, "Revise", e, api.ErrFull, n)
		isError(t, "Release", release(w, name, 30, "c"+strconv.Itoa((i+1)%20), "word"), api.ErrFull)
		isOpen(t, "Open", w, name, 30, 20, strings.Repeat("29", 1000))
		isBorrowed(t, "Borrow", w, "c"+strconv.Itoa((i+1)%20), name, 20, "word", strings.Repeat("19", 1000))
	}
}
