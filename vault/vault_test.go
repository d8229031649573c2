package vault_test

import (
	"math"
	"strconv"
	"strings"
	"testing"

	"venturi/api"
	"venturi/vault"
)

// P11.3
func TestNew(t *testing.T) {
	v := vault.New()
	isVault(t, "a new vault", v, nil, 0)
	for _, c := range passCalls() {
		e, results := c.do(v, "ada", passOf("ada"))
		isError(t, c.name, e, api.ErrNone, results...)
	}
}

// wrongNames returns texts that are not names.
func wrongNames() []string {
	return []string{"", "Ada", "aDa", "1", "1a", "_", "_a", "a-b", "a b", " a", "a ", "a.", "a:", "a/", "a`", "a{", "a@", "a[", "`", "{", "\x00", "a\x00", "é", "aé", "a\xff", strings.Repeat("a", 21), strings.Repeat("q", 100000)}
}

// rightNames returns names.
func rightNames() []string {
	return []string{"a", "z", "ada", "a0", "z9_", "a_______", "m5_n", strings.Repeat("q", 20)}
}

// P11.3
func TestNames(t *testing.T) {
	v := vault.New()
	for _, name := range wrongNames() {
		isError(t, name, v.Enrol(name, "x"), api.ErrForm)
	}
	isVault(t, "no names", v, nil, 0)
	for _, name := range rightNames() {
		isError(t, name, v.Enrol(name, "x"), api.OK)
		l, e := v.List(name, "x")
		isList(t, name, l, e)
	}
}

// P11.3
func TestPasses(t *testing.T) {
	v := vault.New()
	for _, pass := range []string{"", "\x00", "a\x00", "\x00a", "a\x00b", strings.Repeat("p", 41), strings.Repeat("p", 39) + "\x00"} {
		isError(t, pass, v.Enrol("ada", pass), api.ErrForm)
	}
	isVault(t, "no passphrases", v, nil, 0)
	var all []string
	for b := 1; b < 256; b++ {
		all = append(all, string([]byte{byte(b)}))
	}
	for _, pass := range append(all, " ", "a b", "A:B", "\xff\xfe", "é", strings.Repeat("p", 40)) {
		v := vault.New()
		isError(t, pass, v.Enrol("ada", pass), api.OK)
		l, e := v.List("ada", pass)
		isList(t, pass, l, e)
	}
}

// P11.3: the order of the errors.
func TestEnrolTwice(t *testing.T) {
	v := withCustomers(t, "ada")
	links := v.Dump()
	isError(t, "twice", v.Enrol("ada", passOf("ada")), api.ErrTwice)
	isError(t, "with another passphrase", v.Enrol("ada", "y"), api.ErrTwice)
	isError(t, "with none", v.Enrol("ada", ""), api.ErrForm)
	isVault(t, "twice", v, links, 0)
	l, e := v.List("ada", "y")
	isError(t, "the later passphrase", e, api.ErrPass, l)
}

// P11.3
func TestManyCustomers(t *testing.T) {
	v := vault.New()
	for i := range 20 {
		isError(t, "20 customers", v.Enrol("c"+strconv.Itoa(i), "x"), api.OK)
	}
	links := v.Dump()
	isError(t, "21 customers", v.Enrol("ada", "x"), api.ErrFull)
	isError(t, "again", v.Enrol("c7", "x"), api.ErrTwice)
	isError(t, "no name", v.Enrol("C", "x"), api.ErrForm)
	isError(t, "no passphrase", v.Enrol("ada", ""), api.ErrForm)
	isVault(t, "full", v, links, 0)
}

// P11.3
func TestAdvance(t *testing.T) {
	v := withCustomers(t, "ada")
	links := v.Dump()
	for _, day := range []int{0, -1, 1000001, math.MaxInt, math.MinInt, 1 << 32} {
		isError(t, "at first", v.Advance(day), api.ErrRange)
	}
	isVault(t, "at first", v, links, 0)
	advance(t, v, 1)
	is(t, "Day", v.Day(), api.OK, 1)
	advance(t, v, 5)
	for _, day := range []int{5, 4, 1, 0, -5} {
		isError(t, "not later", v.Advance(day), api.ErrRange)
	}
	is(t, "Day", v.Day(), api.OK, 5)
	advance(t, v, 1000000)
	isError(t, "after the last day", v.Advance(1000001), api.ErrRange)
	isError(t, "the last day", v.Advance(1000000), api.ErrRange)
	is(t, "Day", v.Day(), api.OK, 1000000)
}

// P11.3
func TestManyDays(t *testing.T) {
	v := vault.New()
	for day := range 2000 {
		advance(t, v, 2*day+1)
		isError(t, "not later", v.Advance(day), api.ErrRange)
	}
	links := v.Dump()
	isError(t, "2001 days", v.Advance(4000), api.ErrFull)
	isError(t, "the same day", v.Advance(3999), api.ErrRange)
	isError(t, "after the last day", v.Advance(1000001), api.ErrRange)
	isVault(t, "full", v, links, 3999)
}

// P11.3: those of all calls with a name and a passphrase come before their others.
func TestWho(t *testing.T) {
	v := withCustomers(t, "ada", "bob")
	sealed(t, v, "ada", 0, "one")
	links := v.Dump()
	for _, c := range passCalls() {
		for _, name := range []string{"eve", "", "Ada", "ada\x00", "ad", "adaa"} {
			e, results := c.do(v, name, passOf("ada"))
			isError(t, c.name+" of "+name, e, api.ErrNone, results...)
		}
		for _, pass := range []string{"", "x", passOf("bob"), passOf("ada") + "\x00", "\x00" + passOf("ada"), "Pass of ada", passOf("ada") + strings.Repeat(" ", 100)} {
			e, results := c.do(v, "ada", pass)
			isError(t, c.name+" with "+pass, e, api.ErrPass, results...)
		}
		for _, name := range []string{"ada", "bob"} {
			if e, _ := c.do(v, name, passOf(name)); e == api.ErrNone && c.name != "Borrow" || e == api.ErrPass {
				t.Error(c.name, "of", name, e)
			}
		}
	}
	isVault(t, "errors", v, links, 0)
}

// P11.3: a passphrase is told by its digest with the name, so that customers may have the same one.
func TestSamePass(t *testing.T) {
	v := vault.New()
	isError(t, "ada", v.Enrol("ada", "x"), api.OK)
	isError(t, "bob", v.Enrol("bob", "x"), api.OK)
	links := v.Dump()
	if links[0].Tag == links[1].Tag {
		t.Error("the same tag")
	}
	for _, name := range []string{"ada", "bob"} {
		n, e := v.Seal(name, "x", "polar", 0, "of "+name)
		is(t, name, n, e, 1)
	}
	for _, name := range []string{"ada", "bob"} {
		text, e := v.Open(name, "x", 1, 1)
		is(t, name, text, e, "of "+name)
	}
}

// R3, P1
func TestNoVault(t *testing.T) {
	whole := withCustomers(t, "ada")
	advance(t, whole, 3)
	part := *whole
	for _, v := range []*vault.Vault{nil, {}, new(vault.Vault), &part} {
		is(t, "Day", v.Day(), api.OK, 0)
		isSame(t, "Dump", v.Dump(), nil)
		isError(t, "Enrol", v.Enrol("bob", "x"), api.ErrNil)
		isError(t, "Enrol without a name", v.Enrol("", ""), api.ErrNil)
		isError(t, "Advance", v.Advance(1), api.ErrNil)
		isError(t, "Advance to a day before", v.Advance(-1), api.ErrNil)
		for _, c := range passCalls() {
			e, results := c.do(v, "ada", passOf("ada"))
			isError(t, c.name, e, api.ErrNil, results...)
		}
	}
	is(t, "the vault itself", whole.Day(), api.OK, 3)
	is(t, "links", len(whole.Dump()), api.OK, 2)
}
