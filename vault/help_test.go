package vault_test

import (
	"fmt"
	"math/rand/v2"
	"reflect"
	"slices"
	"strings"
	"testing"

	"venturi/api"
	"venturi/vault"
)

// is compares a result without error with the value that it should have.
func is[T comparable](t *testing.T, what string, got T, e api.Errno, want T) {
	t.Helper()
	if e != api.OK || got != want {
		t.Errorf("%s: %v, error %d, instead of %v", what, got, e, want)
	}
}

// isList compares a list without error with what it should have.
func isList[T comparable](t *testing.T, what string, got []T, e api.Errno, want ...T) {
	t.Helper()
	if e != api.OK || !slices.Equal(got, want) {
		t.Errorf("%s: %v, error %d, instead of %v", what, got, e, want)
	}
}

// isError checks an error, and that the results beside it are zero values.
func isError(t *testing.T, what string, e, want api.Errno, results ...any) {
	t.Helper()
	if e != want {
		t.Errorf("%s: error %d instead of %d", what, e, want)
	}
	for _, r := range results {
		if x := reflect.ValueOf(r); x.Kind() == reflect.Slice && x.Len() > 0 || x.Kind() != reflect.Slice && !x.IsZero() {
			t.Errorf("%s: result %v beside an error", what, r)
		}
	}
}

// isSame compares two lists of links.
func isSame(t *testing.T, what string, got, want []api.Link) {
	t.Helper()
	same := func(a, b api.Link) bool { return reflect.DeepEqual(blankBody(a), blankBody(b)) }
	if !slices.EqualFunc(got, want, same) {
		t.Errorf("%s: the links %v instead of %v", what, got, want)
	}
}

// blankBody makes an empty Body nil.
func blankBody(l api.Link) api.Link {
	if len(l.Body) == 0 {
		l.Body = nil
	}
	return l
}

// isVault checks that a call that should have an error left the vault as it was.
func isVault(t *testing.T, what string, v *vault.Vault, links []api.Link, day int) {
	t.Helper()
	isSame(t, what, v.Dump(), links)
	is(t, what, v.Day(), api.OK, day)
}

// withCustomers returns a vault with customers, each with the passphrase "pass of " and the name.
func withCustomers(t *testing.T, names ...string) *vault.Vault {
	t.Helper()
	v := vault.New()
	for _, name := range names {
		isError(t, "Enrol", v.Enrol(name, passOf(name)), api.OK)
	}
	return v
}

// passOf returns the passphrase of a customer.
func passOf(name string) string { return "pass of " + name }

// sealed seals a text and returns its number.
func sealed(t *testing.T, v *vault.Vault, name string, until int, text string) int {
	t.Helper()
	n, e := v.Seal(name, passOf(name), "polar", until, text)
	isError(t, "Seal", e, api.OK)
	return n
}

// advance makes the day a later one.
func advance(t *testing.T, v *vault.Vault, day int) {
	t.Helper()
	isError(t, "Advance", v.Advance(day), api.OK)
}

// isOpen checks the text of a version.
func isOpen(t *testing.T, what string, v *vault.Vault, name string, number, version int, want string) {
	t.Helper()
	text, e := v.Open(name, passOf(name), number, version)
	is(t, what, text, e, want)
}

// notOpen checks the error of Open.
func notOpen(t *testing.T, what string, v *vault.Vault, name string, number, version int, want api.Errno) {
	t.Helper()
	text, e := v.Open(name, passOf(name), number, version)
	isError(t, what, e, want, text)
}

// isBorrowed checks the text of a share.
func isBorrowed(t *testing.T, what string, v *vault.Vault, name, from string, number int, share, want string) {
	t.Helper()
	text, e := v.Borrow(name, passOf(name), from, number, share)
	is(t, what, text, e, want)
}

// notBorrowed checks the error of Borrow.
func notBorrowed(t *testing.T, what string, v *vault.Vault, name, from string, number int, share string, want api.Errno) {
	t.Helper()
	text, e := v.Borrow(name, passOf(name), from, number, share)
	isError(t, what, e, want, text)
}

// loaded returns the vault of links.
func loaded(t *testing.T, links []api.Link) *vault.Vault {
	t.Helper()
	v, e := vault.Load(links)
	if e != api.OK || v == nil {
		t.Fatal("Load", e, links)
	}
	return v
}

// call is a method of a vault with all arguments but the name and the passphrase.
type call struct {
	name string
	do   func(v *vault.Vault, name, pass string) (api.Errno, []any)
}

// passCalls returns the calls with a name and a passphrase, whose other arguments are wrong.
func passCalls() []call {
	return []call{
		{"Seal", func(v *vault.Vault, name, pass string) (api.Errno, []any) {
			n, e := v.Seal(name, pass, "", -1, strings.Repeat("z", 2001))
			return e, []any{n}
		}},
		{"Revise", func(v *vault.Vault, name, pass string) (api.Errno, []any) {
			n, e := v.Revise(name, pass, 0, strings.Repeat("z", 2001))
			return e, []any{n}
		}},
		{"Open", func(v *vault.Vault, name, pass string) (api.Errno, []any) {
			text, e := v.Open(name, pass, 0, -1)
			return e, []any{text}
		}},
		{"List", func(v *vault.Vault, name, pass string) (api.Errno, []any) {
			l, e := v.List(name, pass)
			return e, []any{l}
		}},
		{"Release", func(v *vault.Vault, name, pass string) (api.Errno, []any) {
			return v.Release(name, pass, 0, "", ""), nil
		}},
		{"Borrow", func(v *vault.Vault, name, pass string) (api.Errno, []any) {
			text, e := v.Borrow(name, pass, "", 0, "")
			return e, []any{text}
		}},
	}
}

// anyOf returns one of some values.
func anyOf[T any](r *rand.Rand, l ...T) T { return l[r.IntN(len(l))] }

// anyBytes returns bytes, of which many are 0 or 255.
func anyBytes(r *rand.Rand, count int) []byte {
	data := make([]byte, count)
	for i := range data {
		data[i] = anyOf(r, 0, 255, byte(r.Uint32()), byte(r.Uint32()))
	}
	return data
}

// order is a call of a vault that can be made again with another one.
type order struct {
	who  string // empty for Advance
	what string
	do   func(v keeper) string // what it returned
}

// noError ends what a call returned that had no error.
const noError = ", error 0"

// told writes what a call returned.
func told[T any](x T, e api.Errno) string { return fmt.Sprintf("%q, error %d", fmt.Sprint(x), e) }

// anyOrder returns a call of one of some customers; most are possible.
func anyOrder(r *rand.Rand, names []string, day int) order {
	name := anyOf(r, names...)
	pass := passOf(anyOf(r, append(slices.Repeat([]string{name}, 15), "x")...))
	number, version := anyOf(r, 1, 1, 1, 1, 2, 2, 3, 0), r.IntN(4)
	text := string(anyBytes(r, anyOf(r, 0, 1, 29, 30, 31, r.IntN(100), r.IntN(2000), 2001)))
	until := day + anyOf(r, -1, 0, 1, 9, 30, 100, 100, 1000000)
	kind, other := anyOf(r, "polar", "polar", "tare", "a_1", ""), anyOf(r, append(names, "x")...)
	share := anyOf(r, "word", "word", "word", "word", "other", "")
	o := order{who: name, what: anyOf(r, "seal", "seal", "revise", "revise", "open", "open", "list", "release", "release", "release", "borrow", "borrow", "borrow", "borrow", "enrol", "advance")}
	switch o.what {
	case "seal":
		o.do = func(v keeper) string { return told(v.Seal(name, pass, kind, until, text)) }
	case "revise":
		o.do = func(v keeper) string { return told(v.Revise(name, pass, number, text)) }
	case "open":
		o.do = func(v keeper) string { return told(v.Open(name, pass, number, version)) }
	case "list":
		o.do = func(v keeper) string { return told(v.List(name, pass)) }
	case "release":
		o.do = func(v keeper) string { return told("", v.Release(name, pass, number, other, share)) }
	case "borrow":
		o.do = func(v keeper) string { return told(v.Borrow(name, pass, other, number, share)) }
	case "enrol":
		o.do = func(v keeper) string { return told("", v.Enrol(name, pass)) }
	case "advance":
		o.who = ""
		later := day + anyOf(r, -1, 0, 1, 1, 2, 4)
		o.do = func(v keeper) string { return told("", v.Advance(later)) }
	}
	return o
}

// anyOrders returns calls that were made with a new vault, what they returned, and the vault.
func anyOrders(r *rand.Rand, names []string, count int) ([]order, []string, *vault.Vault) {
	v := vault.New()
	var orders []order
	var answers []string
	put := func(o order) {
		orders, answers = append(orders, o), append(answers, o.do(v))
	}
	for _, name := range names {
		put(order{who: name, what: "enrol", do: func(v keeper) string { return told("", v.Enrol(name, passOf(name))) }})
	}
	for range count {
		put(anyOrder(r, names, v.Day()))
	}
	return orders, answers, v
}

// anyVault returns a vault after random calls.
func anyVault(r *rand.Rand, count int) *vault.Vault {
	_, _, v := anyOrders(r, []string{"ada", "bob", "c_3"}, count)
	return v
}

// rechained returns a copy of links with all Chains right.
func rechained(links []api.Link) []api.Link {
	links = slices.Clone(links)
	before := uint64(7)
	for i := range links {
		links[i].Chain = vault.Chain(before, links[i])
		before = links[i].Chain
	}
	return links
}

// with returns links with another one behind them.
func with(links []api.Link, l api.Link) []api.Link {
	return rechained(append(slices.Clone(links), l))
}

// cases yields as many random sources.
func cases(count int) func(yield func(*rand.Rand) bool) {
	return func(yield func(*rand.Rand) bool) {
		r := rand.New(rand.NewPCG(11, 11))
		for range count {
			if !yield(r) {
				return
			}
		}
	}
}
