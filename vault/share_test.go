package vault_test

import (
	"math"
	"strings"
	"testing"

	"venturi/api"
	"venturi/vault"
)

// release makes a share of a record.
func release(v *vault.Vault, name string, number int, to, share string) api.Errno {
	return v.Release(name, passOf(name), number, to, share)
}

// released returns a vault in which ada released the record 1, and not the record 2, to bob; c is there, too.
func released(t *testing.T) *vault.Vault {
	v := withCustomers(t, "ada", "bob", "c")
	sealed(t, v, "ada", 9, "one")
	sealed(t, v, "ada", 9, "two")
	isError(t, "Release", release(v, "ada", 1, "bob", "word"), api.OK)
	return v
}

// P11.6
func TestBorrow(t *testing.T) {
	v := released(t)
	isBorrowed(t, "a share", v, "bob", "ada", 1, "word", "one")
	isBorrowed(t, "a share again", v, "bob", "ada", 1, "word", "one")
	notBorrowed(t, "not released", v, "bob", "ada", 2, "word", api.ErrNone)
	notBorrowed(t, "not to c", v, "c", "ada", 1, "word", api.ErrNone)
	notBorrowed(t, "not to ada", v, "ada", "ada", 1, "word", api.ErrNone)
	notBorrowed(t, "not from bob", v, "ada", "bob", 1, "word", api.ErrNone)
	notBorrowed(t, "no customer", v, "bob", "eve", 1, "word", api.ErrNone)
	notBorrowed(t, "no name", v, "bob", "", 1, "word", api.ErrNone)
	for _, number := range []int{0, -1, 3, math.MinInt, math.MaxInt, 1<<32 + 1} {
		notBorrowed(t, "no record", v, "bob", "ada", number, "word", api.ErrNone)
	}
	for _, share := range []string{"", "x", "Word", "word\x00", "wor", "words", passOf("ada"), passOf("bob"), strings.Repeat("w", 100)} {
		notBorrowed(t, share, v, "bob", "ada", 1, share, api.ErrPass)
		notBorrowed(t, share, v, "bob", "ada", 2, share, api.ErrNone)
	}
	text, e := v.Open("bob", passOf("bob"), 1, 0)
	isError(t, "it is no record of bob", e, api.ErrRange, text)
}

// P11.6: the share is the version that was the last one then.
func TestVersionOfShare(t *testing.T) {
	v := released(t)
	n, e := v.Revise("ada", passOf("ada"), 1, "uno")
	is(t, "Revise", n, e, 2)
	isBorrowed(t, "the earlier version", v, "bob", "ada", 1, "word", "one")
	isError(t, "the later version", release(v, "ada", 1, "c", "word"), api.OK)
	isBorrowed(t, "the later version", v, "c", "ada", 1, "word", "uno")
	isBorrowed(t, "the earlier version", v, "bob", "ada", 1, "word", "one")
}

// P11.6: a later share of the same record for the same customer.
func TestShareAgain(t *testing.T) {
	v := released(t)
	isError(t, "to c", release(v, "ada", 1, "c", "word"), api.OK)
	isError(t, "the other record", release(v, "ada", 2, "bob", "word"), api.OK)
	sealed(t, v, "c", 9, "of c")
	isError(t, "of c", release(v, "c", 1, "bob", "word"), api.OK)
	v.Revise("ada", passOf("ada"), 1, "uno")
	isError(t, "again", release(v, "ada", 1, "bob", "other"), api.OK)
	notBorrowed(t, "the word before it", v, "bob", "ada", 1, "word", api.ErrPass)
	isBorrowed(t, "the later word", v, "bob", "ada", 1, "other", "uno")
	isBorrowed(t, "for another customer", v, "c", "ada", 1, "word", "one")
	isBorrowed(t, "of another record", v, "bob", "ada", 2, "word", "two")
	isBorrowed(t, "from another customer", v, "bob", "c", 1, "word", "of c")
}

// P11.6: the order of the errors.
func TestErrorsOfRelease(t *testing.T) {
	v := released(t)
	sealed(t, v, "ada", 2, "expired")
	sealed(t, v, "bob", 9, "a")
	advance(t, v, 3)
	links := v.Dump()
	for _, number := range []int{0, 4, -1, math.MinInt, math.MaxInt, 1<<32 + 1} {
		isError(t, "no record", release(v, "ada", number, "eve", ""), api.ErrRange)
		isError(t, "no record", release(v, "ada", number, "bob", "word"), api.ErrRange)
	}
	isError(t, "another one's record", release(v, "bob", 2, "ada", "word"), api.ErrRange)
	isError(t, "expired", release(v, "ada", 3, "eve", ""), api.ErrGone)
	isError(t, "expired", release(v, "ada", 3, "bob", "word"), api.ErrGone)
	for _, to := range []string{"eve", "", "Bob", "bo"} {
		isError(t, "no customer", release(v, "ada", 1, to, ""), api.ErrNone)
		isError(t, "no customer", release(v, "ada", 1, to, "word"), api.ErrNone)
	}
	isError(t, "to themselves", release(v, "ada", 1, "ada", ""), api.ErrTwice)
	isError(t, "to themselves", release(v, "ada", 1, "ada", "word"), api.ErrTwice)
	for _, share := range []string{"", "\x00", "a\x00", strings.Repeat("w", 41)} {
		isError(t, "no share word", release(v, "ada", 1, "bob", share), api.ErrForm)
	}
	isVault(t, "errors", v, links, 3)
	isBorrowed(t, "errors", v, "bob", "ada", 1, "word", "one")
	for _, share := range []string{"\x01", "\xff", " ", strings.Repeat("w", 40)} {
		isError(t, "a share word", release(v, "ada", 1, "bob", share), api.OK)
		isBorrowed(t, "a share word", v, "bob", "ada", 1, share, "one")
	}
}

// P11.6
func TestManyShares(t *testing.T) {
	v := released(t)
	for range 9 {
		isError(t, "again", release(v, "ada", 1, "bob", "word"), api.OK)
		isError(t, "to c", release(v, "ada", 2, "c", "word"), api.OK)
	}
	isError(t, "20 shares", release(v, "ada", 1, "c", "word"), api.OK)
	links := v.Dump()
	isError(t, "21 shares", release(v, "ada", 1, "bob", "other"), api.ErrFull)
	isError(t, "21 shares", release(v, "ada", 2, "bob", "other"), api.ErrFull)
	isError(t, "no share word", release(v, "ada", 1, "bob", ""), api.ErrForm)
	isError(t, "to themselves", release(v, "ada", 1, "ada", "word"), api.ErrTwice)
	isError(t, "no customer", release(v, "ada", 1, "eve", "word"), api.ErrNone)
	isError(t, "no record", release(v, "ada", 3, "bob", "word"), api.ErrRange)
	isVault(t, "full", v, links, 0)
	isBorrowed(t, "full", v, "bob", "ada", 1, "word", "one")
	sealed(t, v, "bob", 9, "of bob")
	isError(t, "another customer", release(v, "bob", 1, "ada", "word"), api.OK)
}

// P11.6: the share word is asked for before the last day.
func TestExpiredShare(t *testing.T) {
	v := released(t)
	advance(t, v, 9)
	isBorrowed(t, "the last day", v, "bob", "ada", 1, "word", "one")
	advance(t, v, 10)
	notBorrowed(t, "expired", v, "bob", "ada", 1, "word", api.ErrGone)
	notBorrowed(t, "expired, another word", v, "bob", "ada", 1, "other", api.ErrPass)
	notBorrowed(t, "expired, no share", v, "bob", "ada", 2, "word", api.ErrNone)
}

// P11.6: the last version is not as it was sealed.
func TestReleaseOfChanged(t *testing.T) {
	v := released(t)
	v.Revise("ada", passOf("ada"), 2, "due")
	links := v.Dump()
	links[3].Body[3] ^= 1 // version 1 of record 1
	links[4].Body[3] ^= 1 // version 1 of record 2
	v = loaded(t, rechained(links))
	for _, to := range []string{"bob", "ada", "eve"} {
		isError(t, "changed", release(v, "ada", 1, to, ""), api.ErrSeal)
		isError(t, "changed", release(v, "ada", 1, to, "word"), api.ErrSeal)
	}
	isError(t, "the last version is right", release(v, "ada", 2, "bob", "word"), api.OK)
	isBorrowed(t, "the last version is right", v, "bob", "ada", 2, "word", "due")
	isBorrowed(t, "shared before", v, "bob", "ada", 1, "word", "one")
	links = with(v.Dump()[:4], craft(api.LinkRevise, 1, 2, 0, block(64, 0, 2, 'a', 'b')))
	isError(t, "not padded", release(loaded(t, links), "ada", 1, "bob", "word"), api.ErrSeal)
}

// craftShare returns a share of ada for bob with a Tag that its Body has, and with data in place of a padded text.
func craftShare(share string, version int, data []byte) api.Link {
	l := api.Link{Op: api.LinkRelease, Customer: "ada", Kind: "bob", Number: 1, Version: version}
	seal := plainSealKey(plainDigest(3, []byte(share)), l)
	l.Body = vault.Cipher(seal, data)
	l.Tag = vault.Digest(seal, l.Body)
	return l
}

// P11.6: a share whose Body is another one.
func TestChangedShare(t *testing.T) {
	v := withCustomers(t, "ada", "bob")
	sealed(t, v, "ada", 9, "one")
	links := v.Dump()
	right := craftShare("word", 1, block(32, 0, 2, 'a', 'b'))
	isBorrowed(t, "right", loaded(t, with(links, right)), "bob", "ada", 1, "word", "ab")
	changed := right
	changed.Body = append([]byte{right.Body[0] ^ 1}, right.Body[1:]...)
	notBorrowed(t, "changed", loaded(t, with(links, changed)), "bob", "ada", 1, "word", api.ErrPass)
	changed = right
	changed.Tag++
	notBorrowed(t, "another Tag", loaded(t, with(links, changed)), "bob", "ada", 1, "word", api.ErrPass)
	for _, data := range [][]byte{block(32, 0, 31), block(64, 0, 2), block(32, 0, 0, 1), block(32, 255, 255)} {
		v := loaded(t, with(links, craftShare("word", 1, data)))
		notBorrowed(t, "not padded", v, "bob", "ada", 1, "word", api.ErrSeal)
		notBorrowed(t, "not padded, another word", v, "bob", "ada", 1, "other", api.ErrPass)
		advance(t, v, 10)
		notBorrowed(t, "not padded, expired", v, "bob", "ada", 1, "word", api.ErrGone)
	}
}
