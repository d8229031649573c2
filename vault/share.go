package vault

import "venturi/api"

// wordKey returns the digest of a share word, which stands in place of the key of a customer.
func wordKey(word string) uint64 {
	return Digest(shareStart, []byte(word))
}

// mayShare returns ErrNone if there is no customer to whom a customer releases, ErrTwice if it is the customer themselves.
func (v *Vault) mayShare(name, to string) api.Errno {
	if v.customers[to] == nil {
		return api.ErrNone
	}
	if to == name {
		return api.ErrTwice
	}
	return api.OK
}

// Release makes a share of the last version of a record for another customer; ErrRange, ErrGone, ErrSeal as for Open, ErrNone if there is no such other customer, ErrTwice if it is the customer themselves, ErrForm if share is not a passphrase, ErrFull if the customer has made MaxShares.
func (v *Vault) Release(name, pass string, number int, to, share string) api.Errno {
	c, key, e := v.enter(name, pass)
	if e != api.OK {
		return e
	}
	text, e := v.open(c, key, number, 0)
	if e != api.OK {
		return e
	}
	if e := v.mayShare(name, to); e != api.OK {
		return e
	}
	if !isPass(share) {
		return api.ErrForm
	}
	if c.shares >= api.MaxShares {
		return api.ErrFull
	}
	version := len(c.records[number-1])
	v.addSealed(wordKey(share), text, api.Link{Op: api.LinkRelease, Customer: name, Kind: to, Number: number, Version: version})
	return api.OK
}

// Borrow returns the text of a share that another customer made for this one; ErrNone if there is no such share, ErrPass if the share word is not the one, ErrGone if the record has expired, ErrSeal if it is not the share of a text.
func (v *Vault) Borrow(name, pass, from string, number int, share string) (string, api.Errno) {
	if _, _, e := v.enter(name, pass); e != api.OK {
		return "", e
	}
	place, some := v.shares[shareKey{from: from, to: name, number: number}]
	if !some {
		return "", api.ErrNone
	}
	l, key := v.chain[place], wordKey(share)
	if !isTagged(key, l) {
		return "", api.ErrPass
	}
	if e := v.check(v.customers[from], number); e != api.OK {
		return "", e
	}
	return unsealed(key, l)
}
