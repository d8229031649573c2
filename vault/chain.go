package vault

import (
	"slices"

	"venturi/api"
)

// maxBody is how many bytes the Body of the longest text has.
const maxBody = 2016

// numbers returns the numbers of a link.
func numbers(l api.Link) [4]int {
	return [4]int{l.Number, l.Version, l.Day, l.Until}
}

// sealKey returns the seal key of a link; it begins with the key of the call, or that of the share word.
func sealKey(key uint64, l api.Link) uint64 {
	data := highFirst([]byte{byte(l.Op)}, uint64(l.Number), 4)
	data = highFirst(data, uint64(l.Version), 4)
	if l.Op == api.LinkRelease {
		data = append(data, l.Kind...)
	}
	return Digest(key, data)
}

// isTagged reports whether the Tag of a link is the one that its Body has.
func isTagged(key uint64, l api.Link) bool {
	return Digest(sealKey(key, l), l.Body) == l.Tag
}

// unsealed returns the text of a link; ErrSeal if its Body is not the Cipher of a padded text.
func unsealed(key uint64, l api.Link) (string, api.Errno) {
	text, some := unpadded(Cipher(sealKey(key, l), l.Body))
	if !some {
		return "", api.ErrSeal
	}
	return text, api.OK
}

// addSealed adds a link of the present day with a text that is sealed.
func (v *Vault) addSealed(key uint64, text string, l api.Link) {
	seal := sealKey(key, l)
	l.Day = v.day
	l.Body = Cipher(seal, padded(text))
	l.Tag = Digest(seal, l.Body)
	v.add(l)
}

// add adds a link, which has all but its Chain.
func (v *Vault) add(l api.Link) {
	before := uint64(api.FirstLink)
	if len(v.chain) > 0 {
		before = v.chain[len(v.chain)-1].Chain
	}
	l.Chain = Chain(before, l)
	v.put(l)
}

// put does what a whole link tells.
func (v *Vault) put(l api.Link) {
	place := len(v.chain)
	v.chain = append(v.chain, l)
	c := v.customers[l.Customer]
	switch l.Op {
	case api.LinkEnrol:
		v.customers[l.Customer] = &customer{tag: l.Tag}
	case api.LinkDay:
		v.day = l.Day
		v.advances++
	case api.LinkSeal:
		c.records = append(c.records, []int{place})
	case api.LinkRevise:
		c.records[l.Number-1] = append(c.records[l.Number-1], place)
	case api.LinkRelease:
		v.shares[shareKey{from: l.Customer, to: l.Kind, number: l.Number}] = place
		c.shares++
	}
}

// copied returns a link with a Body of its own.
func copied(l api.Link) api.Link {
	l.Body = slices.Clone(l.Body)
	return l
}

// Dump returns all links of the chain.
func (v *Vault) Dump() []api.Link {
	if !v.isVault() {
		return nil
	}
	var links []api.Link
	for _, l := range v.chain {
		links = append(links, copied(l))
	}
	return links
}

// Chain returns the digest of a link behind one with the Chain before.
func Chain(before uint64, l api.Link) uint64 {
	data := []byte{byte(l.Op)}
	for _, text := range [2]string{l.Customer, l.Kind} {
		data = append(data, text...)
		data = append(data, 0)
	}
	for _, x := range numbers(l) {
		data = highFirst(data, uint64(x), 4)
	}
	data = highFirst(data, l.Tag, 8)
	return Digest(Digest(before, data), l.Body)
}

// Check returns the number of the first link whose Chain is wrong, -1 if there is none.
func Check(l []api.Link) int {
	before := uint64(api.FirstLink)
	for i, link := range l {
		if link.Chain != Chain(before, link) {
			return i
		}
		before = link.Chain
	}
	return -1
}

// could reports whether a call could have added a link, but for what only keys can tell.
func (v *Vault) could(l api.Link) bool {
	switch l.Op {
	case api.LinkEnrol:
		return v.mayEnrol(l.Customer) == api.OK && l.Kind == "" && numbers(l) == [4]int{} && len(l.Body) == 0
	case api.LinkDay:
		return v.mayAdvance(l.Day) == api.OK && l.Customer == "" && l.Kind == "" && numbers(l) == [4]int{2: l.Day} && len(l.Body) == 0 && l.Tag == 0
	}
	c := v.customers[l.Customer]
	size := len(l.Body)
	return c != nil && v.couldSealed(c, l) && size > 0 && size <= maxBody && size%api.PadBytes == 0
}

// couldSealed is could for what a link of a customer's text tells beside its Body.
func (v *Vault) couldSealed(c *customer, l api.Link) bool {
	last := v.entry(c, l.Number).Versions
	switch l.Op {
	case api.LinkSeal:
		return v.maySeal(c, l.Kind, l.Until, "") == api.OK && numbers(l) == [4]int{len(c.records) + 1, 1, v.day, l.Until}
	case api.LinkRevise:
		return v.mayRevise(c, l.Number, "") == api.OK && l.Kind == "" && numbers(l) == [4]int{l.Number, last + 1, v.day, 0}
	case api.LinkRelease:
		return v.check(c, l.Number) == api.OK && v.mayShare(l.Customer, l.Kind) == api.OK && c.shares < api.MaxShares && numbers(l) == [4]int{l.Number, last, v.day, 0}
	}
	return false
}

// Load returns the vault that has a chain; ErrLong if there are more than MaxChain links, ErrSeal if Check finds one, or one that no call could have added.
func Load(l []api.Link) (*Vault, api.Errno) {
	if len(l) > api.MaxChain {
		return nil, api.ErrLong
	}
	if Check(l) != -1 {
		return nil, api.ErrSeal
	}
	v := New()
	for _, link := range l {
		if !v.could(link) {
			return nil, api.ErrSeal
		}
		v.put(copied(link))
	}
	return v, api.OK
}
