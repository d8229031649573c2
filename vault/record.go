package vault

import "venturi/api"

// entry returns the entry of a record of a customer, the empty one if there is none.
func (v *Vault) entry(c *customer, number int) api.Entry {
	if number < 1 || number > len(c.records) {
		return api.Entry{}
	}
	versions := c.records[number-1]
	first := v.chain[versions[0]]
	return api.Entry{
		Number: number, Versions: len(versions), Day: first.Day, Until: first.Until,
		Kind: first.Kind, Gone: v.day > first.Until,
	}
}

// check returns ErrRange unless a customer has a record with the number, ErrGone if it has expired.
func (v *Vault) check(c *customer, number int) api.Errno {
	entry := v.entry(c, number)
	if entry == (api.Entry{}) {
		return api.ErrRange
	}
	if entry.Gone {
		return api.ErrGone
	}
	return api.OK
}

// maySeal returns ErrForm if a kind is not a name, ErrRange unless a day is from the present one to MaxDay, ErrLong if a text is too long, ErrFull if the customer has no room.
func (v *Vault) maySeal(c *customer, kind string, until int, text string) api.Errno {
	if !isName(kind) {
		return api.ErrForm
	}
	if until < v.day || until > api.MaxDay {
		return api.ErrRange
	}
	if len(text) > api.MaxText {
		return api.ErrLong
	}
	if len(c.records) >= api.MaxRecords {
		return api.ErrFull
	}
	return api.OK
}

// Seal makes a record with one version, and returns its number; ErrForm if kind is not a name, ErrRange unless until is from the present day to MaxDay, ErrLong if the text has more than MaxText bytes, ErrFull if the customer has MaxRecords records.
func (v *Vault) Seal(name, pass, kind string, until int, text string) (int, api.Errno) {
	c, key, e := v.enter(name, pass)
	if e != api.OK {
		return 0, e
	}
	if e := v.maySeal(c, kind, until, text); e != api.OK {
		return 0, e
	}
	number := len(c.records) + 1
	v.addSealed(key, text, api.Link{Op: api.LinkSeal, Customer: name, Kind: kind, Number: number, Version: 1, Until: until})
	return number, api.OK
}

// mayRevise returns ErrRange, ErrGone as check does, ErrLong if a text is too long, ErrFull if the record has MaxVersions versions.
func (v *Vault) mayRevise(c *customer, number int, text string) api.Errno {
	if e := v.check(c, number); e != api.OK {
		return e
	}
	if len(text) > api.MaxText {
		return api.ErrLong
	}
	if len(c.records[number-1]) >= api.MaxVersions {
		return api.ErrFull
	}
	return api.OK
}

// Revise adds a version to a record, and returns its number; ErrRange unless there is the record, ErrGone if it has expired, ErrLong as for Seal, ErrFull if it has MaxVersions.
func (v *Vault) Revise(name, pass string, number int, text string) (int, api.Errno) {
	c, key, e := v.enter(name, pass)
	if e != api.OK {
		return 0, e
	}
	if e := v.mayRevise(c, number, text); e != api.OK {
		return 0, e
	}
	version := len(c.records[number-1]) + 1
	v.addSealed(key, text, api.Link{Op: api.LinkRevise, Customer: name, Number: number, Version: version})
	return version, api.OK
}

// open is Open of a customer with their key.
func (v *Vault) open(c *customer, key uint64, number, version int) (string, api.Errno) {
	if e := v.check(c, number); e != api.OK {
		return "", e
	}
	versions := c.records[number-1]
	if version < 0 || version > len(versions) {
		return "", api.ErrRange
	}
	if version == 0 {
		version = len(versions)
	}
	l := v.chain[versions[version-1]]
	if !isTagged(key, l) {
		return "", api.ErrSeal
	}
	return unsealed(key, l)
}

// Open returns the text of a version of a record, of the last one if version is 0; ErrRange unless there is the record, ErrGone if it has expired, ErrRange unless there is the version, ErrSeal if it is not as it was sealed.
func (v *Vault) Open(name, pass string, number, version int) (string, api.Errno) {
	c, key, e := v.enter(name, pass)
	if e != api.OK {
		return "", e
	}
	return v.open(c, key, number, version)
}

// List returns the entries of all records of a customer.
func (v *Vault) List(name, pass string) ([]api.Entry, api.Errno) {
	c, _, e := v.enter(name, pass)
	if e != api.OK {
		return nil, e
	}
	var entries []api.Entry
	for i := range c.records {
		entries = append(entries, v.entry(c, i+1))
	}
	return entries, api.OK
}
