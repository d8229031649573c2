package campaign

import (
	"strconv"

	"venturi/api"
)

// readEnrol reads a name and a passphrase.
func readEnrol(r *reader) act {
	name, pass := r.next(), r.next()
	return silent(func(v visit) api.Errno { return v.enrol(name, pass) })
}

// enrol adds a customer; the errors of Enrol.
func (s *Site) enrol(name, pass string) api.Errno {
	if e := s.vault.Enrol(name, pass); e != api.OK {
		return e
	}
	s.customers[name] = &customer{}
	return api.OK
}

// readDay reads a day.
func readDay(r *reader) act {
	day := r.integer(r.next())
	return silent(func(v visit) api.Errno { return v.vault.Advance(day) })
}

// links answers how many links the vault has, and the Chain of the last one.
func (v visit) links() (string, api.Errno) {
	links := v.vault.Dump()
	chain := uint64(api.FirstLink)
	if len(links) > 0 {
		chain = last(links).Chain
	}
	return strconv.Itoa(len(links)) + " " + strconv.FormatUint(chain, 10), api.OK
}

// readSeal reads a kind, the last day and a text.
func readSeal(r *reader) act {
	kind, until, text := r.next(), r.integer(r.next()), r.next()
	return func(v visit) (string, api.Errno) {
		return numberText(v.vault.Seal(v.name, v.pass, kind, until, text))
	}
}

// readRevise reads a record and a text.
func readRevise(r *reader) act {
	record, text := r.integer(r.next()), r.next()
	return func(v visit) (string, api.Errno) {
		return numberText(v.vault.Revise(v.name, v.pass, record, text))
	}
}

// readOpen reads a record and a version.
func readOpen(r *reader) act {
	record, version := r.integer(r.next()), r.integer(r.next())
	return func(v visit) (string, api.Errno) { return v.vault.Open(v.name, v.pass, record, version) }
}

// entries answers the entries of all records of the customer.
func (v visit) entries() (string, api.Errno) {
	entries, e := v.vault.List(v.name, v.pass)
	if e != api.OK {
		return "", e
	}
	return joined(entries, "; ", entryText), api.OK
}

// readRelease reads a record, to whom it is released, and the share word.
func readRelease(r *reader) act {
	record, to, share := r.integer(r.next()), r.next(), r.next()
	return silent(func(v visit) api.Errno { return v.vault.Release(v.name, v.pass, record, to, share) })
}

// readBorrow reads who released a record, the record, and the share word.
func readBorrow(r *reader) act {
	from, record, share := r.next(), r.integer(r.next()), r.next()
	return func(v visit) (string, api.Errno) { return v.vault.Borrow(v.name, v.pass, from, record, share) }
}
