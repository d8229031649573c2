package vault_test

import (
	"encoding/binary"
	"slices"
	"strings"
	"testing"

	"venturi/api"
	"venturi/vault"
)

// keeper is a vault, or a plain one.
type keeper interface {
	Enrol(name, pass string) api.Errno
	Day() int
	Advance(day int) api.Errno
	Seal(name, pass, kind string, until int, text string) (int, api.Errno)
	Revise(name, pass string, number int, text string) (int, api.Errno)
	Open(name, pass string, number, version int) (string, api.Errno)
	List(name, pass string) ([]api.Entry, api.Errno)
	Release(name, pass string, number int, to, share string) api.Errno
	Borrow(name, pass, from string, number int, share string) (string, api.Errno)
	Dump() []api.Link
}

// plainSealKey returns the seal key of a link.
func plainSealKey(key uint64, l api.Link) uint64 {
	data := []byte{byte(l.Op)}
	data = binary.BigEndian.AppendUint32(data, uint32(l.Number))
	data = binary.BigEndian.AppendUint32(data, uint32(l.Version))
	if l.Op == 5 {
		data = append(data, l.Kind...)
	}
	return plainDigest(key, data)
}

// plainChain returns the Chain of a link.
func plainChain(before uint64, l api.Link) uint64 {
	data := []byte(string([]byte{byte(l.Op)}) + l.Customer + "\x00" + l.Kind + "\x00")
	data = binary.BigEndian.AppendUint32(data, uint32(l.Number))
	data = binary.BigEndian.AppendUint32(data, uint32(l.Version))
	data = binary.BigEndian.AppendUint32(data, uint32(l.Day))
	data = binary.BigEndian.AppendUint32(data, uint32(l.Until))
	data = binary.BigEndian.AppendUint64(data, l.Tag)
	return plainDigest(before, append(data, l.Body...))
}

// plainPadded returns the padded form of a text.
func plainPadded(text string) []byte {
	data := append([]byte{byte(len(text) >> 8), byte(len(text))}, text...)
	for len(data)%32 != 0 {
		data = append(data, 0)
	}
	return data
}

// plainName reports whether a text is a name.
func plainName(text string) bool {
	const letters = "abcdefghijklmnopqrstuvwxyz"
	return len(text) <= 20 && strings.IndexAny(text, letters) == 0 && strings.Trim(text, letters+"0123456789_") == ""
}

// plainPass reports whether a text is a passphrase.
func plainPass(text string) bool {
	return len(text) >= 1 && len(text) <= 40 && strings.Count(text, "\x00") == 0
}

// plainRecord is a record that is not sealed.
type plainRecord struct {
	kind       string
	day, until int
	texts      []string
}

// plainShare is a share that is not sealed.
type plainShare struct {
	from, to   string
	number     int
	text, word string
}

// plain is a vault that keeps its texts as they are; its shares are a list, the last one of which counts.
type plain struct {
	days    []int
	passes  map[string]string
	records map[string][]plainRecord
	shares  []plainShare
	links   []api.Link
}

func newPlain() *plain {
	return &plain{passes: map[string]string{}, records: map[string][]plainRecord{}}
}

func (p *plain) Dump() []api.Link { return p.links }

func (p *plain) Day() int {
	if len(p.days) == 0 {
		return 0
	}
	return p.days[len(p.days)-1]
}

// link adds a link.
func (p *plain) link(l api.Link) {
	before := uint64(7)
	if len(p.links) > 0 {
		before = p.links[len(p.links)-1].Chain
	}
	l.Chain = plainChain(before, l)
	p.links = append(p.links, l)
}

// seal adds a link with a text.
func (p *plain) seal(key uint64, text string, l api.Link) {
	l.Day = p.Day()
	seal := plainSealKey(key, l)
	l.Body = plainCipher(seal, plainPadded(text))
	l.Tag = plainDigest(seal, l.Body)
	p.link(l)
}

// key returns the key of a customer.
func (p *plain) key(name string) uint64 {
	return plainDigest(1, []byte(name+"\x00"+p.passes[name]))
}

// who returns the errors of a name and a passphrase.
func (p *plain) who(name, pass string) api.Errno {
	right, some := p.passes[name]
	switch {
	case !some:
		return api.ErrNone
	case pass != right:
		return api.ErrPass
	}
	return api.OK
}

func (p *plain) Enrol(name, pass string) api.Errno {
	switch _, some := p.passes[name]; {
	case !plainName(name) || !plainPass(pass):
		return api.ErrForm
	case some:
		return api.ErrTwice
	case len(p.passes) == 20:
		return api.ErrFull
	}
	p.passes[name] = pass
	p.link(api.Link{Op: 1, Customer: name, Tag: plainDigest(2, binary.BigEndian.AppendUint64(nil, p.key(name)))})
	return api.OK
}

func (p *plain) Advance(day int) api.Errno {
	switch {
	case day <= p.Day() || day > 1000000:
		return api.ErrRange
	case len(p.days) == 2000:
		return api.ErrFull
	}
	p.days = append(p.days, day)
	p.link(api.Link{Op: 2, Day: day})
	return api.OK
}

func (p *plain) Seal(name, pass, kind string, until int, text string) (int, api.Errno) {
	e, number := p.who(name, pass), len(p.records[name])+1
	switch {
	case e != api.OK:
		return 0, e
	case !plainName(kind):
		return 0, api.ErrForm
	case until < p.Day() || until > 1000000:
		return 0, api.ErrRange
	case len(text) > 2000:
		return 0, api.ErrLong
	case number > 30:
		return 0, api.ErrFull
	}
	p.records[name] = append(p.records[name], plainRecord{kind, p.Day(), until, []string{text}})
	p.seal(p.key(name), text, api.Link{Op: 3, Customer: name, Kind: kind, Number: number, Version: 1, Until: until})
	return number, api.OK
}

// record returns a record of a customer with ErrRange, ErrGone.
func (p *plain) record(name string, number int) (*plainRecord, api.Errno) {
	if number < 1 || number > len(p.records[name]) {
		return nil, api.ErrRange
	}
	r := &p.records[name][number-1]
	if p.Day() > r.until {
		return r, api.ErrGone
	}
	return r, api.OK
}

func (p *plain) Revise(name, pass string, number int, text string) (int, api.Errno) {
	if e := p.who(name, pass); e != api.OK {
		return 0, e
	}
	r, e := p.record(name, number)
	switch {
	case e != api.OK:
		return 0, e
	case len(text) > 2000:
		return 0, api.ErrLong
	case len(r.texts) == 20:
		return 0, api.ErrFull
	}
	r.texts = append(r.texts, text)
	p.seal(p.key(name), text, api.Link{Op: 4, Customer: name, Number: number, Version: len(r.texts)})
	return len(r.texts), api.OK
}

func (p *plain) Open(name, pass string, number, version int) (string, api.Errno) {
	if e := p.who(name, pass); e != api.OK {
		return "", e
	}
	r, e := p.record(name, number)
	switch {
	case e != api.OK:
		return "", e
	case version < 0 || version > len(r.texts):
		return "", api.ErrRange
	case version == 0:
		version = len(r.texts)
	}
	return r.texts[version-1], api.OK
}

func (p *plain) List(name, pass string) ([]api.Entry, api.Errno) {
	if e := p.who(name, pass); e != api.OK {
		return nil, e
	}
	var l []api.Entry
	for i, r := range p.records[name] {
		l = append(l, api.Entry{Number: i + 1, Versions: len(r.texts), Day: r.day, Until: r.until, Kind: r.kind, Gone: p.Day() > r.until})
	}
	return l, api.OK
}

func (p *plain) Release(name, pass string, number int, to, share string) api.Errno {
	if e := p.who(name, pass); e != api.OK {
		return e
	}
	r, e := p.record(name, number)
	made := 0
	for _, s := range p.shares {
		if s.from == name {
			made++
		}
	}
	switch _, some := p.passes[to]; {
	case e != api.OK:
		return e
	case !some:
		return api.ErrNone
	case to == name:
		return api.ErrTwice
	case !plainPass(share):
		return api.ErrForm
	case made == 20:
		return api.ErrFull
	}
	text := r.texts[len(r.texts)-1]
	p.shares = append(p.shares, plainShare{name, to, number, text, share})
	p.seal(plainDigest(3, []byte(share)), text, api.Link{Op: 5, Customer: name, Kind: to, Number: number, Version: len(r.texts)})
	return api.OK
}

func (p *plain) Borrow(name, pass, from string, number int, share string) (string, api.Errno) {
	if e := p.who(name, pass); e != api.OK {
		return "", e
	}
	for _, s := range slices.Backward(p.shares) {
		if s.from != from || s.to != name || s.number != number {
			continue
		}
		_, e := p.record(from, number)
		switch {
		case share != s.word:
			return "", api.ErrPass
		case e != api.OK:
			return "", e
		}
		return s.text, api.OK
	}
	return "", api.ErrNone
}

// P11.3 to P11.8: random calls with a vault beside a plain one.
func TestBesidePlain(t *testing.T) {
	counts := map[string]int{}
	for r := range cases(300) {
		orders, answers, v := anyOrders(r, []string{"ada", "bob", "c_3"}, 150)
		p := newPlain()
		for i, o := range orders {
			answer := o.do(p)
			if answers[i] != answer {
				t.Fatal(o.who, o.what, "returned", answers[i], "instead of", answer)
			}
			_, e, _ := strings.Cut(answer, "error ")
			counts[o.what+" "+e]++
		}
		isSame(t, "Dump", v.Dump(), p.links)
		is(t, "Day", v.Day(), api.OK, p.Day())
		is(t, "Check", vault.Check(v.Dump()), api.OK, -1)
	}
	for _, what := range []string{
		"advance 0", "advance 3", "enrol 6", "list 0", "list 110", "seal 0", "seal 3", "seal 4", "seal 5", "seal 110",
		"revise 0", "revise 3", "revise 5", "revise 110", "revise 111", "open 0", "open 3", "open 110", "open 111",
		"release 0", "release 3", "release 4", "release 6", "release 7", "release 110", "release 111",
		"borrow 0", "borrow 7", "borrow 110", "borrow 111",
	} {
		if counts[what] < 10 {
			t.Error("few calls returned", what, counts)
		}
	}
}
