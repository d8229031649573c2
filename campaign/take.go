package campaign

import (
	"strconv"
	"strings"

	"venturi/api"
)

// pointKind is the kind of the records of points.
const pointKind = "point"

// pointWords is how many words the text of a point has. All other texts that lines seal are single words.
const pointWords = 9

// isReady reports whether the customer has all that a point needs, and the fan runs.
func (v visit) isReady() bool {
	c := v.own
	return v.hasBook() && v.hasRig() && len(c.models) > 0 && len(c.chains) > 0 && v.hasSection() && v.section.runs()
}

// readTake reads a point and what was measured.
func readTake(r *reader) act {
	point, m := r.integer(r.next()), r.measured()
	return func(v visit) (string, api.Errno) { return v.take(point, m) }
}

// take reduces a point, seals it and makes it taken, and answers the number of the record and the results; the errors of Take of the book, of the reduction, and of Seal.
func (v visit) take(point int, m measured) (string, api.Errno) {
	c := v.own
	if e := c.book.mayTake(point); e != api.OK {
		return "", e
	}
	used := setup{len(c.rigs), len(c.models), len(c.chains)}
	levels := c.book.settings[point].Levels
	results, e := c.reduce(used, levels, m)
	if e != api.OK {
		return "", e
	}
	until := min(v.vault.Day()+api.KeptDays, api.MaxDay)
	record, e := v.vault.Seal(v.name, v.pass, pointKind, until, pointText(used, point, levels, m, results))
	if e != api.OK {
		return "", e
	}
	c.book.Take(point)
	return strconv.Itoa(record) + " " + results, api.OK
}

// pointText returns the text with which a point is sealed.
func pointText(used setup, point int, levels []int, m measured, results string) string {
	numbers := []int{used.rig, used.model, used.chain, point}
	words := []string{joined(numbers, " ", strconv.Itoa), orNothing(levelsText(levels)), m.words, results}
	return strings.Join(words, " ")
}

// readAgain reads the number of a record.
func readAgain(r *reader) act {
	record := r.integer(r.next())
	return func(v visit) (string, api.Errno) { return v.again(record) }
}

// again reduces the point of a record again, and answers whether the results are those that were sealed; the errors of Open, ErrForm if the record is not that of a point.
func (v visit) again(record int) (string, api.Errno) {
	text, e := v.vault.Open(v.name, v.pass, record, 1)
	if e != api.OK {
		return "", e
	}
	r := &reader{words: strings.Split(text, " ")}
	if len(r.words) != pointWords {
		return "", api.ErrForm
	}
	used := setup{r.integer(r.next()), r.integer(r.next()), r.integer(r.next())}
	r.next() // the point: the levels of its number are others in another book
	levels := listOrNothing(r.next(), ",", r.integer)
	results, e := v.own.reduce(used, levels, r.measured())
	if e != api.OK || results != r.next() {
		return "other", api.OK
	}
	return "same", api.OK
}
