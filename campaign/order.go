package campaign

import "venturi/api"

// act is what a line does; it returns the answer.
type act func(v visit) (string, api.Errno)

// order is what a line can order.
type order struct {
	words int                 // how many words there are behind it
	needs func(v visit) bool  // whether there is what it needs; nil if it needs nothing
	read  func(r *reader) act // reads its words
}

// hallOrders returns the orders of the hall.
func hallOrders() map[string]order {
	return map[string]order{
		"lock":  {words: 5, read: readLock},
		"move":  {words: 1, needs: visit.hasSection, read: readMove},
		"look":  {needs: visit.hasSection, read: just(visit.look)},
		"moves": {needs: visit.hasSection, read: just(visit.moves)},
		"safe":  {needs: visit.hasSection, read: just(visit.safe)},
		"enrol": {words: 2, read: readEnrol},
		"day":   {words: 1, read: readDay},
		"chain": {read: just(visit.links)},
	}
}

// customerOrders returns the orders of customers.
func customerOrders() map[string]order {
	return map[string]order{
		"balance": {words: 6, read: readBalance},
		"model":   {words: 2, read: readModel},
		"chain":   {words: 1, read: readChain},
		"command": {words: 1, needs: visit.hasRig, read: readCommand},
		"matrix":  {words: 3, needs: visit.mayPlan, read: readMatrix},
		"next":    {needs: visit.hasBook, read: just(visit.nextPoint)},
		"take":    {words: 4, needs: visit.isReady, read: readTake},
		"declare": {words: 2, needs: visit.hasBook, read: readDeclare},
		"reopen":  {words: 1, needs: visit.hasBook, read: readReopen},
		"book":    {needs: visit.hasBook, read: just(visit.points)},
		"again":   {words: 1, read: readAgain},
		"seal":    {words: 3, read: readSeal},
		"revise":  {words: 2, read: readRevise},
		"open":    {words: 2, read: readOpen},
		"list":    {read: just(visit.entries)},
		"release": {words: 3, read: readRelease},
		"borrow":  {words: 3, read: readBorrow},
	}
}

// just returns how an order without words is read.
func just(do act) func(r *reader) act {
	return func(*reader) act { return do }
}

// silent returns an act with an empty answer.
func silent(do func(v visit) api.Errno) act {
	return func(v visit) (string, api.Errno) { return "", do(v) }
}

// read returns the order that words begin with, and what it does with the other ones; or false if they do not have its form.
func read(orders map[string]order, words []string) (order, act, bool) {
	o, some := orders[words[0]]
	r := &reader{words: words[1:]}
	if !some || len(r.words) != o.words {
		return order{}, nil, false
	}
	do := o.read(r)
	return o, do, !r.wrong
}
