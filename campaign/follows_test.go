package campaign_test

import (
	"fmt"
	"math/rand/v2"
	"slices"
	"strconv"
	"strings"
	"testing"

	"venturi/api"
	"venturi/campaign"
)

// customers are those of random sessions, as their lines begin.
func customers() []string { return []string{"ada:x", "bob:y", "hall:z"} }

// anyHallOrder returns an order of the hall.
func anyHallOrder(r *rand.Rand, day int) string {
	switch r.IntN(8) {
	case 0:
		return "day " + strconv.Itoa(day+r.IntN(300))
	case 1:
		return anyOf(r, "look", "moves", "safe", "chain")
	case 2:
		return "move " + anyOf(r, "stop", "tick", "open0", "close0", "enter0", "leave0", "jump")
	default:
		return "move " + anyOf(r, "start", "start", "tick", "close0", "leave0")
	}
}

// anySetUp returns an order by which a customer sets something up.
func anySetUp(r *rand.Rand) string {
	number := func() string { return strconv.Itoa(r.IntN(9)-4) + anyOf(r, "", ".5", "/3") }
	switch r.IntN(6) {
	case 0:
		return fmt.Sprint("balance 1;2 1 0:1;0:2;0:3 ", 3+r.IntN(2), ";7;", 12+r.IntN(3), " 0..", 3+r.IntN(3), " ", anyOf(r, "-", "1<=4", "1<=9;-1<=0", "-1<=-1"))
	case 1:
		return anyOf(r, double, "balance 1,0;0,1 1,0;0,1 0:1;1:1;0:2,1:3 2,0;0,3;4,9.1 -4..4,-4..4 -")
	case 2:
		return "model " + number() + " " + anyList(r, 3, ",", number)
	case 3:
		return "chain " + anyOf(r, "-", "c=f0/q", "c=f0/q|q:1..9", "c=f0*l0;d=sqrt(abs(c))", "c=f1", "c=f0|f0:0..2", "c=w(q)")
	case 4:
		return "command " + anyOf(r, number(), number(), number()+","+number())
	default:
		settings := func() string { return fmt.Sprint(r.IntN(3), "/", r.IntN(2)) }
		return fmt.Sprint("matrix ", anyOf(r, 2, 3, 3), " ", anyList(r, 1+r.IntN(3), ";", settings), " ", r.IntN(40)-1)
	}
}

// anyPointOrder returns an order of a point.
func anyPointOrder(r *rand.Rand) string {
	point := strconv.Itoa(r.IntN(4))
	reading := func() string { return anyOf(r, "3", "6..7", "4.5..14/3", "-1..0", "9", "0") }
	switch r.IntN(12) {
	case 0:
		return anyOf(r, "next", "book")
	case 1:
		return "declare " + point + " " + anyOf(r, "leak", "rain", "Leak")
	case 2:
		return "reopen " + point
	case 3:
		return "again " + strconv.Itoa(r.IntN(5))
	default:
		return "take " + point + " " + anyList(r, anyOf(r, 1, 1, 1, 2), ",", reading) + " " + anyOf(r, "1", "2", "1..3", "0..1", "20") + " " + anyOf(r, "-", "1:1/3", "0:1,2:-2", "3:1")
	}
}

// anyRecordOrder returns an order of a record.
func anyRecordOrder(r *rand.Rand, day int) string {
	record, other := anyOf(r, "1", "1", "1", "2", "3"), anyOf(r, "ada", "bob", "hall", "eve")
	switch r.IntN(8) {
	case 0:
		return "seal " + anyOf(r, "note", "point", "Note") + " " + strconv.Itoa(day+r.IntN(100)-1) + " text" + record
	case 1:
		return "revise " + record + " later" + record
	case 2:
		return "open " + record + " " + strconv.Itoa(r.IntN(3))
	case 3:
		return "list"
	case 4, 5:
		return "release " + record + " " + other + " " + anyOf(r, "word", "word", "\x00")
	default:
		return "borrow " + other + " " + record + " " + anyOf(r, "word", "word", "other")
	}
}

// anyLine returns a line of the hall or of a customer.
func anyLine(r *rand.Rand, day int) string {
	who := anyOf(r, customers()...)
	switch r.IntN(20) {
	case 0, 1, 2, 3, 4:
		return "hall " + anyHallOrder(r, day)
	case 5, 6, 7:
		return who + " " + anySetUp(r)
	case 8, 9, 10, 11, 12:
		return who + " " + anyRecordOrder(r, day)
	case 13:
		return anyOf(r, "ada:y list", "eve:x next", "hall see", "", "ada next", who+" list 1")
	default:
		return who + " " + anyPointOrder(r)
	}
}

// lines returns lines of a random session: at first, all is set up.
func lines(r *rand.Rand, count int) []string {
	all := []string{"hall lock 1 1 1 1 1", "hall enrol ada x", "hall enrol bob y", "hall enrol hall z", "hall move start"}
	for _, who := range customers() {
		all = append(all, by(who, double, "model 0 0,0,0", "chain c=f0/q", "matrix 2 0/0;1/1;1/0 3")...)
	}
	day := 0
	for range count {
		line := anyLine(r, day)
		if text, some := strings.CutPrefix(line, "hall day "); some {
			day, _ = strconv.Atoi(text)
		}
		all = append(all, line)
	}
	return all
}

// session returns the lines of a random session that have no error.
func session(r *rand.Rand, count int) []string {
	all := lines(r, count)
	answers := campaign.Play(all)
	var kept []string
	for i, line := range all {
		if answers[i].Err == api.OK {
			kept = append(kept, line)
		}
	}
	return kept
}

// P12.1, R2: with an error nothing changes, so that all other lines are answered the same without those that have one.
func TestWithoutErrors(t *testing.T) {
	errors := map[api.Errno]int{}
	orders := map[string]int{}
	for r := range cases(40) {
		all := lines(r, 300)
		answers := campaign.Play(all)
		s := campaign.New()
		for i, line := range all {
			errors[answers[i].Err]++
			if answers[i].Err != api.OK {
				if answers[i].Text != "" {
					t.Errorf("%q has the text %q beside an error", line, answers[i].Text)
				}
				continue
			}
			who, rest, _ := strings.Cut(line, " ")
			orders[strconv.FormatBool(who == "hall")+strings.Fields(rest)[0]]++
			isReply(t, line, s.Do(line), answers[i])
		}
	}
	for _, e := range []api.Errno{api.ErrArg, api.ErrRange, api.ErrForm, api.ErrTwice, api.ErrNone, api.ErrFull, api.ErrState, api.ErrEmpty, api.ErrOver, api.ErrBefore, api.ErrDomain, api.ErrZero, api.ErrPass, api.ErrGone} {
		if errors[e] == 0 {
			t.Error("no error", e)
		}
	}
	if len(orders) != 25 {
		t.Error("not all orders", orders)
	}
}

// P1: the same lines have the same answers.
func TestSameLines(t *testing.T) {
	for r := range cases(20) {
		all := lines(r, 100)
		if !slices.Equal(campaign.Play(all), campaign.Play(all)) {
			t.Error("other answers")
		}
	}
}

// releasers returns the customers who release something to one of them.
func releasers(all []string, answers []api.Reply, to string) []string {
	var found []string
	for i, line := range all {
		words := strings.Split(line, " ")
		if answers[i].Err == api.OK && len(words) == 5 && words[1] == "release" && words[3] == to {
			found = append(found, words[0])
		}
	}
	return found
}

// P12.14: without the lines of other customers who release nothing to them, a customer has the same answers.
func TestApart(t *testing.T) {
	left, borrowed := 0, 0
	for r := range cases(100) {
		all := lines(r, 150)
		answers := campaign.Play(all)
		for _, who := range customers() {
			name, _, _ := strings.Cut(who, ":")
			near := append(releasers(all, answers, name), who, "hall")
			s := campaign.New()
			for i, line := range all {
				first, rest, _ := strings.Cut(line, " ")
				if slices.Contains(customers(), first) && !slices.Contains(near, first) {
					left++
					continue
				}
				a := s.Do(line)
				if first == who {
					isReply(t, line, a, answers[i])
				}
				if first == who && strings.HasPrefix(rest, "borrow") && a.Err == api.OK {
					borrowed++
				}
			}
		}
	}
	if left < 5000 || borrowed < 5 {
		t.Error("few lines", left, borrowed)
	}
}

// P12.14: set-ups, books and records of two customers with the same numbers do not meet.
func TestSameNumbers(t *testing.T) {
	s := bare(t)
	do(t, s, "hall enrol bob y")
	do(t, s, by("ada:x", double, "model 0 0,0,0", "chain c=f0/q", "matrix 2 1/0 0")...)
	do(t, s, by("bob:y", "balance 1 1 0:1;0:2 1;2 0..10 -", "model 1 0,0,0", "chain d=f0-l0", "matrix 2 0/0 0", "command 99")...)
	play(t, s,
		fails("ada:x command 99", api.ErrOver),
		done("bob:y take 0 5 1 1:1", "1 d=4..4"),
		done("ada:x book", "0 open"),
		done("ada:x take 0 5 1 1:1", "1 c=2.5..2.5"),
		done("ada:x again 1", "same"),
		done("bob:y again 1", "same"),
		done("ada:x open 1 1", "1 1 1 0 1 5 1 1:1 c=2.5..2.5"),
		done("bob:y open 1 1", "1 1 1 0 0 5 1 1:1 d=4..4"),
	)
}
