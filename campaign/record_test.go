package campaign_test

import (
	"strconv"
	"strings"
	"testing"

	"venturi/api"
	"venturi/campaign"
	"venturi/vault"
)

func TestEnrol(t *testing.T) {
	s := campaign.New()
	for _, words := range []string{"Ada x", "1a x", "ada: x", "ada:y x", "a,b x", "a_name_of_21_bytes___ x", "ada a\x00", "ada " + strings.Repeat("p", 41)} {
		refuses(t, s, fails("hall enrol "+words, api.ErrForm))
	}
	play(t, s, done("hall enrol ada "+strings.Repeat("p", 40), ""))
	refuses(t, s, fails("hall enrol ada x", api.ErrTwice))
	for i := 1; i < 20; i++ {
		play(t, s, done("hall enrol c"+strconv.Itoa(i)+" x", ""))
	}
	refuses(t, s, fails("hall enrol bob x", api.ErrFull), fails("hall enrol c1 x", api.ErrTwice), fails("bob:x list", api.ErrNone))
	play(t, s, done("ada:"+strings.Repeat("p", 40)+" list", ""), done("c19:x list", ""))
}

// An error of enrol leaves a customer as they were.
func TestEnrolTwice(t *testing.T) {
	s := ready(t)
	refuses(t, s, fails("hall enrol ada x", api.ErrTwice), fails("hall enrol ada y", api.ErrTwice), fails("hall enrol ada a\x00", api.ErrForm))
	play(t, s, done("ada:x next", "1 1"), done("ada:x model 0 0,0,0", "2"), fails("ada:y next", api.ErrPass))
}

func TestDay(t *testing.T) {
	s := campaign.New()
	refuses(t, s, fails("hall day 0", api.ErrRange), fails("hall day -5", api.ErrRange), fails("hall day 1000001", api.ErrRange))
	play(t, s, done("hall day 1", ""), done("hall day 5", ""))
	refuses(t, s, fails("hall day 5", api.ErrRange), fails("hall day 4", api.ErrRange))
	for i := range 1998 {
		play(t, s, done("hall day "+strconv.Itoa(6+i), ""))
	}
	refuses(t, s, fails("hall day 5000", api.ErrFull), fails("hall day 5", api.ErrRange))
}

func TestRecords(t *testing.T) {
	s, v := siteOf(t, "hall enrol ada x", "hall enrol bob y", "hall day 3"), vault.New()
	v.Enrol("ada", "x")
	v.Enrol("bob", "y")
	v.Advance(3)
	isChain(t, s, v)
	refuses(t, s,
		fails("ada:x seal Note 2 text", api.ErrForm),
		fails("ada:x seal note 2 text", api.ErrRange),
		fails("ada:x seal note 1000001 text", api.ErrRange),
		fails("ada:x revise 1 text", api.ErrRange),
		fails("ada:x open 1 0", api.ErrRange),
	)
	play(t, s,
		done("ada:x seal note 3 some,text", "1"),
		done("ada:x seal note 9 -", "2"),
		done("ada:x revise 2 \x00:\xff", "2"),
		done("ada:x revise 2 third", "3"),
		done("ada:x open 2 0", "third"),
		done("ada:x open 2 1", "-"),
		done("ada:x open 2 2", "\x00:\xff"),
		done("ada:x open 2 3", "third"),
		done("ada:x open 1 1", "some,text"),
		done("ada:x list", "1 note 1 3 3; 2 note 3 3 9"),
		done("bob:y list", ""),
		done("hall day 4", ""),
		done("ada:x list", "1 note 1 3 3 gone; 2 note 3 3 9"),
	)
	v.Seal("ada", "x", "note", 3, "some,text")
	v.Seal("ada", "x", "note", 9, "-")
	v.Revise("ada", "x", 2, "\x00:\xff")
	v.Revise("ada", "x", 2, "third")
	v.Advance(4)
	isChain(t, s, v)
	refuses(t, s,
		fails("ada:x open 2 4", api.ErrRange),
		fails("ada:x open 2 -1", api.ErrRange),
		fails("ada:x open 3 0", api.ErrRange),
		fails("ada:x open 0 0", api.ErrRange),
		fails("ada:x open 1 9", api.ErrGone),
		fails("ada:x revise 1 text", api.ErrGone),
		fails("bob:y open 2 0", api.ErrRange),
		fails("bob:y revise 2 text", api.ErrRange),
	)
	for i := 4; i <= 20; i++ {
		play(t, s, done("ada:x revise 2 text", strconv.Itoa(i)))
	}
	refuses(t, s, fails("ada:x revise 2 text", api.ErrFull))
	for i := 3; i <= 30; i++ {
		play(t, s, done("ada:x seal note 9 text", strconv.Itoa(i)))
	}
	refuses(t, s, fails("ada:x seal note 9 text", api.ErrFull))
	play(t, s, done("bob:y seal note 9 text", "1"))
}

func TestShares(t *testing.T) {
	s, v := siteOf(t, "hall enrol ada x", "hall enrol bob y", "ada:x seal note 9 one", "ada:x revise 1 two"), vault.New()
	v.Enrol("ada", "x")
	v.Enrol("bob", "y")
	v.Seal("ada", "x", "note", 9, "one")
	v.Revise("ada", "x", 1, "two")
	refuses(t, s,
		fails("ada:x release 2 bob word", api.ErrRange),
		fails("ada:x release 1 eve word", api.ErrNone),
		fails("ada:x release 1 Eve word", api.ErrNone),
		fails("ada:x release 1 ada word", api.ErrTwice),
		fails("ada:x release 1 bob wo\x00rd", api.ErrForm),
		fails("bob:y borrow ada 1 word", api.ErrNone),
		fails("bob:y borrow eve 1 word", api.ErrNone),
	)
	play(t, s, done("ada:x release 1 bob word", ""))
	v.Release("ada", "x", 1, "bob", "word")
	isChain(t, s, v)
	refuses(t, s,
		fails("bob:y borrow ada 1 other", api.ErrPass),
		fails("bob:y borrow ada 2 word", api.ErrNone),
		fails("ada:x borrow ada 1 word", api.ErrNone),
	)
	play(t, s,
		done("bob:y borrow ada 1 word", "two"),
		done("ada:x revise 1 three", "3"),
		done("bob:y borrow ada 1 word", "two"),
		done("ada:x release 1 bob other", ""),
		fails("bob:y borrow ada 1 word", api.ErrPass),
		done("bob:y borrow ada 1 other", "three"),
		done("bob:y list", ""),
	)
	for range 18 {
		play(t, s, done("ada:x release 1 bob word", ""))
	}
	refuses(t, s, fails("ada:x release 1 bob word", api.ErrFull))
	play(t, s, done("hall day 10", ""), fails("bob:y borrow ada 1 word", api.ErrGone), fails("ada:x release 1 bob word", api.ErrGone))
}

// A point can be released: the other customer sees its text.
func TestSharedPoint(t *testing.T) {
	s := ready(t)
	do(t, s, "hall enrol bob y", "ada:x take 1 6..8 2 -", "ada:x release 1 bob word")
	play(t, s, done("bob:y borrow ada 1 word", "1 1 1 1 1 6..8 2 - c=1.5..2"), fails("bob:y again 1", api.ErrRange))
}
