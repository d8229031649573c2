package campaign_test

import (
	"fmt"
	"math/big"
	"math/rand/v2"
	"slices"
	"strings"
	"testing"

	"venturi/api"
	"venturi/campaign"
	"venturi/exact"
)

// step is a line and its answer.
type step struct {
	line, text string
	err        api.Errno
}

// done is a line that is answered.
func done(line, text string) step { return step{line: line, text: text} }

// fails is a line with an error.
func fails(line string, err api.Errno) step { return step{line: line, err: err} }

// isReply compares an answer with what it should be.
func isReply(t *testing.T, line string, got, want api.Reply) {
	t.Helper()
	if got != want {
		t.Errorf("%q: the answer %q, error %d, instead of %q, error %d", line, got.Text, got.Err, want.Text, want.Err)
	}
}

// play carries out lines, and compares their answers.
func play(t *testing.T, s *campaign.Site, l ...step) {
	t.Helper()
	for _, x := range l {
		isReply(t, x.line, s.Do(x.line), api.Reply{Text: x.text, Err: x.err})
	}
}

// siteOf returns a site after lines without an error.
func siteOf(t *testing.T, lines ...string) *campaign.Site {
	t.Helper()
	s := campaign.New()
	do(t, s, lines...)
	return s
}

// do carries out lines that have no error.
func do(t *testing.T, s *campaign.Site, lines ...string) {
	t.Helper()
	for _, line := range lines {
		if a := s.Do(line); a.Err != api.OK {
			t.Fatalf("%q: error %d", line, a.Err)
		}
	}
}

// by puts who it is before orders.
func by(who string, orders ...string) []string {
	var lines []string
	for _, o := range orders {
		lines = append(lines, who+" "+o)
	}
	return lines
}

// double is a balance of one component whose reading is twice the load, from 0 to 10, with loads up to 9.
const double = "balance 1 1 0:1;0:2;0:4 2;4;8 0..10 1<=9;-1<=0"

// six is a balance whose readings are its loads, from -100 to 100.
const six = "balance 1,0,0,0,0,0;0,1,0,0,0,0;0,0,1,0,0,0;0,0,0,1,0,0;0,0,0,0,1,0;0,0,0,0,0,1" +
	" 1,0,0,0,0,0;0,1,0,0,0,0;0,0,1,0,0,0;0,0,0,1,0,0;0,0,0,0,1,0;0,0,0,0,0,1" +
	" 0:1;1:1;2:1;3:1;4:1;5:1" +
	" 1,0,0,0,0,0;0,1,0,0,0,0;0,0,1,0,0,0;0,0,0,1,0,0;0,0,0,0,1,0;0,0,0,0,0,1" +
	" -100..100,-100..100,-100..100,-100..100,-100..100,-100..100 -"

// bare returns a site with a running fan and the customer ada with nothing.
func bare(t *testing.T) *campaign.Site {
	t.Helper()
	return siteOf(t, "hall lock 1 1 1 1 1", "hall move start", "hall enrol ada x")
}

// ready returns a site with a running fan and the customer ada, who has a balance, a model without a weight, a chain, and a book of two points in the order 1, 0.
func ready(t *testing.T) *campaign.Site {
	t.Helper()
	s := bare(t)
	do(t, s, by("ada:x", double, "model 0 0,0,0", "chain c=f0/q|q:1..9", "matrix 2 0/0;1/0 0")...)
	return s
}

// view returns what can be seen of a site and some customers, each with the passphrase x.
func view(s *campaign.Site, names ...string) []api.Reply {
	lines := []string{"hall look", "hall moves", "hall chain"}
	for _, name := range names {
		lines = append(lines, by(name+":x", "list", "book", "next")...)
	}
	var seen []api.Reply
	for _, line := range lines {
		seen = append(seen, s.Do(line))
	}
	return seen
}

// refuses carries out lines with errors, and checks that nothing can be seen to change.
func refuses(t *testing.T, s *campaign.Site, l ...step) {
	t.Helper()
	for _, x := range l {
		before := view(s, "ada", "bob")
		play(t, s, x)
		if x.err == api.OK || !slices.Equal(view(s, "ada", "bob"), before) {
			t.Errorf("%q changes something", x.line)
		}
	}
}

// isForm reports whether a line of the customer ada has its form on a site; ErrForm must not be an error of its order.
func isForm(s *campaign.Site, order string) bool {
	return s.Do("ada:x "+order).Err != api.ErrForm
}

// each returns what a function makes of the numbers from 0 on.
func each(count int, of func(i int) string) []string {
	var l []string
	for i := range count {
		l = append(l, of(i))
	}
	return l
}

// rat returns the number of a numeral.
func rat(text string) *big.Rat {
	x, _ := new(big.Rat).SetString(text)
	return x
}

// num returns the value of a numeral that the test has written.
func num(text string) exact.Num {
	x, e := exact.Parse(text)
	if e != api.OK {
		panic("no numeral: " + text)
	}
	return x
}

// numsOf returns the values of numerals.
func numsOf(l []string) []exact.Num {
	var numbers []exact.Num
	for _, text := range l {
		numbers = append(numbers, num(text))
	}
	return numbers
}

// commas returns numbers with commas between.
func commas(l []int) string { return strings.ReplaceAll(strings.Trim(fmt.Sprint(l), "[]"), " ", ",") }

// anyOf returns one of some values.
func anyOf[T any](r *rand.Rand, l ...T) T { return l[r.IntN(len(l))] }

// anyList returns texts of a function with a sign between two of them.
func anyList(r *rand.Rand, count int, sign string, text func() string) string {
	l := make([]string, count)
	for i := range l {
		l[i] = text()
	}
	return strings.Join(l, sign)
}

// cases yields as many random sources.
func cases(count int) func(yield func(*rand.Rand) bool) {
	return func(yield func(*rand.Rand) bool) {
		r := rand.New(rand.NewPCG(12, 12))
		for range count {
			if !yield(r) {
				return
			}
		}
	}
}
