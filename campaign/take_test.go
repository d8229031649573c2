package campaign_test

import (
	"strconv"
	"strings"
	"testing"

	"venturi/api"
	"venturi/campaign"
	"venturi/vault"
)

// P12.8: what a point needs, one after another; the book comes first, and errors of the book come behind the fan.
func TestNeedsOfTake(t *testing.T) {
	take := "ada:x take 9 1,1 0 9:1"
	s := siteOf(t, "hall enrol ada x", "hall enrol bob y")
	do(t, s, by("bob:y", double, "model 0 0,0,0", "chain -", "matrix 1 0/0 0")...)
	for _, line := range []string{"hall lock 1 1 1 1 1", "ada:x " + double, "ada:x model 0 0,0,0", "ada:x matrix 1 0/0 0", "ada:x chain -", "hall move start"} {
		refuses(t, s, fails(take, api.ErrState))
		do(t, s, line)
	}
	refuses(t, s, fails(take, api.ErrRange))
	for missing := range 4 {
		s := bare(t)
		orders := []string{double, "model 0 0,0,0", "chain -", "matrix 1 0/0 0"}
		do(t, s, by("ada:x", append(orders[:missing:missing], orders[missing+1:]...)...)...)
		refuses(t, s, fails("ada:x take 0 6 2 -", api.ErrState))
		do(t, s, "ada:x "+orders[missing])
		play(t, s, done("ada:x take 0 6 2 -", "1 -"))
	}
}

// P12.8: the errors of Seal come last; the point stays open.
func TestErrorsOfSeal(t *testing.T) {
	s := bare(t)
	do(t, s, by("ada:x", double, "model 0 0,0,0", "chain c=q^64|f0:0..3", "matrix 1 0/0;0/0 0")...)
	point := strings.Fields(s.Do("ada:x next").Text)[0]
	// 32 digits to the power 64 are 2017 or more, twice.
	long := "ada:x take " + point + " 6 " + strings.Repeat("3", 32) + " -"
	refuses(t, s, fails(strings.Replace(long, " 6 ", " 8 ", 1), api.ErrDomain), fails(long, api.ErrLong))
	for range 29 {
		do(t, s, "ada:x seal note 9 text")
	}
	play(t, s, done("ada:x take "+point+" 6 2 -", "30 c=18446744073709551616..18446744073709551616"))
	point = strings.Fields(s.Do("ada:x next").Text)[0]
	long = "ada:x take " + point + " 6 " + strings.Repeat("3", 32) + " -"
	refuses(t, s,
		fails(strings.Replace(long, " 6 ", " 8 ", 1), api.ErrDomain),
		fails(long, api.ErrLong),
		fails("ada:x take "+point+" 6 2 -", api.ErrFull),
	)
	do(t, s, "ada:x declare "+point+" full")
	play(t, s, done("ada:x again 30", "same"))
}

// P12.8: the text has at most MaxText bytes.
func TestLongTexts(t *testing.T) {
	for places, want := range map[int]api.Errno{500: api.OK, 990: api.OK, 991: api.ErrLong, 1000: api.ErrLong} {
		s := bare(t)
		power := "10^50*"
		formula := strings.Repeat(power, (places-1)/50) + "10^" + strconv.Itoa((places-1)%50)
		do(t, s, by("ada:x", double, "model 0 0,0,0", "chain c="+formula, "matrix 1 0/0 0")...)
		number := "1" + strings.Repeat("0", places-1)
		results := "c=" + number + ".." + number
		text := "1 1 1 0 0 6 2 - " + results
		if (len(text) <= 2000) != (want == api.OK) {
			t.Fatal(places, "digits are", len(text), "bytes")
		}
		if want != api.OK {
			refuses(t, s, fails("ada:x take 0 6 2 -", want))
			continue
		}
		play(t, s, done("ada:x take 0 6 2 -", "1 "+results), done("ada:x open 1 1", text), done("ada:x again 1", "same"))
	}
}

// P12.8: the record, beside a vault in which the same texts are sealed.
func TestRecordsOfPoints(t *testing.T) {
	s, v := bare(t), vault.New()
	v.Enrol("ada", "x")
	seal := func(line, text, answer string) {
		t.Helper()
		n, e := v.Seal("ada", "x", "point", min(v.Day()+3650, 1000000), text)
		if e != api.OK {
			t.Fatal("Seal", e)
		}
		play(t, s, done("ada:x take "+line, strconv.Itoa(n)+" "+answer), done("ada:x open "+strconv.Itoa(n)+" 1", text))
		isChain(t, s, v)
	}
	do(t, s, by("ada:x", double, "model 0 0,0,0", "chain -", "matrix 2,3 1,2/0;0,1/7 0")...)
	seal("1 6 2 -", "1 1 1 1 0,1 6 2 - -", "-")
	do(t, s, "hall day 17", "ada:x chain c=f0;d=l1-1/3", "ada:x "+double, "ada:x "+double)
	v.Advance(17)
	// Words stand as they are in the line.
	seal("0 6.0..16/2 2.50 0:-0,2:1/2", "3 1 2 0 1,2 6.0..16/2 2.50 0:-0,2:1/2 c=3..4,d=5/3..5/3", "c=3..4,d=5/3..5/3")
	do(t, s, "hall day 996350", "ada:x matrix 1,1 0,0/0;0,0/1;0,0/2 0", "ada:x model 1 0,0,0")
	v.Advance(996350)
	seal("2 6 2 -", "3 2 2 2 0,0 6 2 - c=3..3,d=-1/3..-1/3", "c=3..3,d=-1/3..-1/3")
	do(t, s, "hall day 996351")
	v.Advance(996351)
	seal("1 6 2 -", "3 2 2 1 0,0 6 2 - c=3..3,d=-1/3..-1/3", "c=3..3,d=-1/3..-1/3")
	do(t, s, "hall day 1000000")
	v.Advance(1000000)
	seal("0 6 2 -", "3 2 2 0 0,0 6 2 - c=3..3,d=-1/3..-1/3", "c=3..3,d=-1/3..-1/3")
	play(t, s, done("ada:x list", "1 point 1 0 3650 gone; 2 point 1 17 3667 gone; 3 point 1 996350 1000000; 4 point 1 996351 1000000; 5 point 1 1000000 1000000"))
}

// isChain checks that the vault of a site has the links of another vault.
func isChain(t *testing.T, s *campaign.Site, v *vault.Vault) {
	t.Helper()
	links := v.Dump()
	last := uint64(7)
	if len(links) > 0 {
		last = links[len(links)-1].Chain
	}
	play(t, s, done("hall chain", strconv.Itoa(len(links))+" "+strconv.FormatUint(last, 10)))
}

// P12.9
func TestAgain(t *testing.T) {
	s := ready(t)
	do(t, s, "hall enrol bob y", "ada:x take 1 6..8 2 -", "ada:x seal point 3650 a,b", "ada:x take 0 6 2 -")
	refuses(t, s,
		fails("ada:x again 0", api.ErrRange),
		fails("ada:x again -1", api.ErrRange),
		fails("ada:x again 4", api.ErrRange),
		fails("ada:x again 2", api.ErrForm),
		fails("bob:y again 1", api.ErrRange),
		fails("ada:y again 1", api.ErrPass),
	)
	// The first version is that of the point, whatever follows it.
	do(t, s, "ada:x revise 1 other", "ada:x revise 2 again")
	play(t, s,
		done("ada:x again 1", "same"),
		fails("ada:x again 2", api.ErrForm),
		done("ada:x again 3", "same"),
		done("hall day 3650", ""),
		done("ada:x again 1", "same"),
		done("hall day 3651", ""),
		fails("ada:x again 1", api.ErrGone),
		fails("ada:x again 2", api.ErrGone),
		fails("ada:x again 3", api.ErrGone),
		fails("ada:x again 4", api.ErrRange),
	)
}

// P12.9: texts that are not those of points; a line seals single words alone.
func TestAgainOfTexts(t *testing.T) {
	s := siteOf(t, "hall enrol ada x")
	for i, text := range []string{"-", "1", "1,1,1,1,1,6..8,2,-,c=1.5..2", "1\t1\t1\t1\t1\t6..8\t2\t-\tc=1.5..2", "1\n1\n1\n1\n1\n6..8\n2\n-\nc=1.5..2"} {
		play(t, s, done("ada:x seal point 0 "+text, strconv.Itoa(i+1)), fails("ada:x again "+strconv.Itoa(i+1), api.ErrForm))
	}
}

// P12.9: neither the fan nor a book nor open points are needed, and nothing is changed.
func TestAgainLater(t *testing.T) {
	s := ready(t)
	do(t, s, "ada:x take 1 6..8 2 -", "hall move stop", "ada:x command 9", "ada:x declare 0 leak", "ada:x matrix 5 4/0 3", "ada:x model 7 1,2,3", "ada:x chain c=f0*9+l0", "ada:x balance 1 1 0:1 7 0..99 -")
	before := view(s, "ada")
	play(t, s, done("ada:x again 1", "same"))
	for i, a := range view(s, "ada") {
		isReply(t, "again", a, before[i])
	}
}

// P12.9, P12.15: points are the same again, whatever was set up, taken or sealed since, until they expire.
func TestSameAgain(t *testing.T) {
	answers := map[api.Reply]int{}
	for r := range cases(40) {
		s := campaign.New()
		do(t, s, session(r, 200)...)
		for _, who := range customers() {
			for i := range strings.Count(s.Do(who+" list").Text, ";") + 1 {
				record := strconv.Itoa(i + 1)
				want := s.Do(who + " open " + record + " 1")
				switch {
				case strings.Contains(want.Text, " "):
					want.Text = "same"
				case want.Err == api.OK:
					want = api.Reply{Err: api.ErrForm}
				}
				isReply(t, "again", s.Do(who+" again "+record), want)
				answers[want]++
			}
		}
	}
	for _, a := range []api.Reply{{Text: "same"}, {Err: api.ErrForm}, {Err: api.ErrGone}} {
		if answers[a] < 10 {
			t.Error("few answers", a, answers[a])
		}
	}
}
