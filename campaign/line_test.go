package campaign_test

import (
	"slices"
	"strings"
	"testing"

	"venturi/api"
	"venturi/campaign"
)

// hallExamples are orders of the hall, one of each.
func hallExamples() []string {
	return []string{"lock 1 1 1 1 1", "move start", "look", "moves", "safe", "enrol bob y", "day 5", "chain"}
}

// customerExamples are orders of customers, one of each.
func customerExamples() []string {
	return []string{
		double, "model 0 0,0,0", "chain c=f0/q|q:1..9", "command 1", "matrix 2 0/0;1/0 0",
		"next", "take 1 6..8 2 -", "declare 0 leak", "reopen 0", "book", "again 1",
		"seal note 9 text", "revise 1 text", "open 1 0", "list", "release 1 bob word", "borrow bob 1 word",
	}
}

// P12.2
func TestOrders(t *testing.T) {
	all := append(by("hall", hallExamples()...), by("ada:x", customerExamples()...)...)
	for _, line := range all {
		s := ready(t)
		if a := s.Do(line); a.Err == api.ErrForm {
			t.Errorf("%q: error %d", line, a.Err)
		}
		for _, wrong := range []string{line + " ", " " + line, line + " 1", line + " 1 2", strings.Replace(line, " ", "  ", 1), strings.Replace(line, " ", "\t", 1), strings.ToUpper(line)} {
			refuses(t, s, fails(wrong, api.ErrForm))
		}
		if i := strings.LastIndexByte(line, ' '); strings.Count(line, " ") > 1 {
			refuses(t, s, fails(line[:i], api.ErrForm), fails(line[:i+1], api.ErrForm))
		}
	}
	s := ready(t)
	for _, line := range []string{"", " ", "hall", "hall ", "ada:x", "ada:x ", "hall see", "ada:x see", "look", "list", "hall hall look", "hall  ", "\x00", "hall \x00"} {
		refuses(t, s, fails(line, api.ErrForm))
	}
}

// P12.2: an order of the others is none.
func TestOrdersOfOthers(t *testing.T) {
	s := ready(t)
	for _, o := range customerExamples() {
		if o != "chain c=f0/q|q:1..9" {
			refuses(t, s, fails("hall "+o, api.ErrForm))
		}
	}
	for _, o := range hallExamples() {
		refuses(t, s, fails("ada:x "+o, api.ErrForm))
	}
	refuses(t, s, fails("hall chain -", api.ErrForm), fails("ada:x chain", api.ErrForm))
}

// P12.2: who it is.
func TestWho(t *testing.T) {
	s := siteOf(t, "hall enrol ada x", "hall enrol a_20_bytes_long_name "+strings.Repeat("p", 40), "hall enrol c :", "hall enrol d a:b", "hall enrol e \t\xff")
	play(t, s,
		done("ada:x list", ""),
		done("a_20_bytes_long_name:"+strings.Repeat("p", 40)+" list", ""),
		done("c:: list", ""),
		done("d:a:b list", ""),
		done("e:\t\xff list", ""),
		fails("d:a list", api.ErrPass),
		fails("d:b list", api.ErrPass),
		fails("ada:x: list", api.ErrPass),
		fails("ada::x list", api.ErrPass),
		fails("ad:x list", api.ErrNone),
		fails("adaa:x list", api.ErrNone),
	)
	for _, who := range []string{
		"ada", "ada:", ":x", ":", "Ada:x", "1a:x", "_a:x", "a-b:x", "a.b:x", "é:x", "a\x00:x", "Hall", "hal", "halls", "hall,", "ada;x",
		"a_name_of_21_bytes___:x", "ada:" + strings.Repeat("p", 41), "ada:\x00", "ada:x\x00", "-", "ada/x",
	} {
		refuses(t, s, fails(who+" list", api.ErrForm), fails(who+" look", api.ErrForm))
	}
}

// P12.2: a customer may be called hall.
func TestCustomerHall(t *testing.T) {
	s := siteOf(t, "hall enrol hall x")
	play(t, s,
		done("hall:x list", ""),
		fails("hall:y list", api.ErrPass),
		fails("hall: list", api.ErrForm),
		fails("hall list", api.ErrForm),
		fails("hall:x look", api.ErrForm),
		done("hall:x model 0 0,0,0", "1"),
	)
}

// P12.2: the order of the errors.
func TestErrorsOfLines(t *testing.T) {
	s := siteOf(t, "hall enrol ada x")
	long := strings.Repeat("z", 2001)
	for _, line := range []string{long, strings.Repeat(" ", 2001), "hall " + long, "bob:y list " + long, "ada:x seal note 9 " + long} {
		refuses(t, s, fails(line, api.ErrLong))
	}
	refuses(t, s,
		fails("bob:y list 1", api.ErrForm),
		fails("ada:y command 01", api.ErrForm),
		fails("bob:y command 1", api.ErrNone),
		fails("ada:y command 1", api.ErrPass),
		fails("ada:x command 1", api.ErrState),
		fails("bob:y seal Note 9 text", api.ErrNone),
		fails("ada:y seal Note 9 text", api.ErrPass),
		fails("ada:y next", api.ErrPass),
		fails("bob:y next", api.ErrNone),
		fails("bob:y borrow ada 1 word", api.ErrNone),
	)
}

// P12.2: a line of MaxLine bytes is not too long.
func TestLongLine(t *testing.T) {
	s := siteOf(t, "hall enrol ada x")
	start := "ada:x seal note 9 "
	text := strings.Repeat("z", 2000-len(start))
	play(t, s,
		fails(start+text+"z", api.ErrLong),
		done(start+text, "1"),
		done("ada:x open 1 1", text),
		fails(strings.Repeat("z", 2000), api.ErrForm),
	)
}

// P12.2: N.
func TestIntegers(t *testing.T) {
	s := siteOf(t, "hall enrol ada x")
	for _, n := range []string{"0", "1", "9", "10", "-1", "-9", "-10", "100", "123456789", "999999999", "-999999999", "100000000"} {
		play(t, s, fails("ada:x open "+n+" 1", api.ErrRange))
	}
	for _, n := range []string{"", "-", "-0", "00", "01", "-01", "+1", "+0", "1.0", "1.", ".1", "1/1", "1e3", "0x1", "1_0", "--1", "1-", "a", "1a", "1\x00", "1000000000", "-1000000000", "9999999999", "18446744073709551617", "9223372036854775808", "-9223372036854775809", "1,1", "١"} {
		refuses(t, s, fails("ada:x open "+n+" 1", api.ErrForm), fails("ada:x open 1 "+n, api.ErrForm))
	}
}

// wrongNumbers are words that are not NUM.
func wrongNumbers() []string {
	return []string{
		"", "-", "01", "+1", "1.", ".5", "1..", "1e5", "--1", "1/0", "1/02", "1/-2", "1.5/2", "a", "1a", "1\x00", "0x1", "1_0", "∞",
		strings.Repeat("1", 61), "1." + strings.Repeat("0", 59), "1/" + strings.Repeat("3", 59), "-" + strings.Repeat("1", 60),
	}
}

// P12.2: NUM.
func TestNumbers(t *testing.T) {
	s := siteOf(t, "hall enrol ada x")
	for _, x := range []string{"0", "-0", "1", "-1", "0.50", "-12.5", "1/3", "-7/28", "0/5", strings.Repeat("1", 60), "-" + strings.Repeat("1", 59), "1." + strings.Repeat("0", 58), "1/" + strings.Repeat("3", 58)} {
		play(t, s, fails("ada:x command "+x, api.ErrState), fails("ada:x command 1,"+x, api.ErrState))
	}
	for _, x := range wrongNumbers() {
		refuses(t, s, fails("ada:x command "+x, api.ErrForm), fails("ada:x command "+x+",1", api.ErrForm), fails("ada:x command 1,"+x, api.ErrForm))
	}
}

// P12.2: BOX.
func TestBoxes(t *testing.T) {
	s := siteOf(t, "hall enrol ada x")
	for _, b := range []string{"0", "-1", "1/3", "0..0", "-0..0", "1..2", "-2..-1", "1.5..1.50", "1/3..1/2", "-1/2..-1/3", strings.Repeat("1", 60) + ".." + strings.Repeat("2", 60)} {
		play(t, s, fails("ada:x take 0 "+b+" 1 -", api.ErrState), fails("ada:x take 0 1,"+b+" "+b+" -", api.ErrState))
	}
	wrong := []string{"..", "1..", "..1", "1...2", "1....2", "1..2..3", "2..1", "1/2..1/3", "-1..-2", "0..-1", "1..2,", "1-2", "1..01", strings.Repeat("1", 61) + ".." + strings.Repeat("2", 61)}
	for _, x := range wrongNumbers() {
		wrong = append(wrong, x, x+"..9", "-9.."+x)
	}
	for _, b := range wrong {
		refuses(t, s, fails("ada:x take 0 1 "+b+" -", api.ErrForm), fails("ada:x take 0 1,"+b+" 1 -", api.ErrForm))
	}
}

// wordForms are orders, in which `?` stands for a part, with parts that have its form and others that do not.
func wordForms() []struct {
	order        string
	right, wrong []string
} {
	integers := []string{"", "-", "01", "1.5", "a", "1:1", "1000000000"}
	return []struct {
		order        string
		right, wrong []string
	}{
		{"balance ? 1 0:1 2 0..1 -", []string{"1", "0;1", "1,0;0,1", "-1", "9;9", "1;1,2"}, append(integers, "1;", ";1", "1,", ",1", "1;;1", "1,,1", "1/1")},
		{"balance 1 ? 0:1 2 0..1 -", []string{"1", "1/3;-2.5", "1,2;3", "0"}, append(wrongNumbers(), "1;", ";1", "1,", ",1", "1,,2", "1;;2", "1..2")},
		{"balance 1 1 ? 2 0..1 -", []string{"0:1", "-", "-;-", "0:1,0:2", "-1:1/3;0:-2.5", "9:1;-"}, []string{"0", "0:", ":1", ":", "0:1:2", "0:1,", "0:1;", ";-", "--", "0:1,-", "-,-", "1.5:1", "01:1", "0:01", "0;1", "0:1..2"}},
		{"balance 1 1 0:1 ? 0..1 -", []string{"1", "1/3;-2.5", "1,2;3", "0"}, append(wrongNumbers(), "1;", "1,", "1..2")},
		{"balance 1 1 0:1 2 ? -", []string{"1", "0..1", "0..1,2", "-1..1,-2..2"}, []string{"-", "", "1..0", "0..1;0..1", "0..1,", "0..", "a"}},
		{"balance 1 1 0:1 2 0..1 ?", []string{"-", "1<=9", "1,2<=3", "-1<=-1/2;1<=0.5"}, []string{"", "1", "<=1", "1<=", "1<9", "1=<9", "1>=9", "1<=2<=3", "1<==9", "1;2<=3", "1<=9;", "-;-", "1<=9;-", "1<=1..2", "1,<=9"}},
		{"model ? 0,0,0", []string{"0", "-1/3", "12.50"}, append(wrongNumbers(), "1..2", "1,2")},
		{"model 0 ?", []string{"0,0,0", "1/3,-2.5,7"}, []string{"", "-", "0", "0,0", "0,0,0,0", "0,0,", ",0,0", "0;0;0", "0,a,0", "0,0,0..1"}},
		{"chain ?", []string{"-", "a=q", "a=q;b=a", "A=q", "a:b=q", "-=q", "a=q|q:1", "a=q|q:1..2|f0+1:-1..1/3;b=2*a", "é=q", "a=q|sqrt(q):0..1", "a=w(q)", "sqrt=q", "a_name_of_21_bytes___=1", "a=q;a=q", "q=q", "a=b"},
			[]string{"", "a", "=q", "=", "a=", "a=q;", ";a=q", "a=q;;b=q", "a=q+", "a=a=b", "a==b", "a|b=q", "a=q|", "a=q|q", "a=q|q:", "a=q|:1", "a=q|q:1:2", "a=q|q:2..1", "a=q|q+:1", "a=q|q:1|", "a=q||q:1", "a=q:1", "a=q|b=q:1", "a=2x", "a=sqrt", "-;a=q", "a=q;-", "--", "a=" + strings.Repeat("q+", 200) + "q", "a=q|" + strings.Repeat("q+", 200) + "q:1", "a=" + strings.Repeat("(", 21) + "q" + strings.Repeat(")", 21)}},
		{"command ?", []string{"1", "1,2", "1,2,3,4,5,6,7,8,9"}, []string{"", "-", "1,", ",1", "1,,2", "1;2", "1..2"}},
		{"matrix ? 0/0 1", []string{"2", "2,3", "0", "-1", "1,1,1,1,1,1,1,1,1"}, append(integers, "2,", "2;3", "2/3")},
		{"matrix 2 ? 1", []string{"0/0", "0/0;1/0", "0,1/2", "-1/-1", "0,0,0/5;1/1"}, []string{"", "-", "0", "0/", "/0", "0/0/0", "0/0;", ";0/0", "0,/0", "0/0,1", "0:0", "0//0", "01/0", "0/01"}},
		{"matrix 2 0/0 ?", []string{"0", "1", "-1", "999999999"}, append(integers, "1,2")},
		{"take ? 1 1 -", []string{"0", "-1", "7"}, append(integers, "1,2")},
		{"take 0 ? 1 -", []string{"1", "1..2", "1,2..3"}, []string{"", "-", "1,", "2..1", "1;2"}},
		{"take 0 1 ? -", []string{"1", "1..2"}, []string{"", "-", "1,2", "2..1", "1;2"}},
		{"take 0 1 1 ?", []string{"-", "0:1", "2:-1/3", "3:1", "-1:0,1:0", "0:1,0:1,0:1,0:1,0:1,0:1,0:1,0:1,0:1"}, []string{"", "0", "0:", ":1", "0:1,", "0:1;1:1", "0:1..2", "0:1,-", "--", "1.5:1", "0:1:1", "01:1"}},
		{"declare ? leak", []string{"0", "-1"}, integers},
		{"reopen ?", []string{"0", "-1"}, integers},
		{"again ?", []string{"0", "-1"}, integers},
		{"seal note ? text", []string{"9", "-1"}, integers},
		{"revise ? text", []string{"0", "-1"}, integers},
		{"open ? 1", []string{"0", "-1"}, integers},
		{"open 1 ?", []string{"0", "-1"}, integers},
		{"release ? bob word", []string{"0", "-1"}, integers},
		{"borrow bob ? word", []string{"0", "-1"}, integers},
	}
}

// P12.2, P12.3, P12.4: the form of each word of an order.
func TestWordForms(t *testing.T) {
	for _, c := range wordForms() {
		s := siteOf(t, "hall enrol ada x")
		for _, word := range c.right {
			if order := strings.Replace(c.order, "?", word, 1); !isForm(s, order) {
				t.Errorf("%q has the error ErrForm", order)
			}
		}
		for _, word := range c.wrong {
			refuses(t, s, fails("ada:x "+strings.Replace(c.order, "?", word, 1), api.ErrForm))
		}
	}
}

// P12.2: the form of each word of an order of the hall.
func TestWordFormsOfTheHall(t *testing.T) {
	s := campaign.New()
	for _, order := range []string{"lock ? 1 1 1 1", "lock 1 ? 1 1 1", "lock 1 1 ? 1 1", "lock 1 1 1 ? 1", "lock 1 1 1 1 ?", "day ?"} {
		for _, n := range []string{"", "-", "-0", "01", "1.5", "a", "1000000000"} {
			play(t, s, fails("hall "+strings.Replace(order, "?", n, 1), api.ErrForm))
		}
	}
	play(t, s,
		fails("hall lock 0 1 1 1 1", api.ErrArg), fails("hall lock 1 -1 1 1 1", api.ErrArg), fails("hall lock 1 1 999999999 1 1", api.ErrArg),
		fails("hall day -1", api.ErrRange), fails("hall day 999999999", api.ErrRange), fails("hall move 01", api.ErrState),
	)
}

// P1, P12.1, P12.2: any bytes have an answer, and no text beside an error.
func TestAnyBytes(t *testing.T) {
	all := append(by("hall", hallExamples()...), by("ada:x", customerExamples()...)...)
	signs := " :;,|=<>./-+0129axqf\x00\xff"
	for r := range cases(200) {
		s := ready(t)
		for range 50 {
			line := []byte(anyOf(r, all...))
			for range r.IntN(4) {
				at := r.IntN(len(line) + 1)
				switch r.IntN(3) {
				case 0:
					line = slices.Insert(line, at, signs[r.IntN(len(signs))])
				case 1:
					line = slices.Delete(line, min(at, len(line)-1), min(at, len(line)-1)+1)
				case 2:
					line[min(at, len(line)-1)] = signs[r.IntN(len(signs))]
				}
			}
			if a := s.Do(string(line)); a.Err != api.OK && a.Text != "" {
				t.Errorf("%q: the text %q beside the error %d", line, a.Text, a.Err)
			}
		}
	}
}
