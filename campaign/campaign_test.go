package campaign_test

import (
	"slices"
	"strings"
	"testing"

	"venturi/api"
	"venturi/campaign"
)

// The document's examples.
func TestExamples(t *testing.T) {
	s := campaign.New()
	play(t, s,
		done("hall lock 1 1 1 1 1", ""),
		done("hall look", "fan=0 in=0 d0=0 s0_0=0"),
		done("hall moves", "start open0"),
		done("hall safe", "safe 6"),
		done("hall move start", ""),
		fails("hall move open0", api.ErrState),
		done("hall enrol ada x", ""),
		done("ada:x balance 1 1 0:1;0:2;0:4 2;4;8 0..10 1<=9;-1<=0", "1 0"),
		done("ada:x command 9", ""),
		fails("ada:x command 10", api.ErrOver),
		fails("ada:y list", api.ErrPass),
		fails("bob:x list", api.ErrNone),
		done("ada:x model 0 0,0,0", "1"),
		done("ada:x chain c=f0/q|q:1..9", "1"),
		done("ada:x matrix 2 0/0;1/0 0", "2"),
		done("ada:x next", "1 1"),
		done("ada:x take 1 6..8 2 -", "1 c=1.5..2"),
		done("ada:x open 1 1", "1 1 1 1 1 6..8 2 - c=1.5..2"),
		fails("ada:x take 0 6..20 2 -", api.ErrOver),
		fails("ada:x take 0 6 10 -", api.ErrDomain),
		done("ada:x declare 0 leak", ""),
		done("ada:x book", "0 declared leak; 1 taken"),
		done("ada:x again 1", "same"),
	)
}

// P12.1
func TestNew(t *testing.T) {
	s := campaign.New()
	play(t, s,
		fails("hall look", api.ErrState),
		fails("hall moves", api.ErrState),
		fails("hall safe", api.ErrState),
		fails("hall move start", api.ErrState),
		fails("ada:x list", api.ErrNone),
		done("hall chain", "0 7"),
		fails("hall day 0", api.ErrRange),
		done("hall enrol ada x", ""),
		done("ada:x seal note 0 text", "1"),
		done("ada:x list", "1 note 1 0 0"),
		done("hall day 1", ""),
		done("ada:x list", "1 note 1 0 0 gone"),
	)
}

// P12.1, R3: what New did not return is no site.
func TestNoSite(t *testing.T) {
	whole := siteOf(t, "hall enrol ada x")
	part := *whole
	for _, s := range []*campaign.Site{nil, {}, new(campaign.Site), &part} {
		for _, line := range []string{"", "hall look", "hall chain", "hall enrol bob y", "ada:x list", "ada:y list", strings.Repeat("z", 3000)} {
			isReply(t, line, s.Do(line), api.Reply{Err: api.ErrNil})
		}
	}
	play(t, whole, fails("bob:y list", api.ErrNone), done("ada:x list", ""))
}

// P12.1: Play begins with a new site each time.
func TestPlay(t *testing.T) {
	lines := []string{"hall look", "hall lock 1 1 1 1 1", "hall look", "hall enrol ada x", "", "ada:x list", "hall chain", "hall enrol ada x"}
	for range 2 {
		s := campaign.New()
		answers := campaign.Play(lines)
		if len(answers) != len(lines) {
			t.Fatal(len(answers), "answers")
		}
		for i, line := range lines {
			isReply(t, line, answers[i], s.Do(line))
		}
		isReply(t, "the first line", answers[0], api.Reply{Err: api.ErrState})
		isReply(t, "the last line", answers[7], api.Reply{Err: api.ErrTwice})
	}
	for _, none := range [][]string{nil, {}} {
		if answers := campaign.Play(none); len(answers) != 0 {
			t.Error("the answers to no lines", answers)
		}
	}
}

// R4: the lines are not changed.
func TestPlayKeepsLines(t *testing.T) {
	lines := []string{"hall enrol ada x", "ada:x list", "no line"}
	before := slices.Clone(lines)
	answers := campaign.Play(lines[:2])
	answers[0].Text, answers[1].Text = "x", "y"
	if !slices.Equal(lines, before) {
		t.Error("the lines were changed", lines)
	}
}

// P1: a site depends on its own lines alone.
func TestTwoSites(t *testing.T) {
	a, b := ready(t), bare(t)
	do(t, a, "ada:x take 1 6..8 2 -", "hall move stop", "hall day 5")
	play(t, b,
		done("hall look", "fan=2 in=0 d0=0 s0_0=0"),
		done("ada:x list", ""),
		fails("ada:x book", api.ErrState),
		fails("ada:x command 1", api.ErrState),
		done("ada:x model 1 0,0,0", "1"),
		done("hall day 1", ""),
	)
	play(t, a, done("ada:x model 1 0,0,0", "2"), fails("hall day 5", api.ErrRange))
}
