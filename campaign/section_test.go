package campaign_test

import (
	"fmt"
	"strings"
	"testing"

	"venturi/api"
	"venturi/campaign"
	"venturi/guard"
)

func TestLock(t *testing.T) {
	s := campaign.New()
	for _, l := range []string{"0 1 1 1 1", "4 1 1 1 1", "1 0 1 1 1", "1 5 1 1 1", "1 1 0 1 1", "1 1 10 1 1", "1 1 1 0 0", "1 1 1 4 1", "1 1 1 1 0", "1 1 1 2 3", "-1 1 1 1 1"} {
		refuses(t, s, fails("hall lock "+l, api.ErrArg))
	}
	for _, order := range []string{"look", "moves", "safe", "move start", "move jump"} {
		refuses(t, s, fails("hall "+order, api.ErrState))
	}
	play(t, s,
		done("hall lock 2 3 4 2 1", ""),
		done("hall look", "fan=0 in=0 d0=0 s0_0=0 s0_1=0 d1=0 s1_0=0 s1_1=0"),
		done("hall moves", "start open0 open1"),
	)
	refuses(t, s, fails("hall lock 1 1 1 1 1", api.ErrTwice), fails("hall lock 0 1 1 1 1", api.ErrTwice))
}

func TestMoves(t *testing.T) {
	s := siteOf(t, "hall lock 1 2 2 1 1")
	refuses(t, s,
		fails("hall move jump", api.ErrNone), fails("hall move open1", api.ErrNone), fails("hall move Start", api.ErrNone), fails("hall move 0", api.ErrNone), fails("hall move -", api.ErrNone), fails("hall move star", api.ErrNone),
		fails("hall move stop", api.ErrState), fails("hall move tick", api.ErrState), fails("hall move enter0", api.ErrState),
	)
	for _, c := range [][3]string{
		{"open0", "fan=0 in=0 d0=1 s0_0=1", "close0 enter0"},
		{"enter0", "fan=0 in=1 d0=1 s0_0=1", "close0 enter0 leave0"},
		{"enter0", "fan=0 in=2 d0=1 s0_0=1", "close0 leave0"},
		{"close0", "fan=0 in=2 d0=0 s0_0=0", "open0"},
		{"open0", "fan=0 in=2 d0=1 s0_0=1", "close0 leave0"},
		{"leave0", "fan=0 in=1 d0=1 s0_0=1", "close0 enter0 leave0"},
		{"leave0", "fan=0 in=0 d0=1 s0_0=1", "close0 enter0"},
		{"close0", "fan=0 in=0 d0=0 s0_0=0", "start open0"},
		{"start", "fan=3 in=0 d0=0 s0_0=0", "stop"},
		{"stop", "fan=2 in=0 d0=0 s0_0=0", "tick"},
		{"tick", "fan=1 in=0 d0=0 s0_0=0", "tick"},
		{"tick", "fan=0 in=0 d0=0 s0_0=0", "start open0"},
	} {
		play(t, s, done("hall move "+c[0], ""), done("hall look", c[1]), done("hall moves", c[2]))
	}
}

// eachLock hands over all locks that are valid, and their lines.
func eachLock(take func(l api.Lock, line string)) {
	for n := range 3 * 4 * 9 * 3 * 3 {
		l := api.Lock{Doors: 1 + n%3, People: 1 + n/3%4, Coast: 1 + n/12%9, Sensors: 1 + n/108%3, Votes: 1 + n/324}
		if l.Votes <= l.Sensors {
			take(l, fmt.Sprint("hall lock ", l.Doors, " ", l.People, " ", l.Coast, " ", l.Sensors, " ", l.Votes))
		}
	}
}

// All test sections are safe; their states are counted by hand: while the fan stands still, anybody may be inside behind any doors, and otherwise nobody.
func TestSafe(t *testing.T) {
	count := 0
	eachLock(func(l api.Lock, line string) {
		states := (1<<l.Doors)*(l.People+1) + l.Coast + 1
		s := siteOf(t, line)
		play(t, s, done("hall safe", fmt.Sprint("safe ", states)))
		count++
	})
	if count != 3*4*9*6 {
		t.Error(count, "locks")
	}
	s := siteOf(t, "hall lock 1 1 1 1 1", "hall move open0", "hall move enter0")
	play(t, s, done("hall safe", "safe 6"), done("hall look", "fan=0 in=1 d0=1 s0_0=1"))
}

// lookOf returns the text of a state of a model.
func lookOf(m api.Model, state []int) string {
	var l []string
	for i, v := range m.Vars {
		l = append(l, fmt.Sprint(v.Name, "=", state[i]))
	}
	return strings.Join(l, " ")
}

// reached returns the texts of all states that a model reaches, found one by one.
func reached(t *testing.T, m api.Model) map[string]bool {
	t.Helper()
	start, e := guard.Start(m)
	if e != api.OK {
		t.Fatal("Start", e)
	}
	found := map[string]bool{lookOf(m, start): true}
	for work := [][]int{start}; len(work) > 0; work = work[1:] {
		for i := range m.Moves {
			if next, e := guard.Step(m, work[0], i); e == api.OK && !found[lookOf(m, next)] {
				found[lookOf(m, next)] = true
				work = append(work, next)
			}
		}
	}
	return found
}

// P12.10: the state is always one that the model reaches, nobody is inside while the fan turns, and a point is taken just while it runs.
func TestPeople(t *testing.T) {
	taken := 0
	for r := range cases(60) {
		l := api.Lock{Doors: 1 + r.IntN(3), People: 1 + r.IntN(4), Coast: 1 + r.IntN(4), Sensors: 1 + r.IntN(3), Votes: 1}
		m, _ := guard.Hall(l)
		all := reached(t, m)
		s := siteOf(t, "hall enrol ada x", fmt.Sprint("hall lock ", l.Doors, " ", l.People, " ", l.Coast, " ", l.Sensors, " 1"))
		do(t, s, by("ada:x", double, "model 0 0,0,0", "chain -", "matrix 1 0/0 0")...)
		for range 60 {
			before := s.Do("hall look").Text
			move := anyOf(r, m.Moves...).Name
			possible := strings.Contains(" "+s.Do("hall moves").Text+" ", " "+move+" ")
			if a := s.Do("hall move " + move); (a.Err == api.OK) != possible || !possible && a.Err != api.ErrState {
				t.Error(before, move, a)
			}
			look := s.Do("hall look").Text
			if !possible && look != before || !all[look] {
				t.Error("the state", look)
			}
			if !strings.HasPrefix(look, "fan=0 ") && !strings.Contains(look, " in=0 ") {
				t.Error("somebody is hurt", look)
			}
			runs := strings.HasPrefix(look, fmt.Sprint("fan=", l.Coast+1, " "))
			a := s.Do("ada:x take 0 6 2 -")
			if runs != (a.Err == api.OK) && !(runs && a.Err == api.ErrFull) || !runs && a.Err != api.ErrState {
				t.Error(look, a)
			}
			if a.Err == api.OK {
				taken++
				do(t, s, "ada:x matrix 1 0/0 0")
			}
		}
	}
	if taken < 50 {
		t.Error("few points were taken", taken)
	}
}

// The fan runs neither while it coasts nor without a test section.
func TestFan(t *testing.T) {
	s := siteOf(t, "hall enrol ada x")
	do(t, s, by("ada:x", double, "model 0 0,0,0", "chain -", "matrix 1 0/0 0")...)
	take := "ada:x take 0 6 2 -"
	refuses(t, s, fails(take, api.ErrState))
	do(t, s, "hall lock 1 1 2 1 1")
	for _, move := range []string{"open0", "close0", "start", "stop", "tick", "tick", "start"} {
		if move != "stop" {
			refuses(t, s, fails(take, api.ErrState))
		}
		do(t, s, "hall move "+move)
	}
	play(t, s, done(take, "1 -"))
}
