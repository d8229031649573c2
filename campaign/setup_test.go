package campaign_test

import (
	"math/big"
	"strconv"
	"strings"
	"testing"

	"venturi/api"
)

// P12.3
func TestBalance(t *testing.T) {
	s := siteOf(t, "hall enrol ada x")
	play(t, s,
		done("ada:x balance 1 1 0:1;0:2;0:4 2;4;8 0..10 -", "1 0"),
		// By hand: the slope of 1, 3, 4 at 1, 2, 3 is (1 + 6 + 12) / 14 = 19/14, and the squares of what it leaves are 26 - 19 * 19 / 14.
		done("ada:x balance 1 1 0:1;0:2;0:3 1;3;4 0..10 -", "2 3/14"),
		// The example 1 of chapter 2, with 0 to 2 on the hook: the loading `-` has no weights.
		done("ada:x balance 0;1 1 -;0:1;0:2 1;3;4 -1..1 1<=1", "3 1/6"),
		// Two components: the second hook loads both, a loading has weights on both hooks, and on one twice.
		done("ada:x balance 1,0;0,1 1,0;1,2 0:1;1:1;0:1,1:2,0:-1/2 2,0;2,2;5,4 0..1,0..1 -", "4 0,0"),
		done("ada:x balance 1,0;0,1 1,0;0,1 0:1;1:1;0:1 1,5;0,1;2,6 0..1,0..1 1,1<=2", "5 0.5,0.5"),
	)
}

// P12.3: the order of the errors.
func TestErrorsOfBalance(t *testing.T) {
	s := siteOf(t, "hall enrol ada x")
	refuses(t, s,
		fails("ada:x balance 1;1 1,2 7:1 1,1 0..1,0..1 1,1<=-1", api.ErrArg),
		fails("ada:x balance 1,0,0,0,0,0,0 1 0:1 1 0..1,0..1 1,1<=-1", api.ErrArg),
		fails("ada:x balance 9 1 0:1 1 0..1 -", api.ErrArg),
		fails("ada:x balance -1 1 0:1 1 0..1 -", api.ErrArg),
		fails("ada:x balance 1,0;0 1 0:1 1 0..1 -", api.ErrArg),
		fails("ada:x balance 2 1,2 7:1 1,1 0..1,0..1 1,1<=-1", api.ErrLinear),
		fails("ada:x balance 1 1,2 7:1 1,1 0..1,0..1 1,1<=-1", api.ErrArg),
		fails("ada:x balance 1 1 "+strings.Repeat("-;", 60)+"- 1 0..1,0..1 1,1<=-1", api.ErrLong),
		fails("ada:x balance 1 1 0:1;0:2 1 0..1,0..1 1,1<=-1", api.ErrArg),
		fails("ada:x balance 1 1 1:1 1 0..1 -", api.ErrArg),
		fails("ada:x balance 1 1 -1:1 1 0..1 -", api.ErrArg),
		fails("ada:x balance 1 1 0:1 1,1 0..1 -", api.ErrArg),
		fails("ada:x balance 1;2 1 0:1;0:1 1;1 0..1,0..1 1,1<=-1", api.ErrHidden),
		fails("ada:x balance 1 1 - 0 0..1,0..1 1,1<=-1", api.ErrHidden),
		fails("ada:x balance 1 1 0:1 1 0..1,0..1 1<=-1", api.ErrArg),
		fails("ada:x balance 1 1 0:1 1 0..1 1,1<=-1", api.ErrArg),
		fails("ada:x balance 1 1 0:1 1 0..1 1<=-1;1,1<=1", api.ErrArg),
		fails("ada:x balance 1 1 0:1 1 0..1 "+strings.Repeat("1<=-1;", 60)+"1<=-1", api.ErrArg),
		fails("ada:x balance 1 1 0:1 1 0..1 1<=0;1<=-1/1000", api.ErrOver),
		fails("ada:x command 0", api.ErrState),
	)
	play(t, s, done("ada:x balance 1 1 0:1 1 0..1 "+strings.Repeat("1<=0;", 59)+"1<=0", "1 0"))
	for i := 2; i <= 10; i++ {
		play(t, s, done("ada:x balance 1 1 0:1 1 0..1 1<="+strconv.Itoa(i), strconv.Itoa(i)+" 0"))
	}
	refuses(t, s,
		fails("ada:x balance 1 1 0:1 1 0..1 -", api.ErrFull),
		fails("ada:x balance 1 1 0:1 1 0..1 1<=-1", api.ErrOver),
		fails("ada:x balance 1 1 - 0 0..1 -", api.ErrHidden),
	)
	// The present one is the tenth, not the one for which there was no room.
	play(t, s, done("ada:x command 10", ""), fails("ada:x command 11", api.ErrOver))
}

// P12.4
func TestModelsAndChains(t *testing.T) {
	s := siteOf(t, "hall enrol ada x", "hall enrol bob y")
	for i := 1; i <= 10; i++ {
		play(t, s, done("ada:x model -1/3 0.5,-2,"+strconv.Itoa(i), strconv.Itoa(i)))
	}
	refuses(t, s, fails("ada:x model 0 0,0,0", api.ErrFull))
	for i := 1; i <= 10; i++ {
		play(t, s, done("ada:x chain c=f0+"+strconv.Itoa(i), strconv.Itoa(i)))
	}
	refuses(t, s, fails("ada:x chain -", api.ErrFull))
	play(t, s, done("bob:y chain -", "1"), done("bob:y model 0 0,0,0", "1"), done("ada:x "+double, "1 0"))
}

// P12.4: names are not looked at before a point is reduced, nor are the limits of a chain.
func TestAnyChain(t *testing.T) {
	chains := []string{"c=d", "c=q;c=q", "q=1", "f0=1", "l0=1", "sqrt=1", "C=1", "c:d=1", "1=1", "-=1", "c=c", "c=d;d=q", "c=w+q", "c=q|w:1..2", strings.Repeat("a", 21) + "=1"}
	many := "a0=1"
	for i := 1; i < 21; i++ {
		many += ";a" + strconv.Itoa(i) + "=1"
	}
	chains = append(chains, many, "c=1"+strings.Repeat("|q:2", 7))
	for _, chain := range chains {
		s := bare(t)
		do(t, s, by("ada:x", double, "model 0 0,0,0", "chain -", "chain "+chain, "matrix 1 0/0 0")...)
		refuses(t, s, fails("ada:x take 0 6 2 -", api.ErrArg))
	}
	s := bare(t)
	do(t, s, by("ada:x", double, "model 0 0,0,0", "chain c=w(q)", "matrix 1 0/0 0")...)
	refuses(t, s, fails("ada:x take 0 6 2 -", api.ErrNone))
	do(t, s, "ada:x chain "+strings.TrimSuffix(many, ";a20=1"))
	play(t, s, done("ada:x take 0 6 2 -", "1 "+strings.Join(each(20, func(i int) string { return "a" + strconv.Itoa(i) + "=1..1" }), ",")))
}

// P12.5
func TestCommand(t *testing.T) {
	s := siteOf(t, "hall enrol ada x")
	refuses(t, s, fails("ada:x command 0", api.ErrState), fails("ada:x command 1,2", api.ErrState))
	do(t, s, "ada:x balance 1,0;0,1 1,0;0,1 0:1;1:1 1,0;0,1 0..1,0..1 1,1<=10;-1,0<=0;0,-1<=1/2")
	refuses(t, s, fails("ada:x command 1", api.ErrArg), fails("ada:x command 1,2,3", api.ErrArg), fails("ada:x command 99", api.ErrArg))
	play(t, s,
		done("ada:x command 4,6", ""),
		done("ada:x command 10,0", ""),
		fails("ada:x command 10,1/100", api.ErrOver),
		fails("ada:x command -0.01,0", api.ErrOver),
		done("ada:x command 10.5,-0.5", ""),
		fails("ada:x command 10.5,-0.51", api.ErrOver),
		done("ada:x command 0,0", ""),
	)
}

// P12.3, P12.5: the loads are those of the present balance, and zeros at first.
func TestCommandAfterBalance(t *testing.T) {
	s := siteOf(t, "hall enrol ada x", "hall enrol bob y")
	do(t, s, by("ada:x", "balance 1 1 0:1 1 0..1 1<=9", "command 9")...)
	// With the old loads, 9, no load could be commanded.
	do(t, s, "ada:x balance 1 1 0:1 1 0..1 1<=5;-1<=3")
	refuses(t, s, fails("ada:x command 6", api.ErrOver), fails("ada:x command -4", api.ErrOver))
	do(t, s, "ada:x command 5", "ada:x command -3")
	// An error keeps the balance, and the loads.
	refuses(t, s, fails("ada:x balance 1 1 0:1 1 0..1 1<=-1", api.ErrOver))
	play(t, s, done("ada:x command 5", ""), fails("ada:x command 6", api.ErrOver))
	do(t, s, "ada:x balance 1,0;0,1 1,0;0,1 0:1;1:1 1,0;0,1 0..1,0..1 -")
	play(t, s, fails("ada:x command 5", api.ErrArg), done("ada:x command 500,-500", ""), fails("bob:y command 5", api.ErrState))
}

// P12.11: all commanded loads, and those on the way to them, keep all limits, and no others are refused.
func TestLoadsOnTheWay(t *testing.T) {
	refused := 0
	for r := range cases(60) {
		number := func() string {
			return strconv.Itoa(r.IntN(19)-9) + anyOf(r, "", "", "/2", "/3")
		}
		limits := make([][3]string, 1+r.IntN(4))
		for i := range limits {
			limits[i] = [3]string{number(), number(), strings.TrimPrefix(number(), "-")}
		}
		order := strings.Join(each(len(limits), func(i int) string { return limits[i][0] + "," + limits[i][1] + "<=" + limits[i][2] }), ";")
		s := siteOf(t, "hall enrol ada x", "ada:x balance 1,0;0,1 1,0;0,1 0:1;1:1 1,0;0,1 0..1,0..1 "+order)
		at := [2]string{"0", "0"}
		for range 30 {
			to := [2]string{number(), number()}
			kept := true
			for share := range int64(6) { // the way in fifths
				for _, l := range limits {
					sum := new(big.Rat)
					for k := range 2 {
						way := new(big.Rat).Sub(rat(to[k]), rat(at[k]))
						load := new(big.Rat).Add(rat(at[k]), way.Mul(way, big.NewRat(share, 5)))
						sum.Add(sum, load.Mul(load, rat(l[k])))
					}
					kept = kept && sum.Cmp(rat(l[2])) <= 0
				}
			}
			want := step{line: "ada:x command " + to[0] + "," + to[1], err: api.ErrOver}
			if kept {
				at, want.err = to, api.OK
			} else {
				refused++
			}
			play(t, s, want)
		}
	}
	if refused < 300 || refused > 1500 {
		t.Error(refused, "loads were refused")
	}
}
