package campaign_test

import (
	"fmt"
	"math/big"
	"math/rand/v2"
	"strconv"
	"strings"
	"testing"

	"venturi/api"
	"venturi/balance"
	"venturi/campaign"
	"venturi/correct"
	"venturi/exact"
	"venturi/fit"
)

// takes checks the results of one point, with a balance, a model and a chain, whose setting is 1,0.
func takes(t *testing.T, rig, model, chain, measured, want string) {
	t.Helper()
	s := bare(t)
	do(t, s, by("ada:x", rig, "model "+model, "chain "+chain, "matrix 2,1 1,0/0 0")...)
	play(t, s, done("ada:x take 0 "+measured, "1 "+want), done("ada:x again 1", "same"))
}

// refusesTake checks the error of one point, with a balance, a model and a chain, whose setting is 1,0.
func refusesTake(t *testing.T, rig, model, chain, measured string, want api.Errno) {
	t.Helper()
	s := bare(t)
	do(t, s, by("ada:x", rig, "model "+model, "chain "+chain, "matrix 2,1 1,0/0 0")...)
	refuses(t, s, fails("ada:x take 0 "+measured, want))
}

// P12.7: examples by hand.
func TestReductions(t *testing.T) {
	const weightless = "0 0,0,0"
	third := "balance 1 1 0:1;0:2 3;6 0..10 -"
	takes(t, double, weightless, "-", "6 2 -", "-")
	takes(t, double, weightless, "c=f0", "6 2 -", "c=3..3")
	takes(t, double, weightless, "c=f0;d=c*q;e=d-c", "6..8 2..3 -", "c=3..4,d=6..12,e=2..9")
	takes(t, double, weightless, "c=q", "6 1/3..1/2 -", "c=1/3..0.5")
	takes(t, double, weightless, "a=l0;b=l1;c=f0+l0", "6 2 -", "a=1..1,b=0..0,c=4..4")
	// Loads are on a grid of 1/1000000.
	takes(t, third, weightless, "c=f0", "1 2 -", "c=0.333333..0.333334")
	takes(t, third, weightless, "c=f0", "3.0000001..3.0000002 2 -", "c=1..1.000001")
	// Loads are within their boxes, which have no grid.
	takes(t, "balance 1 1 0:1;0:2 3;6 0.33333333..1/3 -", weightless, "c=f0", "1 2 -", "c=0.33333333..1/3")
	takes(t, double, weightless, "c=f0", "-5..8 2 -", "c=0..4")
	// Square roots are on a grid of 1/1000.
	takes(t, double, weightless, "c=sqrt(q)", "6 2 -", "c=1.414..1.415")
	takes(t, double, weightless, "c=q|sqrt(q):1.414..1.415", "6 2 -", "c=2..2")
	// A condition holds for all of the box, ends included; its formula may have results.
	takes(t, double, weightless, "c=f0/q|q:2..3|f0:3..4;d=c|c:1..2", "6..8 2..3 -", "c=1..2,d=1..2")
}

// P12.7: the tare of a model, of which three numbers are forces and three moments. By hand: the example 2 of chapter 5.
func TestTares(t *testing.T) {
	all := "a=f0;b=f1;c=f2;d=f3;e=f4;f=f5"
	takes(t, six, "10 2,0,0", all, "10,20,30,40,50,60 1 1:1/3", "a=4..4,b=20..20,c=38..38,d=40..40,e=34..34,f=60..60")
	takes(t, six, "10 2,0,0", all, "0,0,0,0,0,0 1 -", "a=0..0,b=0..0,c=10..10,d=0..0,e=-20..-20,f=0..0")
	takes(t, six, "10 0,0,0", all, "0..1,1,2,3,4,-5..5 1 -", "a=0..1,b=1..1,c=12..12,d=3..3,e=4..4,f=-5..5")
	takes(t, six, "-10 1,2,0", all, "0,0,0,0,0,0 1 -", "a=0..0,b=0..0,c=-10..-10,d=-20..-20,e=10..10,f=0..0")
	// A quarter turn about x, then one about z: the weight, which points to -z, is first turned back about z, then about x, to -y.
	takes(t, six, "10 0,0,1", all, "0,0,0,0,0,0 1 0:1,2:1", "a=0..0,b=10..10,c=0..0,d=-10..-10,e=0..0,f=0..0")
	// The other way round it is first turned back about x, to -y, and then about z, to -x.
	takes(t, six, "10 0,0,1", all, "0,0,0,0,0,0 1 2:1,0:1", "a=10..10,b=0..0,c=0..0,d=0..0,e=10..10,f=0..0")
	// With fewer components, those that there are.
	takes(t, double, "10 2,0,0", "c=f0", "10 1 1:1/3", "c=-1..-1")
	takes(t, "balance 1,0;0,1 1,0;0,1 0:1;1:1 1,0;0,1 0..9,0..9 -", "10 2,0,0", "c=f0;d=f1", "1,2 1 1:1/3", "c=-5..-5,d=2..2")
}

// P12.8, P12.9: a point is taken with the last balance, model and chain, and reduced again with those with which it was taken.
func TestPresentSetUps(t *testing.T) {
	s := bare(t)
	do(t, s, by("ada:x", double, "model 1 0,0,0", "chain c=f0", "matrix 1 0/0;0/1;0/2;0/3 0")...)
	take := " 6 1 1:1"
	play(t, s,
		done("ada:x take 0"+take, "1 c=2..2"),
		done("ada:x model 2 0,0,0", "2"),
		done("ada:x take 1"+take, "2 c=1..1"),
		done("ada:x balance 1 1 0:1;0:2 1;2 0..10 -", "2 0"),
		done("ada:x take 2"+take, "3 c=4..4"),
		done("ada:x chain d=f0+q", "2"),
		done("ada:x take 3"+take, "4 d=5..5"),
	)
	for i, numbers := range []string{"1 1 1", "1 2 1", "2 2 1", "2 2 2"} {
		record := strconv.Itoa(i + 1)
		if text := s.Do("ada:x open " + record + " 1").Text; !strings.HasPrefix(text, numbers+" "+strconv.Itoa(i)+" ") {
			t.Error("the text", text)
		}
		play(t, s, done("ada:x again "+record, "same"))
	}
}

// P12.7: eight turns are an attitude, nine are none.
func TestAttitudes(t *testing.T) {
	turns := strings.Repeat("2:1,", 7)
	takes(t, double, "10 2,0,0", "c=f0", "6 1 "+turns+"1:1/3", "c=3..3")
	refusesTake(t, double, "10 2,0,0", "c=f0", "6 1 "+turns+"1:1/3,0:1", api.ErrArg)
	refusesTake(t, double, "10 2,0,0", "c=f0", "6 1 3:0", api.ErrArg)
	refusesTake(t, double, "10 2,0,0", "c=f0", "6 1 0:0,-1:0", api.ErrArg)
}

// P12.7: the errors in their order; the chain would have one too.
func TestErrorsOfReductions(t *testing.T) {
	const weightless = "0 0,0,0"
	flat := "balance 1 1 0:1;0:2 0;0 0..10 1<=3"
	low := "balance 1 1 0:1;0:2 2;4 0..10 1<=3;1<=2"
	for _, c := range []struct {
		rig, chain, measured string
		want                 api.Errno
	}{
		{flat, "c=x", "99 0 3:1", api.ErrArg},
		{flat, "c=x", "99,99 0 -", api.ErrArg},
		{six, "c=x", "99,99 0 -", api.ErrArg},
		{flat, "c=x", "99 0 -", api.ErrSingular},
		{double, "c=x", "21..22 0 -", api.ErrEmpty},
		{double, "c=x", "-3..-1 0 -", api.ErrEmpty},
		{low, "c=x", "7 0 -", api.ErrOver},
		{low, "c=x", "5 0 -", api.ErrOver},
		{low, "c=x", "0..4.000001 0 -", api.ErrOver},
		{low, "c=x", "0..4 0 -", api.ErrArg},
		{low, "c=w(1/q)", "0..4 0 -", api.ErrNone},
		{low, "c=1/q", "0..4 0 -", api.ErrZero},
		{low, "c=1/q", "0..4 -1..1 -", api.ErrZero},
		{low, "c=sqrt(f0)+sqrt(q);d=1/0", "0..4 -1..1 -", api.ErrMinus},
		{low, "c=1/q|q:1..2", "0..4 0..1 -", api.ErrDomain},
		{low, "c=f0|f0:0..2;d=f0|f0:0..1.999", "0..4 1 -", api.ErrDomain},
	} {
		refusesTake(t, c.rig, weightless, c.chain, c.measured, c.want)
	}
	// The limits hold for the loads, not for what is left of them.
	refusesTake(t, low, "-9 0,0,0", "c=f0", "5 1 1:1", api.ErrOver)
	takes(t, low, "9 0,0,0", "c=f0", "4 1 1:1", "c=-7..-7")
}

// interval is numbers from one to another one.
type interval struct{ lo, hi *big.Rat }

// outward rounds an interval to the grid of 1/1000000.
func (i interval) outward() interval {
	million := big.NewRat(1_000_000, 1)
	floor := func(x *big.Rat) *big.Rat {
		scaled := new(big.Rat).Mul(x, million)
		q := new(big.Int).Div(scaled.Num(), scaled.Denom()) // Euclidean: downwards, as the denominator is positive
		return new(big.Rat).Quo(new(big.Rat).SetInt(q), million)
	}
	up := floor(new(big.Rat).Neg(i.hi))
	return interval{floor(i.lo), up.Neg(up)}
}

// plainLoads returns, for the reading a * x + b * x * x with b at least 0, the loads from `within`, none of which is negative, after six rounds; or false if there are none.
func plainLoads(a, b *big.Rat, reading, within interval) (interval, bool) {
	x := within
	for range 6 {
		rest := func(x *big.Rat) *big.Rat { return new(big.Rat).Mul(b, new(big.Rat).Mul(x, x)) }
		over := func(r, x *big.Rat) *big.Rat { return new(big.Rat).Quo(new(big.Rat).Sub(r, rest(x)), a) }
		image := interval{over(reading.lo, x.hi), over(reading.hi, x.lo)}.outward()
		if image.lo.Cmp(x.lo) > 0 {
			x.lo = image.lo
		}
		if image.hi.Cmp(x.hi) < 0 {
			x.hi = image.hi
		}
		if x.lo.Cmp(x.hi) > 0 {
			return x, false
		}
	}
	return x, true
}

// resultOf reads the box of the only result of an answer.
func resultOf(t *testing.T, text string) interval {
	t.Helper()
	_, box, _ := strings.Cut(text, "=")
	lo, hi, some := strings.Cut(box, "..")
	if !some {
		t.Fatal("no result", text)
	}
	return interval{rat(lo), rat(hi)}
}

// P12.7: one component whose reading is not straight, beside a plain inversion.
func TestRounds(t *testing.T) {
	empty := 0
	for r := range cases(150) {
		a, b := big.NewRat(int64(1+r.IntN(9)), 1), big.NewRat(int64(r.IntN(20)), 10)
		read := func(x int64) string {
			load := big.NewRat(x, 1)
			square := new(big.Rat).Mul(b, new(big.Rat).Mul(load, load))
			return square.Add(square, load.Mul(a, load)).RatString()
		}
		within := interval{big.NewRat(int64(r.IntN(3)), 2), big.NewRat(int64(4+r.IntN(8)), 2)}
		lo := big.NewRat(int64(r.IntN(400)), 10)
		reading := interval{lo, new(big.Rat).Add(lo, big.NewRat(int64(r.IntN(30)), 7))}
		s := bare(t)
		do(t, s, by("ada:x", "balance 1;2 1 0:1;0:2;0:3 "+read(1)+";"+read(2)+";"+read(3)+" "+within.lo.RatString()+".."+within.hi.RatString()+" -", "model 0 0,0,0", "chain c=f0", "matrix 1 0/0 0")...)
		answer := s.Do("ada:x take 0 " + reading.lo.RatString() + ".." + reading.hi.RatString() + " 1 -")
		want, some := plainLoads(a, b, reading, within)
		if !some {
			isReply(t, "no loads", answer, api.Reply{Err: api.ErrEmpty})
			empty++
			continue
		}
		if answer.Err != api.OK {
			t.Error("error", answer.Err)
			continue
		}
		if got := resultOf(t, answer.Text); got.lo.Cmp(want.lo) != 0 || got.hi.Cmp(want.hi) != 0 {
			t.Error(answer.Text, "instead of", want.lo, want.hi)
		}
	}
	if empty < 10 || empty > 140 {
		t.Error(empty, "readings have no loads")
	}
}

// P12.7: six rounds leave another box than five (1.999166 to 2.000334) or seven (1.999966 to 2.000014).
func TestSixRounds(t *testing.T) {
	takes(t, "balance 1;2 1 0:1;0:2;0:4 2.1;4.4;9.6 0..4 -", "0 0,0,0", "c=f0", "4.4 1 -", "c=1.999933..2.000167")
}

// plane is a balance, and the order that calibrates it.
type plane struct {
	order       string
	calibration balance.Calibration
	within      []exact.Box
}

// anyPlane returns a balance with n components, whose readings are the own load twice, a part of the others, and a product.
func anyPlane(t *testing.T, r *rand.Rand, n int) plane {
	t.Helper()
	form := fit.Form{Inputs: n}
	for i := range n {
		term := make([]int, n)
		term[i] = 1
		form.Terms = append(form.Terms, term)
	}
	product := make([]int, n)
	product[r.IntN(n)]++
	product[r.IntN(n)]++
	form.Terms = append(form.Terms, product)
	whole := balance.Calibration{Form: form}
	for i := range n {
		coefs := each(len(form.Terms), func(int) string { return anyOf(r, "0", "0.1", "-0.05", "1/30") })
		coefs[i] = "2"
		whole.Coefs = append(whole.Coefs, numsOf(coefs))
	}
	var loadings, readings []string
	for k := range len(form.Terms) + 6 {
		weights := each(n, func(i int) string { return strconv.Itoa((k+1)*(i+2)*(k+i)%11 - 4) })
		loadings = append(loadings, strings.Join(each(n, func(i int) string { return strconv.Itoa(i) + ":" + weights[i] }), ","))
		read, e := balance.Read(whole, numsOf(weights))
		if e != api.OK {
			t.Fatal("Read", e)
		}
		readings = append(readings, strings.Join(each(n, func(i int) string { return read[i].String() }), ","))
	}
	b, _ := exact.Span(num("-3"), num("3"))
	p := plane{calibration: whole}
	for range n {
		p.within = append(p.within, b)
	}
	terms := each(len(form.Terms), func(i int) string { return commas(form.Terms[i]) })
	hooks := each(n, func(i int) string { return commas(form.Terms[i]) })
	p.order = fmt.Sprint("balance ", strings.Join(terms, ";"), " ", strings.Join(hooks, ";"), " ", strings.Join(loadings, ";"), " ", strings.Join(readings, ";"), " ", strings.Join(each(n, func(int) string { return "-3..3" }), ","), " -")
	return p
}

// boxText returns the text of a box.
func boxText(b exact.Box) string { return b.Lo().String() + ".." + b.Hi().String() }

// around returns a box around a number.
func around(r *rand.Rand, x exact.Num, width int) exact.Box {
	part := func() exact.Num {
		y, _ := exact.Ratio(int64(r.IntN(width+1)), 100)
		return y
	}
	b, _ := exact.Span(x.Sub(part()), x.Add(part()))
	return b
}

// mission is a site with a customer, and their true loads and pressure.
type mission struct {
	site     *campaign.Site
	n        int // components
	rig      plane
	chain    []correct.Step
	env      func(loads []exact.Box, q exact.Box) correct.Env // what the chain begins with
	attitude string
	loads    []exact.Num
	pressure exact.Num
}

// anyMission returns a site with a customer who has so many points to take.
func anyMission(t *testing.T, r *rand.Rand, points int) mission {
	t.Helper()
	m := mission{n: 1 + r.IntN(4)}
	m.rig = anyPlane(t, r, m.n)
	for range m.n {
		x, _ := exact.Ratio(int64(r.IntN(401)-200), 100)
		m.loads = append(m.loads, x)
	}
	m.pressure, _ = exact.Ratio(int64(100+r.IntN(300)), 100)
	turns := []balance.Turn{{Axis: r.IntN(3), T: num("1/3")}, {Axis: r.IntN(3), T: num("-2")}}
	m.attitude = fmt.Sprint(turns[0].Axis, ":1/3,", turns[1].Axis, ":-2")
	tare, _ := balance.Tare(num("1.5"), balance.Vector{num("0.5"), num("-1"), num("2")}, turns)
	last := "f" + strconv.Itoa(m.n-1)
	chain := "c=f0/q;d=c^2-" + last + "*l0|abs(c):0..99;e=sqrt(abs(d)+q)/2"
	level := r.IntN(3)
	m.env = func(loads []exact.Box, q exact.Box) correct.Env {
		e := correct.Env{Values: []correct.Named{{Name: "q", Box: q}}, Grid: num("0.001")}
		for i, b := range loads {
			part := [2]balance.Vector{tare.Force, tare.Moment}[i/3][i%3]
			e.Values = append(e.Values, correct.Named{Name: "f" + strconv.Itoa(i), Box: b.Sub(exact.Point(part))})
		}
		e.Values = append(e.Values, correct.Named{Name: "l0", Box: exact.Point(exact.Whole(int64(level)))})
		return e
	}
	bounds := []correct.Condition{{Formula: formulaOf(t, "abs(c)"), Lo: num("0"), Hi: num("99")}}
	m.chain = []correct.Step{{Name: "c", Formula: formulaOf(t, "f0/q")}, {Name: "d", Formula: formulaOf(t, "c^2-"+last+"*l0"), Domain: bounds}, {Name: "e", Formula: formulaOf(t, "sqrt(abs(d)+q)/2")}}
	settings := strings.Join(each(points, func(int) string { return strconv.Itoa(level) + "/0" }), ";")
	m.site = bare(t)
	do(t, m.site, by("ada:x", m.rig.order, "model 1.5 0.5,-1,2", "chain "+chain, "matrix 3 "+settings+" 5")...)
	return m
}

// formulaOf returns the formula of a text that the test has written.
func formulaOf(t *testing.T, text string) correct.Formula {
	t.Helper()
	f, e := correct.Parse(text)
	if e != api.OK {
		t.Fatal("no formula", text)
	}
	return f
}

// take takes the next point, and returns its results as boxes.
func (m mission) take(t *testing.T, readings []exact.Box, q exact.Box) ([]exact.Box, api.Reply) {
	t.Helper()
	point, _, _ := strings.Cut(m.site.Do("ada:x next").Text, " ")
	words := strings.Join(each(m.n, func(i int) string { return boxText(readings[i]) }), ",")
	answer := m.site.Do("ada:x take " + point + " " + words + " " + boxText(q) + " " + m.attitude)
	if answer.Err != api.OK {
		return nil, answer
	}
	_, results, _ := strings.Cut(answer.Text, " ")
	var boxes []exact.Box
	for _, result := range strings.Split(results, ",") {
		_, box, _ := strings.Cut(result, "=")
		lo, hi, _ := strings.Cut(box, "..")
		b, e := exact.Span(num(lo), num(hi))
		if e != api.OK {
			t.Fatal("no box", result)
		}
		boxes = append(boxes, b)
	}
	return boxes, answer
}

// P12.7: several components, beside single calls of the lower layers.
func TestAnyReduction(t *testing.T) {
	for r := range cases(25) {
		m := anyMission(t, r, 1)
		read, _ := balance.Read(m.rig.calibration, m.loads)
		var readings []exact.Box
		for _, x := range read {
			readings = append(readings, around(r, x, 10))
		}
		q := around(r, m.pressure, 10)
		got, answer := m.take(t, readings, q)
		inverse, e := balance.Invert(m.rig.calibration, readings, m.rig.within, 6, num("0.000001"))
		if e != api.OK {
			t.Fatal("Invert", e)
		}
		want, _, e := correct.Run(m.chain, m.env(inverse.Loads, q))
		if e != answer.Err || len(got) != len(want) {
			t.Fatal(answer, "instead of", want, e)
		}
		for i, b := range got {
			if !b.Equal(want[i].Box) {
				t.Error(answer, "instead of", boxText(want[i].Box))
			}
		}
	}
}

// P12.12: the results have those of the true numbers, and those that are told of what is known better.
func TestEnclosed(t *testing.T) {
	for r := range cases(25) {
		m := anyMission(t, r, 3)
		var truth []exact.Box
		for _, x := range m.loads {
			truth = append(truth, exact.Point(x))
		}
		env := m.env(truth, exact.Point(m.pressure))
		want, _, e := correct.Run(m.chain, env)
		if e != api.OK {
			t.Fatal("Run", e)
		}
		readings := make([]exact.Box, m.n)
		read, _ := balance.Read(m.rig.calibration, m.loads)
		for i, x := range read {
			readings[i] = exact.Point(x)
		}
		q := exact.Point(m.pressure)
		var before []exact.Box
		for round := range 3 {
			got, answer := m.take(t, readings, q)
			if answer.Err != api.OK {
				t.Fatal("take", answer)
			}
			for i, b := range got {
				if !want[i].Box.Inside(b) || round > 0 && !before[i].Inside(b) {
					t.Error(answer, "without", boxText(want[i].Box))
				}
			}
			before = got
			for i, b := range readings {
				readings[i] = b.Hull(around(r, b.Mid(), 10))
			}
			q = q.Hull(around(r, m.pressure, 20))
		}
	}
}
