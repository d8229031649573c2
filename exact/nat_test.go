package exact

import (
	"math/big"
	"math/rand/v2"
	"testing"
)

// toBig returns a as a number of the standard library, which the tests compare with.
func toBig(a nat) *big.Int {
	b := new(big.Int)
	for i := len(a) - 1; i >= 0; i-- {
		b.Lsh(b, wordBits).Or(b, new(big.Int).SetUint64(a[i]))
	}
	return b
}

// checkNat compares a result with what it should be, and its form with that of a nat.
func checkNat(t *testing.T, what string, got nat, want *big.Int) {
	t.Helper()
	if len(got) > 0 && got[len(got)-1] == 0 || len(got) == 0 && got != nil {
		t.Fatalf("%s: not in its form: %v", what, got)
	}
	if toBig(got).Cmp(want) != 0 {
		t.Fatalf("%s: %v instead of %v", what, toBig(got), want)
	}
}

// anyNat returns a number of at most so many words; many of its words are of those for which carries and guesses are hard.
func anyNat(r *rand.Rand, words int) nat {
	a := make(nat, r.IntN(words+1))
	hard := [...]uint64{0, 1, 2, 1<<63 - 1, 1 << 63, 1<<63 + 1, 1<<64 - 2, 1<<64 - 1}
	style := r.IntN(3)
	for i := range a {
		if style == 0 || style == 1 && r.IntN(2) == 0 {
			a[i] = r.Uint64()
		} else {
			a[i] = hard[r.IntN(len(hard))]
		}
	}
	return a.trim()
}

func TestNatSumsAndShifts(t *testing.T) {
	r := rand.New(rand.NewPCG(1, 1))
	for range 20000 {
		a, b := anyNat(r, 6), anyNat(r, 6)
		if a.cmp(b) < 0 {
			a, b = b, a
		}
		x, y := toBig(a), toBig(b)
		if a.cmp(b) != x.Cmp(y) || b.cmp(a) != y.Cmp(x) || a.bitLength() != x.BitLen() {
			t.Fatal("cmp, bitLength", x, y)
		}
		checkNat(t, "add", a.add(b), new(big.Int).Add(x, y))
		checkNat(t, "sub", a.sub(b), new(big.Int).Sub(x, y))
		n := uint(r.IntN(200))
		checkNat(t, "shl", a.shl(n), new(big.Int).Lsh(x, n))
		checkNat(t, "shr", a.shr(n), new(big.Int).Rsh(x, n))
		if len(a) > 0 && a.twos() != int(x.TrailingZeroBits()) {
			t.Fatal("twos", x)
		}
	}
}

func TestNatProducts(t *testing.T) {
	r := rand.New(rand.NewPCG(2, 2))
	for i := range 6000 {
		words := 8
		if i%10 == 0 {
			words = 5 * longFactor
		}
		a, b := anyNat(r, words), anyNat(r, words)
		checkNat(t, "mul", a.mul(b), new(big.Int).Mul(toBig(a), toBig(b)))
	}
	for n := range 70 {
		checkNat(t, "pow", nat{7, 3}.pow(n), new(big.Int).Exp(toBig(nat{7, 3}), big.NewInt(int64(n)), nil))
		checkNat(t, "pow of 0", nat(nil).pow(n), new(big.Int).Exp(new(big.Int), big.NewInt(int64(n)), nil))
	}
}

func TestNatQuotients(t *testing.T) {
	r := rand.New(rand.NewPCG(3, 3))
	for range 40000 {
		a, b := anyNat(r, 10), anyNat(r, 6)
		if len(b) == 0 {
			continue
		}
		if r.IntN(4) == 0 { // a multiple, or one less or more
			a = a.mul(b).add(natOf(uint64(r.IntN(2))))
			if r.IntN(2) == 0 && len(a) > 0 {
				a = a.sub(nat{1})
			}
		}
		q, m := a.div(b)
		x, y := new(big.Int).QuoRem(toBig(a), toBig(b), new(big.Int))
		checkNat(t, "quotient", q, x)
		checkNat(t, "rest", m, y)
		checkNat(t, "over", a.sub(m).over(b), x)
	}
	// The guess of a word of the quotient is one too many here.
	a, b := nat{3, 0, 1 << 63}, nat{1, 0, 1 << 61}
	q, m := a.div(b)
	checkNat(t, "quotient after a wrong guess", q, big.NewInt(3))
	checkNat(t, "rest after a wrong guess", m, toBig(nat{0, 0, 1 << 61}))
}

func TestNatDivisors(t *testing.T) {
	r := rand.New(rand.NewPCG(4, 4))
	for range 20000 {
		a, b, c := anyNat(r, 8), anyNat(r, 8), anyNat(r, 4)
		if r.IntN(2) == 0 {
			a, b = a.mul(c), b.mul(c)
		}
		if len(a)+len(b) == 0 {
			continue
		}
		x, y := toBig(a), toBig(b)
		checkNat(t, "gcd", a.gcd(b), new(big.Int).GCD(nil, nil, x, y))
		if toBig(a).Cmp(x) != 0 || toBig(b).Cmp(y) != 0 {
			t.Fatal("gcd changes its arguments", x, y)
		}
	}
	// Neighbours among Fibonacci's numbers need the most of Euclid's steps.
	a, b := nat{1}, nat{1}
	for range 2000 {
		a, b = b, a.add(b)
		checkNat(t, "gcd of neighbours", b.gcd(a), big.NewInt(1))
	}
}

func TestNatRoots(t *testing.T) {
	r := rand.New(rand.NewPCG(5, 5))
	for range 5000 {
		a := anyNat(r, 8)
		switch r.IntN(4) {
		case 0:
			a = a.mul(a)
		case 1:
			if len(a) > 0 {
				a = a.mul(a).sub(nat{1})
			}
		}
		checkNat(t, "root", a.root(), new(big.Int).Sqrt(toBig(a)))
	}
	for n := range uint64(2000) {
		checkNat(t, "root of a small number", natOf(n).root(), new(big.Int).Sqrt(toBig(natOf(n))))
	}
}

func TestNatDigits(t *testing.T) {
	r := rand.New(rand.NewPCG(6, 6))
	for range 5000 {
		a := anyNat(r, 12)
		if s := toBig(a).String(); a.digits() != s {
			t.Fatal("digits", a.digits(), s)
		} else {
			checkNat(t, "natOfDigits", natOfDigits(s), toBig(a))
		}
		n := r.IntN(100)
		if len(a) == 0 {
			continue
		}
		rest, fives := a.mul(nat{5}.pow(n)).fives()
		if own := fives - n; own < 0 || rest.mul(nat{5}.pow(own)).cmp(a) != 0 || rest.mul(nat{1}).cmp(rest) != 0 {
			t.Fatal("fives", a, n, rest, fives)
		} else if _, last := rest.divWord(5); last == 0 {
			t.Fatal("a factor 5 is left", a, n)
		}
	}
	for n := range 100 { // powers of 10 and their neighbours
		a := nat{10}.pow(n)
		for _, b := range []nat{a, a.sub(nat{1}), a.add(nat{1})} {
			if b.digits() != toBig(b).String() {
				t.Error("digits", b.digits(), toBig(b))
			}
		}
	}
}
