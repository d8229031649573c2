package exact

import "math/bits"

// divWord returns the quotient and the remainder of a division by a word that is not 0.
func (a nat) divWord(word uint64) (nat, uint64) {
	quotient := a.copied()
	rest := shrink(quotient, word)
	return quotient.trim(), rest
}

// shrink divides a by a word that is not 0, in place, and returns the remainder.
func shrink(a nat, word uint64) uint64 {
	var rest uint64
	for i := len(a) - 1; i >= 0; i-- {
		a[i], rest = bits.Div64(rest, a[i], word)
	}
	return rest
}

// div returns the quotient and the remainder of a division by b, which is not 0.
func (a nat) div(b nat) (quotient, rest nat) {
	if a.cmp(b) < 0 {
		return nil, a
	}
	if len(b) == 1 {
		q, r := a.divWord(b[0])
		return q, natOf(r)
	}
	// With the highest bit of b at the top of its word, a quotient of a few words tells a word of the result almost exactly.
	shift := uint(bits.LeadingZeros64(b[len(b)-1]))
	b = b.shl(shift)
	rest = make(nat, len(a)+1)
	copy(rest, a.shl(shift))
	quotient = make(nat, len(a)-len(b)+1)
	for i := len(quotient) - 1; i >= 0; i-- {
		quotient[i] = takeOff(rest[i:i+len(b)+1], b)
	}
	return quotient.trim(), rest.trim().shr(shift)
}

// takeOff subtracts b from a as often as a has it, and returns how often. The highest bit of b is 1, and a has one word more than b; without its lowest word it is less than b.
func takeOff(a, b nat) uint64 {
	n := len(b)
	times := guess(a[n], a[n-1], a[n-2], b[n-1], b[n-2])
	missing := subScaled(a[:n], b, times)
	if missing > a[n] { // the guess was one too many
		times--
		addInto(a[:n], b)
	}
	a[n] = 0 // all of it was subtracted
	return times
}

// guess divides the number of the words a2, a1, a0 by that of the words b1, b0, of which the first one has its highest bit. The quotient of longer numbers that begin with these words is the guess, or one less (Knuth, The Art of Computer Programming, 4.3.1).
func guess(a2, a1, a0, b1, b0 uint64) uint64 {
	if a2 >= b1 {
		return 1<<wordBits - 1
	}
	times, rest := bits.Div64(a2, a1, b1)
	for {
		high, low := bits.Mul64(times, b0)
		if high < rest || high == rest && low <= a0 {
			return times
		}
		times--
		sum, carry := bits.Add64(rest, b1, 0)
		if carry != 0 {
			return times
		}
		rest = sum
	}
}

// subScaled subtracts b times a word from a, which has as many words as b, and returns what they do not have.
func subScaled(a, b nat, word uint64) uint64 {
	var missing uint64
	for i := range b {
		high, low := bits.Mul64(b[i], word)
		sum, c := bits.Add64(low, missing, 0)
		high += c
		a[i], c = bits.Sub64(a[i], sum, 0)
		missing = high + c
	}
	return missing
}

// over returns a divided by b, which is not 0 and divides a.
func (a nat) over(b nat) nat {
	if b.isOne() {
		return a
	}
	quotient, _ := a.div(b)
	return quotient
}

// gcd returns the greatest common divisor of a and b, which are not both 0. It takes many of Euclid's steps at once: what they do to long numbers is mostly told by the highest words (Lehmer).
func (a nat) gcd(b nat) nat {
	if a.cmp(b) < 0 {
		a, b = b, a
	}
	for len(b) > 1 {
		s := stepsOf(a, b)
		if s.b0 == 0 {
			_, rest := a.div(b)
			a, b = b, rest
		} else {
			a, b = s.done(a, b)
		}
	}
	if len(b) == 0 {
		return a
	}
	if b.isOne() {
		return nat{1}
	}
	_, rest := a.divWord(b[0])
	return nat{gcdWords(b[0], rest)}
}

func gcdWords(a, b uint64) uint64 {
	for b != 0 {
		a, b = b, a%b
	}
	return a
}

// steps is several steps of Euclid's algorithm: they replace a by a0 a - b0 b and b by b1 b - a1 a, if their number is even, and otherwise by the same with the other signs.
type steps struct {
	a0, a1, b0, b1 uint64
	even           bool
}

// stepsOf returns steps that are sure to be those of a and b, though they are found from their highest words alone; b, which is at most a, has two words or more. If there are none, b0 is 0.
func stepsOf(a, b nat) steps {
	n := len(a)
	shift := uint(bits.LeadingZeros64(a[n-1]))
	top := a[n-1]<<shift | a[n-2]>>(wordBits-shift)
	var next uint64 // the bits of b at the places of those of top
	if len(b) == n {
		next = b[n-1]<<shift | b[n-2]>>(wordBits-shift)
	} else if len(b) == n-1 {
		next = b[n-2] >> (wordBits - shift)
	}
	s := steps{a1: 1}
	a2, b2 := uint64(0), uint64(1) // what a1 and b1 are after the next step
	// The condition is that of Collins: the quotient of the highest words is that of the whole numbers.
	for next >= b2 && top-next >= s.b1+b2 {
		q := top / next
		top, next = next, top%next
		s.a0, s.a1, a2 = s.a1, a2, s.a1+q*a2
		s.b0, s.b1, b2 = s.b1, b2, s.b1+q*b2
		s.even = !s.even
	}
	return s
}

func (s steps) done(a, b nat) (nat, nat) {
	if s.even {
		return difference(a, s.a0, b, s.b0), difference(b, s.b1, a, s.a1)
	}
	return difference(b, s.b0, a, s.a0), difference(a, s.a1, b, s.b1)
}

// difference returns a times x less b times y, which is not negative and has no more words than the longer one of a and b; their lengths differ by at most one word.
func difference(a nat, x uint64, b nat, y uint64) nat {
	d := make(nat, max(len(a), len(b)))
	carry := addScaled(d[:len(a)], a, x)
	if len(a) < len(d) {
		d[len(a)] = carry
	}
	missing := subScaled(d[:len(b)], b, y)
	for i := len(b); i < len(d); i++ {
		d[i], missing = bits.Sub64(d[i], missing, 0)
	}
	return d.trim()
}

// root returns the greatest number whose square is at most a.
func (a nat) root() nat {
	if len(a) == 0 {
		return nil
	}
	// Newton's steps from above get smaller until they are at the root.
	above := nat{1}.shl(uint(a.bitLength()+1) / 2)
	for {
		quotient, _ := a.div(above)
		next := above.add(quotient).shr(1)
		if next.cmp(above) >= 0 {
			return above
		}
		above = next
	}
}
