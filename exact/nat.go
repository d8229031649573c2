package exact

import (
	"cmp"
	"math/bits"
)

// nat is a natural number of any size: its words of 64 bits, the lowest one first, the highest one not 0; 0 has no words. The words of a nat that was returned never change.
type nat []uint64

// wordBits is how many bits a word has.
const wordBits = 64

// longFactor is the number of words from which a product is cut into smaller ones.
const longFactor = 40

func natOf(word uint64) nat {
	if word == 0 {
		return nil
	}
	return nat{word}
}

// trim leaves out the highest words that are 0.
func (a nat) trim() nat {
	n := len(a)
	for n > 0 && a[n-1] == 0 {
		n--
	}
	if n == 0 {
		return nil
	}
	return a[:n]
}

func (a nat) copied() nat {
	if len(a) == 0 {
		return nil
	}
	words := make(nat, len(a))
	copy(words, a)
	return words
}

func (a nat) isOne() bool {
	return len(a) == 1 && a[0] == 1
}

// bitLength is the number of binary digits; 0 has none.
func (a nat) bitLength() int {
	if len(a) == 0 {
		return 0
	}
	return (len(a)-1)*wordBits + bits.Len64(a[len(a)-1])
}

func (a nat) cmp(b nat) int {
	if len(a) != len(b) {
		return cmp.Compare(len(a), len(b))
	}
	for i := len(a) - 1; i >= 0; i-- {
		if a[i] != b[i] {
			return cmp.Compare(a[i], b[i])
		}
	}
	return 0
}

func (a nat) add(b nat) nat {
	if len(a) < len(b) {
		a, b = b, a
	}
	sum := make(nat, len(a)+1)
	copy(sum, a)
	addInto(sum, b)
	return sum.trim()
}

// sub returns a - b, for b that is at most a.
func (a nat) sub(b nat) nat {
	rest := a.copied()
	var borrow uint64
	for i := range rest {
		var word uint64
		if i < len(b) {
			word = b[i]
		}
		rest[i], borrow = bits.Sub64(rest[i], word, borrow)
	}
	return rest.trim()
}

// addInto adds b to a and returns what the words of a have no room for; a is at least as long as b.
func addInto(a, b nat) uint64 {
	var carry uint64
	for i, word := range b {
		a[i], carry = bits.Add64(a[i], word, carry)
	}
	for i := len(b); i < len(a) && carry != 0; i++ {
		a[i], carry = bits.Add64(a[i], 0, carry)
	}
	return carry
}

func (a nat) mul(b nat) nat {
	if len(a) < len(b) {
		a, b = b, a
	}
	if len(b) >= longFactor {
		return a.mulHalves(b)
	}
	product := make(nat, len(a)+len(b))
	for i, word := range b {
		product[i+len(a)] = addScaled(product[i:i+len(a)], a, word)
	}
	return product.trim()
}

// addScaled adds b times a word to a, which has as many words as b, and returns what they have no room for.
func addScaled(a, b nat, word uint64) uint64 {
	var carry uint64
	for i := range b {
		high, low := bits.Mul64(b[i], word)
		sum, c := bits.Add64(low, a[i], 0)
		high += c
		a[i], c = bits.Add64(sum, carry, 0)
		carry = high + c
	}
	return carry
}

// mulHalves multiplies the halves of a and b: with three products, not four, it needs fewer steps for long factors.
func (a nat) mulHalves(b nat) nat {
	half := (len(a) + 1) / 2
	lowA, highA := a.cut(half)
	lowB, highB := b.cut(half)
	low, high := lowA.mul(lowB), highA.mul(highB)
	middle := lowA.add(highA).mul(lowB.add(highB)).sub(low).sub(high)
	product := make(nat, len(a)+len(b)+1)
	copy(product, low)
	addInto(product[half:], middle)
	addInto(product[2*half:], high)
	return product.trim()
}

// cut returns the lowest words, and the others.
func (a nat) cut(words int) (low, high nat) {
	if len(a) <= words {
		return a, nil
	}
	return a[:words].trim(), a[words:]
}

func (a nat) pow(n int) nat {
	power := nat{1}
	for i := bits.Len(uint(n)) - 1; i >= 0; i-- {
		power = power.mul(power)
		if n>>i&1 == 1 {
			power = power.mul(a)
		}
	}
	return power
}

// shl returns a times 2 to the power n.
func (a nat) shl(n uint) nat {
	words, rest := int(n/wordBits), n%wordBits
	shifted := make(nat, len(a)+words+1)
	for i, word := range a {
		shifted[i+words] |= word << rest
		shifted[i+words+1] = word >> (wordBits - rest)
	}
	return shifted.trim()
}

// shr returns a divided by 2 to the power n, without what is behind the point.
func (a nat) shr(n uint) nat {
	words, rest := int(n/wordBits), n%wordBits
	if words >= len(a) {
		return nil
	}
	shifted := make(nat, len(a)-words)
	for i := range shifted {
		shifted[i] = a[i+words] >> rest
		if i+words+1 < len(a) {
			shifted[i] |= a[i+words+1] << (wordBits - rest)
		}
	}
	return shifted.trim()
}

// twos returns how often a, which is not 0, can be halved.
func (a nat) twos() int {
	n := 0
	for a[n] == 0 {
		n++
	}
	return n*wordBits + bits.TrailingZeros64(a[n])
}
