package vault_test

import (
	"bytes"
	"math"
	"math/big"
	"math/rand/v2"
	"slices"
	"testing"

	"venturi/api"
	"venturi/vault"
)

// big64 returns a number.
func big64(x uint64) *big.Int { return new(big.Int).SetUint64(x) }

// plainDigest computes the digest as a whole number, of which the remainder is taken at the end alone.
func plainDigest(start uint64, data []byte) uint64 {
	h, factor, one := big64(start), big64(257), big64(1)
	for _, b := range data {
		h.Mul(h, factor)
		h.Add(h, big64(uint64(b)))
		h.Add(h, one)
	}
	return h.Mod(h, big64(1<<61-1)).Uint64()
}

// plainCipher is the cipher in whole numbers.
func plainCipher(key uint64, data []byte) []byte {
	s, factor, addend := big64(key), big64(6364136223846793005), big64(1442695040888963407)
	end, high := new(big.Int).Lsh(big64(1), 64), new(big.Int).Lsh(big64(1), 56)
	var coded []byte
	for _, b := range data {
		s.Mod(s.Add(s.Mul(s, factor), addend), end)
		coded = append(coded, b^byte(new(big.Int).Div(s, high).Uint64()))
	}
	return coded
}

// anyStart returns a number, of which many are near to multiples of Prime.
func anyStart(r *rand.Rand) uint64 {
	return anyOf(r, 0, 1, 2, api.Prime-1, api.Prime, api.Prime+1, 2*api.Prime, 1<<61, 7*api.Prime-1, math.MaxUint64, r.Uint64(), r.Uint64(), r.Uint64N(api.Prime))
}

// P11.1: the document's examples 1 and 2.
func TestExamplesOfDigest(t *testing.T) {
	is(t, "no bytes", vault.Digest(5, nil), api.OK, 5)
	is(t, "0", vault.Digest(5, []byte{0}), api.OK, 1286)
	is(t, "0, 1", vault.Digest(5, []byte{0, 1}), api.OK, 330504)
	is(t, "2^61", vault.Digest(1<<61, nil), api.OK, 1)
}

// P11.1
func TestDigestAtPrime(t *testing.T) {
	is(t, "Prime", vault.Digest(api.Prime, nil), api.OK, 0)
	is(t, "below Prime", vault.Digest(api.Prime-1, []byte{}), api.OK, api.Prime-1)
	is(t, "the greatest start", vault.Digest(math.MaxUint64, nil), api.OK, 7)
	is(t, "to Prime", vault.Digest(api.Prime-1, []byte{255}), api.OK, api.Prime-1)
	is(t, "from Prime", vault.Digest(api.Prime, []byte{255}), api.OK, 256)
}

// P11.1
func TestAnyDigest(t *testing.T) {
	for r := range cases(3000) {
		start, data := anyStart(r), anyBytes(r, anyOf(r, 0, 1, 2, 8, r.IntN(300)))
		is(t, "Digest", vault.Digest(start, data), api.OK, plainDigest(start, data))
	}
}

// P11.1: bytes after which the digest is 0, and near to it.
func TestDigestsNearZero(t *testing.T) {
	inverse := new(big.Int).ModInverse(big64(257), big64(api.Prime))
	for b := range 256 {
		for near := range uint64(5) {
			// The start from which b leads to near - 2, modulo Prime.
			start := new(big.Int).Sub(big64(near+api.Prime-2), big64(uint64(b)+1))
			start.Mod(start.Mul(start, inverse), big64(api.Prime))
			is(t, "near to 0", vault.Digest(start.Uint64(), []byte{byte(b)}), api.OK, (near+api.Prime-2)%api.Prime)
		}
	}
}

// P11.2
func TestKey(t *testing.T) {
	for _, c := range [][2]string{{"ada", "x"}, {"", ""}, {"a", ""}, {"", "a"}, {"ab", "c"}, {"a", "bc"}, {"a\x00b", "c"}, {"\xff", "\x00"}, {"hall_of_20_bytes____", "a passphrase of 40 bytes, which are many"}} {
		is(t, "Key", vault.Key(c[0], c[1]), api.OK, plainDigest(1, slices.Concat([]byte(c[0]), []byte{0}, []byte(c[1]))))
	}
	is(t, "Key of nothing", vault.Key("", ""), api.OK, 258)
}

// P11.2
func TestCipher(t *testing.T) {
	isList(t, "the first byte of the key 0", vault.Cipher(0, []byte{0}), api.OK, 1442695040888963407>>56)
	isList(t, "the first byte of the key 1", vault.Cipher(1, []byte{255}), api.OK, 255^byte((6364136223846793005+1442695040888963407)>>56))
	for _, none := range [][]byte{nil, {}} {
		isList(t, "no bytes", vault.Cipher(5, none), api.OK)
	}
	for r := range cases(1000) {
		key, data := anyStart(r), anyBytes(r, r.IntN(200))
		isList(t, "Cipher", vault.Cipher(key, data), api.OK, plainCipher(key, data)...)
	}
}

// P11.9
func TestCipherTwice(t *testing.T) {
	for r := range cases(1000) {
		key, data := anyStart(r), anyBytes(r, r.IntN(200))
		isList(t, "Cipher of Cipher", vault.Cipher(key, vault.Cipher(key, data)), api.OK, data...)
	}
}

// P11.9: some of up to 7 neighbouring bytes.
func TestNeighbours(t *testing.T) {
	for r := range cases(5000) {
		data := anyBytes(r, 1+r.IntN(60))
		first := r.IntN(len(data))
		count := min(1+r.IntN(7), len(data)-first)
		other := slices.Concat(data[:first], anyBytes(r, count), data[first+count:])
		start := anyStart(r)
		if same := vault.Digest(start, data) == vault.Digest(start, other); same != bytes.Equal(data, other) {
			t.Error("the digests of", data, "and", other, "are equal:", same)
		}
	}
}

// P11.9: carries from one byte to the next one do not make digests equal.
func TestCarries(t *testing.T) {
	for _, c := range [][2][]byte{
		{{0, 255}, {1, 0}}, {{0, 254}, {1, 0}}, {{1, 0}, {0, 255}}, {{5, 0, 0}, {4, 255, 255}},
		{{1, 0, 0, 0, 0, 0, 0}, {0, 255, 255, 255, 255, 255, 255}}, {{0, 0, 0, 0, 0, 0, 0}, {255, 255, 255, 255, 255, 255, 255}},
	} {
		for _, start := range []uint64{0, 7, api.Prime - 1, math.MaxUint64} {
			if vault.Digest(start, c[0]) == vault.Digest(start, c[1]) {
				t.Error("the digests are equal", start, c)
			}
		}
	}
}

// P11.9: two starts.
func TestStarts(t *testing.T) {
	for r := range cases(5000) {
		data := anyBytes(r, r.IntN(60))
		a, b := anyStart(r), anyStart(r)
		if same := vault.Digest(a, data) == vault.Digest(b, data); same != (a%api.Prime == b%api.Prime) {
			t.Error("the digests with", a, "and", b, "are equal:", same)
		}
	}
}
