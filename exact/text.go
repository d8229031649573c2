package exact

import (
	"strings"

	"venturi/api"
)

// A word has room for any number of 19 digits, so that many are taken at once.
const (
	chunkDigits = 19
	chunkValue  = 10_000_000_000_000_000_000
)

// The greatest power of 5 in a word.
const (
	manyFives      = 27
	manyFivesValue = 7_450_580_596_923_828_125
)

// Parse returns the value of a numeral.
func Parse(s string) (Num, api.Errno) {
	if len(s) > api.MaxNumeral {
		return Num{}, api.ErrLong
	}
	text, negative := strings.CutPrefix(s, "-")
	if top, bottom, ok := strings.Cut(text, "/"); ok {
		if !isWhole(top) || !isWhole(bottom) || bottom == "0" {
			return Num{}, api.ErrForm
		}
		return reduced(negative, natOfDigits(top), natOfDigits(bottom)), api.OK
	}
	whole, places, ok := strings.Cut(text, ".")
	if !isWhole(whole) || ok && !isDigits(places) {
		return Num{}, api.ErrForm
	}
	return reduced(negative, natOfDigits(whole+places), nat{10}.pow(len(places))), api.OK
}

// isDigits reports whether a text is one or more digits.
func isDigits(s string) bool {
	for i := range len(s) {
		if s[i] < '0' || s[i] > '9' {
			return false
		}
	}
	return s != ""
}

// isWhole reports whether a text is digits without a needless 0 at the beginning.
func isWhole(s string) bool {
	return isDigits(s) && (s[0] != '0' || s == "0")
}

// natOfDigits returns the value of digits.
func natOfDigits(s string) nat {
	var value nat
	for len(s) > 0 {
		n := min(len(s), chunkDigits)
		scale, chunk := uint64(1), uint64(0)
		for i := range n {
			scale, chunk = scale*10, chunk*10+uint64(s[i]-'0')
		}
		value = value.mul(nat{scale}).add(natOf(chunk))
		s = s[n:]
	}
	return value
}

// digits returns the decimal digits of a.
func (a nat) digits() string {
	var chunks [][chunkDigits]byte // the lowest one first
	for rest := a.copied(); len(rest) > 0; rest = rest.trim() {
		chunks = append(chunks, chunkOf(shrink(rest, chunkValue)))
	}
	var b strings.Builder
	for i := len(chunks) - 1; i >= 0; i-- {
		b.Write(chunks[i][:])
	}
	if s := strings.TrimLeft(b.String(), "0"); s != "" {
		return s
	}
	return "0"
}

// chunkOf returns the digits of a number, zeros at the beginning included.
func chunkOf(n uint64) [chunkDigits]byte {
	var digits [chunkDigits]byte
	for i := len(digits) - 1; i >= 0; i-- {
		digits[i] = '0' + byte(n%10)
		n /= 10
	}
	return digits
}

// String returns the text of x.
func (x Num) String() string {
	sign := ""
	if x.negative {
		sign = "-"
	}
	bottom := x.bottom()
	twos := bottom.twos()
	rest, fives := bottom.shr(uint(twos)).fives()
	if !rest.isOne() {
		return sign + x.top.digits() + "/" + bottom.digits()
	}
	// As many places as the bottom has of the more frequent factor of 10 are enough, and no fewer are.
	places := max(twos, fives)
	scaled := x.top.mul(nat{5}.pow(places - fives)).shl(uint(places - twos))
	return sign + pointed(scaled.digits(), places)
}

// fives divides a, which is not 0, by 5 as often as it can be done, and returns how often.
func (a nat) fives() (nat, int) {
	a, many := a.without(manyFivesValue)
	a, few := a.without(5)
	return a, many*manyFives + few
}

// without divides a, which is not 0, by a factor as often as it has it, and returns how often.
func (a nat) without(factor uint64) (nat, int) {
	for n := 0; ; n++ {
		quotient, rest := a.divWord(factor)
		if rest != 0 {
			return a, n
		}
		a = quotient
	}
}

// pointed puts a point before the last places of some digits.
func pointed(digits string, places int) string {
	if places == 0 {
		return digits
	}
	if missing := places + 1 - len(digits); missing > 0 {
		digits = strings.Repeat("0", missing) + digits
	}
	at := len(digits) - places
	return digits[:at] + "." + digits[at:]
}
