package vault

import (
	"bytes"

	"venturi/api"
)

// The starts of the digests of keys, of the tags of customers, and of share words.
const (
	keyStart   = 1
	tagStart   = 2
	shareStart = 3
)

// The numbers of the stream of a key.
const (
	streamFactor = 6364136223846793005
	streamAddend = 1442695040888963407
)

// Digest returns start modulo Prime, after, for each byte b, it was multiplied by 257, and b + 1 was added, modulo Prime.
func Digest(start uint64, data []byte) uint64 {
	h := start % api.Prime
	for _, b := range data {
		// 2^61 is 1 modulo Prime, so h * 256 is the 61 bits of h, turned by 8: the product itself may have more than 64 bits.
		turned := h<<8&api.Prime + h>>53
		h = (turned + h + uint64(b) + 1) % api.Prime
	}
	return h
}

// Key returns the key of a name and a passphrase.
func Key(name, pass string) uint64 {
	return Digest(keyStart, []byte(name+"\x00"+pass))
}

// Cipher returns data, each byte exclusive-or a byte of the stream of the key; doing it twice undoes it.
func Cipher(key uint64, data []byte) []byte {
	coded := make([]byte, len(data))
	for i, b := range data {
		key = key*streamFactor + streamAddend
		coded[i] = b ^ byte(key>>56)
	}
	return coded
}

// highFirst returns data with so many bytes of a number behind it, the highest one first.
func highFirst(data []byte, x uint64, count int) []byte {
	for i := range count {
		data = append(data, byte(x>>(8*(count-1-i))))
	}
	return data
}

// keyTag returns the digest by which the key of a customer is told.
func keyTag(key uint64) uint64 {
	return Digest(tagStart, highFirst(nil, key, 8))
}

// padded returns the padded form of a text of less than 65536 bytes.
func padded(text string) []byte {
	blocks := (2 + len(text) + api.PadBytes - 1) / api.PadBytes
	data := make([]byte, blocks*api.PadBytes)
	data[0], data[1] = byte(len(text)/256), byte(len(text)%256)
	copy(data[2:], text)
	return data
}

// unpadded returns the text of which data, at least two bytes, is the padded form, and whether it is one.
func unpadded(data []byte) (string, bool) {
	end := 2 + int(data[0])*256 + int(data[1])
	if end > len(data) {
		return "", false
	}
	text := string(data[2:end])
	if !bytes.Equal(padded(text), data) {
		return "", false
	}
	return text, true
}
