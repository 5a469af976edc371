// Package word is layer 1: see shared/doc/01-word.md.
package word

import (
	"math/bits"

	"instar/api"
)

// size is how many bytes a word has.
const size = 4

// Need tells how many words bytes have.
func Need(n int) int {
	if n < 1 {
		return 0
	}
	return (n-1)/size + 1 // (n+size-1)/size would overflow for the greatest n
}

// shift tells how far byte i of a slice stands above the lowest bits of its word: the first byte is the most significant one.
func shift(i int) int { return 8 * (size - 1 - i%size) }

// byteAt is byte i of the words.
func byteAt(w []uint32, i int) byte { return byte(w[i/size] >> shift(i)) }

// Pack makes words of bytes.
func Pack(b []byte) []uint32 {
	w := make([]uint32, Need(len(b)))
	for i := range len(b) {
		w[i/size] |= uint32(b[i]) << shift(i)
	}
	return w
}

// Bytes makes bytes of words.
func Bytes(w []uint32, n int) ([]byte, api.Errno) {
	switch {
	case n < 0:
		return nil, api.ErrArg
	case len(w) < Need(n):
		return nil, api.ErrShort
	case len(w) > Need(n) || !blankFrom(w, n):
		return nil, api.ErrRest
	}
	b := make([]byte, n)
	for i := range n {
		b[i] = byteAt(w, i)
	}
	return b, api.OK
}

// blankFrom tells whether all bytes of the words from byte n on are 0.
func blankFrom(w []uint32, n int) bool {
	for i := range len(w)*size - n {
		if byteAt(w, n+i) != 0 {
			return false
		}
	}
	return true
}

// Ones counts the bits that are 1.
func Ones(x uint32) int { return bits.OnesCount32(x) }

// Within tells whether all bits of a word are in another one.
func Within(a, b uint32) bool { return a&^b == 0 }

// Torn is what a write leaves that was torn.
func Torn(was, x, mask uint32) uint32 { return was &^ (mask &^ x) }

// Raised is what an erasure leaves that was torn.
func Raised(was, mask uint32) uint32 { return was | mask }
