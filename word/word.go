// Package word is layer 1: little words in bytes, and their bits: see shared/doc/01-word.md.
package word

import (
	"math/bits"
	"slices"
	"strings"

	"pinnace/api"
)

// digits stand by what they count.
const digits = "0123456789abcdef"

// Get is the number of so many bytes at a place, the lowest byte first.
func Get(b []byte, at, n int) (uint32, error) {
	if err := checkPlace(len(b), at, n); err != nil {
		return 0, err
	}
	var v uint32
	for _, c := range slices.Backward(b[at : at+n]) {
		v = v<<8 | uint32(c)
	}
	return v, nil
}

// With are bytes with a number of so many bytes at a place.
func With(b []byte, at, n int, v uint32) ([]byte, error) {
	if err := checkPlace(len(b), at, n); err != nil {
		return nil, err
	}
	out := make([]byte, len(b))
	copy(out, b)
	for i := range n {
		out[at+i] = byte(v >> (8 * i))
	}
	return out, nil
}

// checkPlace is an error, if a number of n bytes can't stand at a place of size bytes.
func checkPlace(size, at, n int) error {
	if n != 1 && n != 2 && n != 4 {
		return api.ErrWidth
	}
	// Not at+n > size: at may be so great that the sum wraps round.
	if at < 0 || at > size-n {
		return api.ErrRange
	}
	if at%n != 0 {
		return api.ErrAlign
	}
	return nil
}

// Sign is a number of so many bits, of which the highest one tells the sign, in 32 bits.
func Sign(v uint32, n int) uint32 {
	if n < 1 {
		return 0
	}
	if n > 31 {
		return v
	}
	// A number with a sign takes the sign along when it is moved down.
	return uint32(int32(v<<(32-n)) >> (32 - n))
}

// Field is the number of some bits.
func Field(v uint32, lo, n int) uint32 {
	return raise(v, -lo) & places(0, n)
}

// Set is a number with some bits set to another one's.
func Set(v uint32, lo, n int, x uint32) uint32 {
	mask := places(lo, n)
	return v&^mask | raise(x, lo)&mask
}

// places are the bits from lo on, n of them, as far as a word has them.
func places(lo, n int) uint32 {
	if n < 1 {
		return 0
	}
	if lo < 0 {
		// What lies below the word is taken off n; the sum can't wrap round, as one is above 0 and one below.
		return places(0, n+lo)
	}
	// A shift by 32 or more leaves 0, so that of n above 31 all bits are set.
	return (uint32(1)<<uint(n) - 1) << uint(lo)
}

// raise is v with each bit so many places higher; of by below 0, lower.
func raise(v uint32, by int) uint32 {
	if by < 0 {
		// The lowest int is its own opposite; as uint it is far enough to leave 0, as it should.
		return v >> uint(-by)
	}
	return v << uint(by)
}

// Bits are the places of all bits that are set, ascending.
func Bits(v uint32) []int {
	out := make([]int, 0, bits.OnesCount32(v))
	// v & (v - 1) is v without its lowest bit.
	for ; v != 0; v &= v - 1 {
		out = append(out, bits.TrailingZeros32(v))
	}
	return out
}

// Hex are the digits of a number.
func Hex(v uint32) string {
	var out [8]byte
	for i := range slices.Backward(out[:]) {
		out[i] = digits[v&15]
		v >>= 4
	}
	return string(out[:])
}

// Parse is the number of digits.
func Parse(s string) (uint32, error) {
	if len(s) < 1 || len(s) > 8 {
		return 0, api.ErrForm
	}
	var v uint32
	for i := range len(s) {
		digit := strings.IndexByte(digits, s[i])
		if digit < 0 {
			return 0, api.ErrForm
		}
		v = v<<4 | uint32(digit)
	}
	return v, nil
}
