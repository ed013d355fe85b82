package sum_test

import (
	"bytes"
	"errors"
	"math"
	"math/rand"
	"slices"
	"testing"

	"pinnace/api"
)

// errno is the number that errors.As finds in an error; 0 of nil, -1 of another error.
func errno(err error) api.Errno {
	if err == nil {
		return 0
	}
	var e api.Errno
	if errors.As(err, &e) {
		return e
	}
	return -1
}

// plain is the sum of bytes, and of more behind them, after the chapter's words: bit by bit, by numbers that don't wrap round.
func plain(s uint32, b []byte) uint32 {
	word := uint64(s)
	for _, c := range b {
		for _, place := range []int{128, 64, 32, 16, 8, 4, 2, 1} {
			bit := uint64(int(c) / place % 2)
			highest := word / (1 << 31)
			carry := highest ^ bit
			word = 2 * word % (1 << 32)
			if carry == 1 {
				word ^= 0x04c11db7
			}
		}
	}
	return uint32(word)
}

// plainOf is the sum of bytes after the chapter's words.
func plainOf(b []byte) uint32 {
	return plain(math.MaxUint32, b)
}

// plainTail are bytes, and their sum behind.
func plainTail(b []byte) []byte {
	s := plainOf(b)
	return append(slices.Clone(b), byte(s/(1<<24)), byte(s/(1<<16)%256), byte(s/(1<<8)%256), byte(s%256))
}

// table tells of each of a word's bits what it becomes. What noughts make of a word is what they make of its bits, xored.
type table [32]uint32

// apply is what a word becomes.
func (m table) apply(s uint32) uint32 {
	out := uint32(0)
	for i, w := range m {
		if s>>i&1 == 1 {
			out ^= w
		}
	}
	return out
}

// plainNoughts is the sum of bytes, and of so many noughts behind them, by tables of what 1, 2, 4 .. noughts make.
func plainNoughts(s uint32, n int64) uint32 {
	var m table
	for i := range m {
		m[i] = plain(1<<i, []byte{0})
	}
	for ; n > 0; n /= 2 {
		if n%2 == 1 {
			s = m.apply(s)
		}
		var twice table
		for i := range m {
			twice[i] = m.apply(m[i])
		}
		m = twice
	}
	return s
}

// TestModel holds the models against each other.
func TestModel(t *testing.T) {
	for n := range 300 {
		for _, s := range []uint32{0, 1, math.MaxUint32, 0x80000000, 0x0376e6e7} {
			if a, b := plain(s, make([]byte, n)), plainNoughts(s, int64(n)); a != b {
				t.Fatalf("%d noughts behind %x: %x and %x", n, s, a, b)
			}
		}
	}
	if s := plainOf([]byte("123456789")); s != 0x0376e6e7 {
		t.Errorf("the example: %x", s)
	}
}

// chance are so many bytes by chance.
func chance(r *rand.Rand, size int) []byte {
	out := make([]byte, size)
	for i := range out {
		out[i] = byte(r.Intn(256))
	}
	return out
}

// someTexts are bytes of all small lengths, and of some great ones; of noughts, of ones, and by chance.
func someTexts() [][]byte {
	out := [][]byte{nil, {}, []byte("123456789"), {0, 0, 0, 0}, {255, 255, 255, 255}, {255, 255, 255, 255, 0}, {0x80, 0, 0, 1}}
	r := rand.New(rand.NewSource(18))
	for size := range 70 {
		out = append(out, make([]byte, size), bytes.Repeat([]byte{0xff}, size), chance(r, size))
	}
	for _, size := range []int{255, 256, 257, 1000, 4095, 4096, 4097, 65536, 100003} {
		out = append(out, make([]byte, size), chance(r, size))
	}
	return out
}

// someSums are sums at the edges, each bit alone and each bit missing, and some by chance.
func someSums() []uint32 {
	out := []uint32{0, math.MaxUint32, 0x04c11db7, 0x0376e6e7, 0x12345678, 0x7fffffff, 0x0000ffff, 0xffff0000}
	for b := range 32 {
		out = append(out, 1<<b, ^uint32(1<<b))
	}
	r := rand.New(rand.NewSource(1))
	for range 20 {
		out = append(out, r.Uint32())
	}
	return out
}

// with are bytes in a greater room, all of which is the byte c behind them.
func with(b []byte, c byte) []byte {
	room := append(slices.Clone(b), c, c, c, c, c, c, c, c)
	return room[:len(b)]
}

// keeps is an error of the test, if bytes that with made, or the room behind them, are other ones now.
func keeps(t *testing.T, name string, b, was []byte, c byte) {
	t.Helper()
	if !bytes.Equal(b, was) {
		t.Errorf("%s: what was handed in was changed", name)
	}
	if !bytes.Equal(b[len(b):len(b)+8], bytes.Repeat([]byte{c}, 8)) {
		t.Errorf("%s: the room behind what was handed in was changed", name)
	}
}
