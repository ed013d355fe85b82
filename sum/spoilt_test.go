package sum_test

import (
	"bytes"
	"fmt"
	"math/rand"
	"slices"
	"testing"

	"pinnace/api"
	"pinnace/sum"
)

// flip changes so many bits as a pattern has, the pattern's highest first, from a bit on, as far as the bytes go; a byte's highest bit is its first.
func flip(b []byte, at int, pattern uint64, width int) {
	for i := range min(width, 8*len(b)-at) {
		if pattern>>(width-1-i)&1 == 1 {
			b[(at+i)/8] ^= 0x80 >> ((at + i) % 8)
		}
	}
}

// refused tells whether Cut refuses Tail's bytes with a pattern of bits changed from a bit on, one of which at least must lie within them.
func refused(whole []byte, at int, pattern uint64, width int) bool {
	b := slices.Clone(whole)
	flip(b, at, pattern, width)
	out, err := sum.Cut(b)
	return errno(err) == api.ErrSum && len(out) == 0
}

// wholes are what Tail makes of short texts.
func wholes() [][]byte {
	r := rand.New(rand.NewSource(10))
	out := [][]byte{sum.Tail([]byte("123456789")), sum.Tail(make([]byte, 16)), sum.Tail(bytes.Repeat([]byte{0xff}, 16))}
	for size := range 14 {
		out = append(out, sum.Tail(chance(r, size)))
	}
	return out
}

// SM3: however bytes are cut the sum is the same.
func TestSumOfCutBytes(t *testing.T) {
	for _, b := range someTexts() {
		step := 1 + len(b)/500
		for at := 0; at <= len(b); at += step {
			if got, want := sum.More(sum.Of(b[:at]), b[at:]), sum.Of(b); got != want {
				t.Fatalf("%d bytes, cut at %d: %08x, not %08x", len(b), at, got, want)
			}
		}
	}
	b := []byte("123456789, and some more")
	for i := range len(b) + 1 {
		for j := i; j <= len(b); j++ {
			s := sum.More(sum.More(sum.More(0xffffffff, b[:i]), b[i:j]), b[j:])
			if s != plainOf(b) {
				t.Errorf("cut at %d and %d: %08x", i, j, s)
			}
		}
	}
}

// SM3: bytes one by one, and in pieces by chance.
func TestSumOfPieces(t *testing.T) {
	r := rand.New(rand.NewSource(11))
	for _, b := range someTexts() {
		one, pieces := uint32(0xffffffff), uint32(0xffffffff)
		for i := range b {
			one = sum.More(one, b[i:i+1])
		}
		for rest := b; len(rest) > 0; {
			n := 1 + r.Intn(len(rest))
			pieces = sum.More(pieces, rest[:n])
			rest = rest[n:]
		}
		if want := sum.Of(b); one != want || pieces != want {
			t.Errorf("%d bytes: %08x, one by one %08x, in pieces %08x", len(b), want, one, pieces)
		}
	}
}

// SM3: each single bit, and each two neighbours, that are changed.
func TestFewBitsChanged(t *testing.T) {
	all := append(wholes(), sum.Tail(chance(rand.New(rand.NewSource(12)), 500)))
	for _, whole := range all {
		for at := range 8 * len(whole) {
			if !refused(whole, at, 1, 1) {
				t.Errorf("Cut takes %d bytes with the bit %d changed", len(whole), at)
			}
			if !refused(whole, at, 3, 2) {
				t.Errorf("Cut takes %d bytes with the bits %d and %d changed", len(whole), at, at+1)
			}
		}
	}
}

// SM3: each two bits within 32 that follow one another.
func TestTwoBitsChanged(t *testing.T) {
	for _, whole := range wholes() {
		for at := range 8 * len(whole) {
			for gap := 1; gap < 32; gap++ {
				if !refused(whole, at, 1|1<<gap, gap+1) {
					t.Errorf("Cut takes %d bytes with the bits %d and %d changed", len(whole), at, at+gap)
				}
			}
		}
	}
}

// SM3: whatever is changed within 32 bits that follow one another, from each bit on, across the place where the sum begins, too.
func TestManyBitsChanged(t *testing.T) {
	r := rand.New(rand.NewSource(13))
	patterns := []uint64{0xffffffff, 0xfffffffe, 0x7fffffff, 0x80000001, 0xaaaaaaaa, 0x55555555, 0xffff0000, 0x0000ffff,
		0x00ffff00, 0xff0000ff, 0x04c11db7, 0x82608edb, 0xedb88320, 0x04c11db6, 0x826008ef, 0x12345678}
	for range 60 {
		patterns = append(patterns, uint64(r.Uint32())|1<<31|1)
	}
	for width := 1; width < 32; width++ {
		patterns = append(patterns, 1<<width-1)
	}
	for _, whole := range wholes() {
		for at := range 8*len(whole) - 31 {
			for _, pattern := range patterns {
				if !refused(whole, at, pattern, 32) {
					t.Errorf("Cut takes %d bytes changed by %08x from the bit %d on", len(whole), pattern, at)
				}
			}
		}
	}
}

// SM3: all changes within the four bytes of the sum, the last text byte and three of the sum, and so on, by chance.
func TestFourBytesChanged(t *testing.T) {
	r := rand.New(rand.NewSource(14))
	text := []byte("moves")
	whole := sum.Tail(text)
	for range 100000 {
		b := slices.Clone(whole)
		at := r.Intn(len(b) - 3)
		copy(b[at:], chance(r, 4))
		out, err := sum.Cut(b)
		if bytes.Equal(b, whole) {
			continue
		}
		if errno(err) != api.ErrSum || len(out) != 0 {
			t.Fatalf("Cut takes %x in the stead of %x", b, whole)
		}
	}
}

// SM3: 32 is the bound: there is one change of 33 bits that no sum of so many bits can tell.
func TestOneBitMoreThanThatIsTaken(t *testing.T) {
	for _, whole := range wholes() {
		for at := range 8*len(whole) - 32 {
			b := slices.Clone(whole)
			flip(b, at, 0x104c11db7, 33)
			if out, err := sum.Cut(b); err != nil || !bytes.Equal(out, b[:len(b)-4]) {
				t.Errorf("Cut of %d bytes changed from the bit %d on: %x, %v", len(whole), at, out, err)
			}
		}
	}
}

// xored are three texts of one length, xored byte by byte.
func xored(a, b, c []byte) []byte {
	out := make([]byte, len(a))
	for i := range out {
		out[i] = a[i] ^ b[i] ^ c[i]
	}
	return out
}

// SM3: of three texts of one length, xored, the sum is the three sums, xored.
func TestThreeTexts(t *testing.T) {
	r := rand.New(rand.NewSource(15))
	for size := range 300 {
		a, b, c := chance(r, size), chance(r, size), chance(r, size)
		all := xored(a, b, c)
		if got, want := sum.Of(all), sum.Of(a)^sum.Of(b)^sum.Of(c); got != want {
			t.Errorf("three texts of %d bytes: %08x, but their sums %08x", size, got, want)
		}
		whole := xored(sum.Tail(a), sum.Tail(b), sum.Tail(c))
		cutCase{fmt.Sprintf("three texts of %d bytes and their sums", size), whole, all, 0}.holds(t)
	}
	one, other := []byte("123456789"), []byte("987654321")
	if got := sum.Of(xored(one, other, other)); got != 0x0376e6e7 {
		t.Errorf("a text, and another one twice: %08x", got)
	}
	if got := sum.Of(nil) ^ sum.Of(nil) ^ sum.Of(nil); got != sum.Of(nil) {
		t.Errorf("three times no bytes: %08x", got)
	}
}

// SM3: of two texts it does not hold: the sum begins at what is not 0.
func TestTwoTexts(t *testing.T) {
	r := rand.New(rand.NewSource(16))
	for size := range 50 {
		a, b := chance(r, size), chance(r, size)
		nought := sum.Of(make([]byte, size))
		if got, want := sum.Of(xored(a, b, make([]byte, size))), sum.Of(a)^sum.Of(b)^nought; got != want || nought == 0 {
			t.Errorf("two texts of %d bytes: %08x, not %08x", size, got, want)
		}
	}
}

// SM1 to SM3: what a call answers hangs on its arguments alone, whatever was asked for ahead, and by how many at once.
func TestNothingIsKept(t *testing.T) {
	texts := someTexts()[:60]
	done := make(chan string)
	for range 4 {
		go func() {
			for range 20 {
				for _, b := range texts {
					out, err := sum.Cut(sum.Tail(b))
					n, err2 := sum.Noughts(sum.Of(b), 1<<40-256+len(b))
					if err != nil || err2 != nil || !bytes.Equal(out, b) || n != plain(plainOf(b), make([]byte, len(b))) {
						done <- fmt.Sprintf("%x: %x, %08x", b, out, n)
						return
					}
				}
			}
			done <- ""
		}()
	}
	for range 4 {
		if wrong := <-done; wrong != "" {
			t.Error(wrong)
		}
	}
}
