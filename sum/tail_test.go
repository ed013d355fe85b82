package sum_test

import (
	"bytes"
	"fmt"
	"math/rand"
	"slices"
	"testing"

	"pinnace/api"
	"pinnace/sum"
)

// cutCase are bytes, what Cut answers, and its error.
type cutCase struct {
	name string
	b    []byte
	want []byte
	err  api.Errno
}

// holds is an error of the test, if Cut answers something else, or changes what it is given.
func (c cutCase) holds(t *testing.T) {
	t.Helper()
	b := with(c.b, 0xc3)
	got, err := sum.Cut(b)
	if errno(err) != c.err || !bytes.Equal(got, c.want) {
		t.Errorf("Cut of %s: %x, %v; not %x, %d", c.name, got, err, c.want, c.err)
	}
	keeps(t, "Cut of "+c.name, b, c.b, 0xc3)
}

// SM2: the sum stands behind, as four bytes, the highest first.
func TestTailByHand(t *testing.T) {
	for _, c := range []struct{ b, want string }{
		{"", "\xff\xff\xff\xff"},
		{"\x00", "\x00\x4e\x08\xbf\xb4"},
		{"a", "a\xe6\x6c\x64\x94"},
		{"123456789", "123456789\x03\x76\xe6\xe7"},
		{"pinnace", "pinnace\x51\xaa\x1f\x61"},
		{"\xff\xff\xff\xff", "\xff\xff\xff\xff\x00\x00\x00\x00"},
	} {
		if got := sum.Tail([]byte(c.b)); string(got) != c.want {
			t.Errorf("Tail(%q): %q, not %q", c.b, got, c.want)
		}
	}
	if got := sum.Tail(nil); string(got) != "\xff\xff\xff\xff" {
		t.Errorf("Tail(nil): %q", got)
	}
}

// SM2: of no bytes, of some, of many; what was handed in stays as it is, and so does the room behind it.
func TestTailOfMany(t *testing.T) {
	for _, text := range someTexts() {
		b := with(text, 0x5a)
		if got := sum.Tail(b); !bytes.Equal(got, plainTail(text)) {
			t.Fatalf("Tail of %d bytes is another one", len(text))
		}
		keeps(t, fmt.Sprintf("Tail of %d bytes", len(text)), b, text, 0x5a)
	}
}

// SM2: the sum of bytes and of their sum is 0.
func TestTailMakesTheSumNought(t *testing.T) {
	for _, text := range someTexts() {
		if got := sum.Of(sum.Tail(text)); got != 0 {
			t.Errorf("the sum of Tail of %d bytes: %08x", len(text), got)
		}
	}
}

// SM2: what Cut takes is what Tail made.
func TestCutOfTail(t *testing.T) {
	for _, text := range someTexts() {
		cutCase{fmt.Sprintf("Tail of %d bytes", len(text)), sum.Tail(text), text, 0}.holds(t)
	}
	deep := []byte("pinnace")
	for range 10 {
		deep = sum.Tail(deep)
	}
	for range 10 {
		var err error
		if deep, err = sum.Cut(deep); err != nil {
			t.Fatalf("Cut of Tail of Tail: %v", err)
		}
	}
	if string(deep) != "pinnace" {
		t.Errorf("ten Tails, and ten Cuts: %q", deep)
	}
}

// SM2: fewer than four bytes are none that Tail made, whatever stands in the room behind them.
func TestCutOfTooFew(t *testing.T) {
	cutCase{"nil", nil, nil, api.ErrEnd}.holds(t)
	for size := range 4 {
		for _, b := range [][]byte{make([]byte, size), sum.Tail(nil)[:size], sum.Tail([]byte{1, 2, 3})[:size], sum.Tail([]byte{1})[5-size:]} {
			cutCase{fmt.Sprintf("%x", b), b, nil, api.ErrEnd}.holds(t)
			if got, err := sum.Cut(b); errno(err) != api.ErrEnd || len(got) != 0 {
				t.Errorf("Cut of %x: %x, %v", b, got, err)
			}
		}
	}
	for a := range 256 {
		for n := 1; n <= 3; n++ {
			b := bytes.Repeat([]byte{byte(a)}, n)
			cutCase{fmt.Sprintf("%x", b), b, nil, api.ErrEnd}.holds(t)
		}
	}
}

// SM2: of four bytes only the sum of no bytes can be taken off.
func TestCutOfFour(t *testing.T) {
	cutCase{"the sum of no bytes", []byte{255, 255, 255, 255}, nil, 0}.holds(t)
	for at := range 4 {
		for c := range 255 {
			b := []byte{255, 255, 255, 255}
			b[at] = byte(c)
			cutCase{fmt.Sprintf("%x", b), b, nil, api.ErrSum}.holds(t)
		}
	}
	for _, b := range [][]byte{{0, 0, 0, 0}, {4, 0xc1, 0x1d, 0xb7}, {0xb7, 0x1d, 0xc1, 4}, {1, 2, 3, 4}, {0xc7, 4, 0xdd, 0x7b}} {
		cutCase{fmt.Sprintf("%x", b), b, nil, api.ErrSum}.holds(t)
	}
}

// SM2: one of the last four, or one ahead, is another one.
func TestCutOfAnotherByte(t *testing.T) {
	for _, text := range [][]byte{{0}, {255}, []byte("123456789"), make([]byte, 20), bytes.Repeat([]byte{0xff}, 8)} {
		whole := sum.Tail(text)
		for at := range whole {
			for c := range 256 {
				b := slices.Clone(whole)
				b[at] = byte(c)
				if b[at] == whole[at] {
					cutCase{fmt.Sprintf("%x", b), b, text, 0}.holds(t)
					continue
				}
				cutCase{fmt.Sprintf("%x", b), b, nil, api.ErrSum}.holds(t)
			}
		}
	}
}

// SM2: sums that stand otherwise, or elsewhere, are none.
func TestCutOfOtherForms(t *testing.T) {
	for _, b := range []struct{ name, b string }{
		{"the lowest first", "123456789\xe7\xe6\x76\x03"},
		{"by twos", "123456789\x76\x03\xe7\xe6"},
		{"turned over", "123456789\xfc\x89\x19\x18"},
		{"0", "123456789\x00\x00\x00\x00"},
		{"no sum", "123456789"},
		{"the sum ahead", "\x03\x76\xe6\xe7123456789"},
		{"the sum of other bytes", "abc\x03\x76\xe6\xe7"},
		{"a byte too few at the end", "123456789\x03\x76\xe6"},
		{"a byte too many at the end", "123456789\x03\x76\xe6\xe7\x01"},
		{"a byte too few at the beginning", "23456789\x03\x76\xe6\xe7"},
		{"a byte too many at the beginning", "\x00123456789\x03\x76\xe6\xe7"},
		{"two bytes that changed places", "213456789\x03\x76\xe6\xe7"},
	} {
		cutCase{b.name, []byte(b.b), nil, api.ErrSum}.holds(t)
	}
}

// SM2: noughts behind what Tail made are the sum again, of more bytes, as the sum of all of them stays 0.
func TestCutOfNoughtsBehind(t *testing.T) {
	whole := sum.Tail([]byte("123456789"))
	for n := range 20 {
		b := append(slices.Clone(whole), make([]byte, n)...)
		cutCase{fmt.Sprintf("%d noughts behind", n), b, b[:9+n], 0}.holds(t)
	}
}

// SM2: bytes by chance, most of which are none that Tail made.
func TestCutByChance(t *testing.T) {
	r := rand.New(rand.NewSource(8))
	for range 5000 {
		b := chance(r, r.Intn(40))
		c := cutCase{fmt.Sprintf("%x", b), b, nil, api.ErrEnd}
		if end := len(b) - 4; end >= 0 {
			c.err = api.ErrSum
			if bytes.Equal(plainTail(b[:end]), b) {
				c.want, c.err = b[:end], 0
			}
		}
		c.holds(t)
	}
}

// fill writes to bytes, and to the room behind them.
func fill(b []byte, c byte) {
	b = b[:cap(b)]
	for i := range b {
		b[i] = c
	}
}

// SM2: what is answered is new memory, spare room too.
func TestAnswersAreNewMemory(t *testing.T) {
	for _, text := range someTexts() {
		b := with(text, 0x5a)
		fill(sum.Tail(b), 0x11)
		keeps(t, fmt.Sprintf("the answer of Tail of %d bytes", len(text)), b, text, 0x5a)

		whole := with(plainTail(text), 0x5a)
		out, err := sum.Cut(whole)
		if err != nil {
			t.Fatalf("Cut of %d bytes and their sum: %v", len(text), err)
		}
		fill(out, 0x11)
		keeps(t, fmt.Sprintf("the answer of Cut of %d bytes", len(text)), whole, plainTail(text), 0x5a)

		one, two := sum.Tail(text), sum.Tail(text)
		fill(one, 0x22)
		if !bytes.Equal(two, plainTail(text)) {
			t.Errorf("two answers of Tail of %d bytes share memory", len(text))
		}
	}
}
