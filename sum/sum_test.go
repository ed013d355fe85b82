package sum_test

import (
	"fmt"
	"math"
	"math/rand"
	"slices"
	"testing"

	"pinnace/api"
	"pinnace/sum"
)

// SM1: sums that stand here by hand.
func TestOfByHand(t *testing.T) {
	upTo := make([]byte, 256)
	for i := range upTo {
		upTo[i] = byte(i)
	}
	for _, c := range []struct {
		name string
		b    []byte
		want uint32
	}{
		{"nil", nil, 0xffffffff},
		{"no bytes", []byte{}, 0xffffffff},
		{"0", []byte{0}, 0x4e08bfb4},
		{"1", []byte{1}, 0x4ac9a203},
		{"128", []byte{128}, 0x27045f5a},
		{"255", []byte{255}, 0xffffff00},
		{"a", []byte("a"), 0xe66c6494},
		{"ab", []byte("ab"), 0x166c0232},
		{"abc", []byte("abc"), 0x9b73448c},
		{"pinnace", []byte("pinnace"), 0x51aa1f61},
		{"two noughts", make([]byte, 2), 0x00b7647d},
		{"four noughts", make([]byte, 4), 0xc704dd7b},
		{"256 noughts", make([]byte, 256), 0xe55e964f},
		{"65536 noughts", make([]byte, 65536), 0x288e1614},
		{"the sum of no bytes", []byte{255, 255, 255, 255}, 0},
		{"0 to 255", upTo, 0x494a116a},
		{"the chapter's", []byte("123456789"), 0x0376e6e7},
	} {
		if got := sum.Of(c.b); got != c.want {
			t.Errorf("Of(%s): %08x, not %08x", c.name, got, c.want)
		}
	}
}

// SM1: one byte of each value, behind no bytes and behind any sum.
func TestEachByte(t *testing.T) {
	for c := range 256 {
		b := []byte{byte(c)}
		if got, want := sum.Of(b), plainOf(b); got != want {
			t.Errorf("Of(%x): %08x, not %08x", b, got, want)
		}
		for _, s := range someSums() {
			if got, want := sum.More(s, b), plain(s, b); got != want {
				t.Fatalf("More(%08x, %x): %08x, not %08x", s, b, got, want)
			}
		}
	}
}

// SM1: of many bytes.
func TestOfMany(t *testing.T) {
	texts := append(someTexts(), chance(rand.New(rand.NewSource(3)), 1<<20))
	for _, b := range texts {
		if got, want := sum.Of(b), plainOf(b); got != want {
			t.Fatalf("Of %d bytes: %08x, not %08x", len(b), got, want)
		}
	}
}

// SM1: no bytes more leave the sum as it is, whatever it is; nil and the empty list are the same.
func TestMoreOfNoBytes(t *testing.T) {
	for _, s := range someSums() {
		if got := sum.More(s, nil); got != s {
			t.Errorf("More(%08x, nil): %08x", s, got)
		}
		if got := sum.More(s, []byte{}); got != s {
			t.Errorf("More(%08x, no bytes): %08x", s, got)
		}
	}
}

// SM1: any sum, and bytes behind it.
func TestMoreOfAnySum(t *testing.T) {
	r := rand.New(rand.NewSource(4))
	for _, s := range someSums() {
		for size := range 40 {
			b := chance(r, size)
			if got, want := sum.More(s, b), plain(s, b); got != want {
				t.Fatalf("More(%08x, %x): %08x, not %08x", s, b, got, want)
			}
		}
	}
	for range 2000 {
		s, b := r.Uint32(), chance(r, r.Intn(100))
		if got, want := sum.More(s, b), plain(s, b); got != want {
			t.Fatalf("More(%08x, %x): %08x, not %08x", s, b, got, want)
		}
	}
}

// SM1: bytes are only looked at, and so is the room behind them not.
func TestSumsLeaveTheirBytes(t *testing.T) {
	for _, text := range someTexts() {
		b := with(text, 0x5a)
		if got := sum.Of(b); got != plainOf(text) {
			t.Errorf("Of %d bytes in a greater room: %08x", len(text), got)
		}
		if got := sum.More(7, b); got != plain(7, text) {
			t.Errorf("More of %d bytes in a greater room: %08x", len(text), got)
		}
		keeps(t, fmt.Sprintf("%d bytes", len(text)), b, text, 0x5a)
	}
}

// SM1: so many noughts as can be laid out are the sum of so many bytes 0.
func TestNoughtsAreBytes(t *testing.T) {
	for _, s := range someSums() {
		for n := range 70 {
			got, err := sum.Noughts(s, n)
			if want := plain(s, make([]byte, n)); err != nil || got != want {
				t.Fatalf("Noughts(%08x, %d): %08x, %v, not %08x", s, n, got, err, want)
			}
		}
	}
	for _, n := range []int{100, 127, 128, 129, 255, 256, 257, 1000, 4095, 4096, 4097, 65535, 65536, 65537, 1 << 20} {
		for _, s := range []uint32{0, 1, math.MaxUint32, 0x0376e6e7} {
			got, err := sum.Noughts(s, n)
			if want := sum.More(s, make([]byte, n)); err != nil || got != want {
				t.Errorf("Noughts(%08x, %d): %08x, %v, not %08x", s, n, got, err, want)
			}
		}
	}
}

// SM1: the sum of no bytes goes on by noughts as any other.
func TestNoughtsFromTheBeginning(t *testing.T) {
	for n := range 300 {
		got, err := sum.Noughts(0xffffffff, n)
		if want := sum.Of(make([]byte, n)); err != nil || got != want {
			t.Errorf("%d noughts: %08x, %v, not %08x", n, got, err, want)
		}
	}
}

// SM1: no noughts leave the sum as it is; and of the sum 0 all noughts make 0.
func TestNoughtsThatChangeNothing(t *testing.T) {
	for _, s := range someSums() {
		if got, err := sum.Noughts(s, 0); err != nil || got != s {
			t.Errorf("Noughts(%08x, 0): %08x, %v", s, got, err)
		}
	}
	for _, n := range []int{1, 2, 255, 1 << 20, 1<<40 - 1, 1 << 40} {
		if got, err := sum.Noughts(0, n); err != nil || got != 0 {
			t.Errorf("Noughts(0, %d): %08x, %v", n, got, err)
		}
	}
}

// SM1: many noughts, by hand.
func TestManyNoughtsByHand(t *testing.T) {
	for _, c := range []struct {
		n    int
		want [3]uint32
	}{
		{1 << 20, [3]uint32{0xc7a8e31a, 0x725e7bfa, 0x367eeb21}},
		{1<<31 - 1, [3]uint32{0x9dd360ff, 0xb2b4bcb6, 0x107b7fb5}},
		{1 << 31, [3]uint32{0xc7b0424d, 0x00000010, 0x376e6e70}},
		{1<<32 - 1, [3]uint32{0xffffffff, 0x00000001, 0x0376e6e7}},
		{1 << 32, [3]uint32{0x4e08bfb4, 0x00000100, 0x7ba5c1d9}},
		{1000000000000, [3]uint32{0x7c1c8231, 0x1effca9a, 0x1ee62bf0}},
		{1<<40 - 1, [3]uint32{0xca975ed0, 0x83ecb1e4, 0x2c7b145a}},
		{1 << 40, [3]uint32{0xe55e964f, 0x88fe2237, 0xd63b7784}},
	} {
		for i, s := range []uint32{0xffffffff, 1, 0x0376e6e7} {
			if got, err := sum.Noughts(s, c.n); err != nil || got != c.want[i] {
				t.Errorf("Noughts(%08x, %d): %08x, %v, not %08x", s, c.n, got, err, c.want[i])
			}
		}
	}
}

// SM1: many noughts, of any sum, against tables.
func TestManyNoughts(t *testing.T) {
	r := rand.New(rand.NewSource(5))
	counts := []int{1<<40 - 1, 1 << 40, 1<<40 - 256}
	for bit := range 41 {
		counts = append(counts, 1<<bit, 1<<bit-1)
	}
	for range 200 {
		counts = append(counts, int(r.Int63n(1<<40+1)>>r.Intn(40)))
	}
	for _, n := range counts {
		for _, s := range []uint32{0, 1, 1 << 31, math.MaxUint32, r.Uint32(), r.Uint32()} {
			got, err := sum.Noughts(s, n)
			if want := plainNoughts(s, int64(n)); err != nil || got != want {
				t.Errorf("Noughts(%08x, %d): %08x, %v, not %08x", s, n, got, err, want)
			}
		}
	}
}

// SM1: so many noughts as there are sums but 0 lead back to each sum.
func TestNoughtsGoRound(t *testing.T) {
	const round = 1<<32 - 1
	for _, s := range someSums() {
		for _, n := range []int{0, 1, 2, 77, 255} {
			want := plain(s, make([]byte, n))
			for _, times := range []int{1, 2, 3, 100, 255} {
				if got, err := sum.Noughts(s, times*round+n); err != nil || got != want {
					t.Errorf("Noughts(%08x, %d rounds and %d): %08x, %v, not %08x", s, times, n, got, err, want)
				}
			}
		}
	}
}

// SM1: parts of a count, one behind the other, make what the whole makes; and what goes ahead of them may be bytes.
func TestNoughtsInParts(t *testing.T) {
	r := rand.New(rand.NewSource(6))
	wholes := []int{1 << 40, 1<<40 - 1, 1 << 32, 1<<32 - 1, 2, 1, 0}
	for range 100 {
		wholes = append(wholes, int(r.Int63n(1<<40)>>r.Intn(40)))
	}
	for _, n := range wholes {
		for _, part := range []int{0, n / 3, n / 2, n - n/7, n, int(r.Int63n(int64(n) + 1))} {
			s := r.Uint32()
			whole, err := sum.Noughts(s, n)
			first, err1 := sum.Noughts(s, part)
			both, err2 := sum.Noughts(first, n-part)
			if err != nil || err1 != nil || err2 != nil || whole != both {
				t.Errorf("Noughts(%08x, %d): %08x, but of %d and %d: %08x", s, n, whole, part, n-part, both)
			}
		}
	}
	for range 200 {
		ahead, behind, n := chance(r, r.Intn(30)), chance(r, r.Intn(30)), r.Intn(500)
		s, err := sum.Noughts(sum.Of(ahead), n)
		want := plainOf(slices.Concat(ahead, make([]byte, n), behind))
		if got := sum.More(s, behind); err != nil || got != want {
			t.Errorf("%x, %d noughts, %x: %08x, not %08x", ahead, n, behind, got, want)
		}
	}
}

// SM1: which counts can't be; 0 stands beside the error, whatever the sum is.
func TestNoughtsThatCannotBe(t *testing.T) {
	counts := []int{-1, -2, -256, math.MinInt32, -1 << 40, -1<<40 - 1, math.MinInt + 1, math.MinInt,
		1<<40 + 1, 1<<40 + 2, 1<<40 + 256, 1 << 41, 1<<41 - 1, 1<<62 + 1, math.MaxInt - 1, math.MaxInt}
	for _, n := range counts {
		for _, s := range someSums() {
			if got, err := sum.Noughts(s, n); errno(err) != api.ErrArg || got != 0 {
				t.Errorf("Noughts(%08x, %d): %08x, %v", s, n, got, err)
			}
		}
	}
}
