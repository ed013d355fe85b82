package word_test

import (
	"bytes"
	"errors"
	"fmt"
	"math"
	"math/big"
	"slices"
	"strings"
	"testing"

	"pinnace/api"
	"pinnace/word"
)

// errno is the number that errors.As finds in an error; 0 of nil, -1 of another error.
func errno(err error) api.Errno {
	if err == nil {
		return 0
	}
	var e api.Errno
	if errors.As(err, &e) {
		return e
	}
	return -1
}

// someWords are words at the edges, and some between.
func someWords() []uint32 {
	out := []uint32{0, 1, 2, 0x7f, 0x80, 0xff, 0x100, 0x7fff, 0x8000, 0xffff, 0x10000, 0x01020304, 0xfedcba98,
		0x55555555, 0xaaaaaaaa, 0x7fffffff, 0x80000000, 0x80000001, 0xfffffffe, math.MaxUint32}
	v := uint32(12345)
	for range 20 {
		v = v*1664525 + 1013904223
		out = append(out, v)
	}
	return out
}

// someCounts are places and lengths, below 0 and past the end among them.
func someCounts() []int {
	out := []int{math.MinInt, math.MinInt + 1, math.MinInt + 31, math.MinInt + 32, math.MinInt32, -1 << 32, -100, -65, -64,
		100, 1 << 32, 1<<32 + 1, math.MaxInt32, math.MaxInt - 32, math.MaxInt - 31, math.MaxInt - 1, math.MaxInt}
	for i := -40; i <= 70; i++ {
		out = append(out, i)
	}
	return out
}

// placeCase is a place of a number in bytes, and the error it makes.
type placeCase struct {
	size, at, n int
	want        api.Errno
}

func placeCases() []placeCase {
	return []placeCase{
		{4, 0, 1, 0}, {4, 3, 1, 0}, {4, 0, 2, 0}, {4, 2, 2, 0}, {4, 0, 4, 0}, {9, 8, 1, 0}, {9, 6, 2, 0}, {9, 4, 4, 0},

		{8, 0, 0, api.ErrWidth}, {8, 0, 3, api.ErrWidth}, {8, 0, 5, api.ErrWidth}, {8, 0, 8, api.ErrWidth},
		{8, 0, -1, api.ErrWidth}, {8, 0, -4, api.ErrWidth},
		{8, 0, math.MinInt, api.ErrWidth}, {8, 0, math.MaxInt, api.ErrWidth},

		{0, 0, 1, api.ErrRange}, {0, 0, 2, api.ErrRange}, {0, 0, 4, api.ErrRange},
		{3, 0, 4, api.ErrRange}, {1, 0, 2, api.ErrRange}, {8, 8, 1, api.ErrRange}, {8, 8, 2, api.ErrRange},
		{8, 8, 4, api.ErrRange}, {7, 4, 4, api.ErrRange}, {7, 6, 2, api.ErrRange},
		{8, -4, 4, api.ErrRange}, {8, -2, 2, api.ErrRange}, {8, -1, 1, api.ErrRange},
		{8, math.MinInt, 4, api.ErrRange}, {8, math.MaxInt, 1, api.ErrRange}, {8, math.MaxInt - 1, 2, api.ErrRange},
		{8, math.MaxInt - 3, 4, api.ErrRange},

		{8, 1, 2, api.ErrAlign}, {8, 5, 2, api.ErrAlign}, {8, 1, 4, api.ErrAlign}, {8, 2, 4, api.ErrAlign},
		{8, 3, 4, api.ErrAlign}, {5, 1, 4, api.ErrAlign},

		// Several errors at once: the one that is named first.
		{8, -1, 3, api.ErrWidth}, {8, 9, 0, api.ErrWidth}, {8, 5, 3, api.ErrWidth}, {8, 100, 8, api.ErrWidth},
		{8, -1, 4, api.ErrRange}, {8, -3, 2, api.ErrRange}, {8, 7, 2, api.ErrRange}, {8, 5, 4, api.ErrRange},
		{8, math.MaxInt, 4, api.ErrRange},
	}
}

// counted are so many bytes, all different from their neighbours.
func counted(size int) []byte {
	out := make([]byte, size)
	for i := range out {
		out[i] = byte(0xf1 - 37*i)
	}
	return out
}

// WO1: which places may be, and which error comes first.
func TestPlaces(t *testing.T) {
	for _, c := range placeCases() {
		name := fmt.Sprintf("%d bytes, at %d, %d", c.size, c.at, c.n)
		b := counted(c.size)
		v, err := word.Get(b, c.at, c.n)
		if errno(err) != c.want || err != nil && v != 0 {
			t.Errorf("Get of %s: %x, %v; asked for error %d", name, v, err, c.want)
		}
		out, err := word.With(b, c.at, c.n, 0x11223344)
		if errno(err) != c.want || err != nil && len(out) != 0 {
			t.Errorf("With of %s: %x, %v; asked for error %d", name, out, err, c.want)
		}
		if !bytes.Equal(b, counted(c.size)) {
			t.Errorf("%s: the bytes handed in were changed", name)
		}
	}
	if _, err := word.Get(nil, 0, 1); errno(err) != api.ErrRange {
		t.Errorf("Get of nil: %v", err)
	}
	if _, err := word.With(nil, 0, 1, 0); errno(err) != api.ErrRange {
		t.Errorf("With of nil: %v", err)
	}
}

// WO1: bytes that lie behind the list's end, in its spare room, are not there.
func TestSpareRoomIsNotThere(t *testing.T) {
	b := counted(8)[:3]
	if v, err := word.Get(b, 0, 4); v != 0 || errno(err) != api.ErrRange {
		t.Errorf("Get: %x, %v", v, err)
	}
	if out, err := word.With(b, 0, 4, 1); len(out) != 0 || errno(err) != api.ErrRange {
		t.Errorf("With: %x, %v", out, err)
	}
}

// WO1: the lowest byte first.
func TestGet(t *testing.T) {
	b := []byte{1, 2, 3, 4, 0xff, 0xfe, 0x80, 0x7f, 9}
	for _, c := range []struct {
		at, n int
		want  uint32
	}{
		{0, 4, 0x04030201}, {4, 4, 0x7f80feff}, {0, 2, 0x0201}, {2, 2, 0x0403}, {4, 2, 0xfeff}, {6, 2, 0x7f80},
		{0, 1, 1}, {3, 1, 4}, {4, 1, 0xff}, {8, 1, 9},
	} {
		if v, err := word.Get(b, c.at, c.n); v != c.want || err != nil {
			t.Errorf("Get at %d, %d: %x, %v; asked for %x", c.at, c.n, v, err, c.want)
		}
	}
}

// WO1: v's lowest bytes, the lowest first, and all others as they were.
func TestWith(t *testing.T) {
	b := []byte{1, 2, 3, 4, 5, 6, 7, 8, 9}
	for _, c := range []struct {
		at, n int
		want  []byte
	}{
		{0, 4, []byte{0x44, 0x33, 0x22, 0xf1, 5, 6, 7, 8, 9}},
		{4, 4, []byte{1, 2, 3, 4, 0x44, 0x33, 0x22, 0xf1, 9}},
		{0, 2, []byte{0x44, 0x33, 3, 4, 5, 6, 7, 8, 9}},
		{6, 2, []byte{1, 2, 3, 4, 5, 6, 0x44, 0x33, 9}},
		{0, 1, []byte{0x44, 2, 3, 4, 5, 6, 7, 8, 9}},
		{8, 1, []byte{1, 2, 3, 4, 5, 6, 7, 8, 0x44}},
	} {
		if out, err := word.With(b, c.at, c.n, 0xf1223344); !bytes.Equal(out, c.want) || err != nil {
			t.Errorf("With at %d, %d: %x, %v; asked for %x", c.at, c.n, out, err, c.want)
		}
	}
}

// Rule 3: what is handed in stays, and an answer is new memory, its spare room too.
func TestNewMemory(t *testing.T) {
	whole := counted(16)
	b := whole[:8]
	for _, v := range []uint32{0x11223344, 0xd0b4e7cc} {
		out, err := word.With(b, 4, 4, v)
		if err != nil {
			t.Fatal(err)
		}
		room := out[:cap(out)]
		for i := range room {
			room[i] = 0
		}
		if !bytes.Equal(whole, counted(16)) {
			t.Fatalf("With of %x shares memory with its argument", v)
		}
	}
	same, err := word.Get(b, 0, 4)
	if err != nil {
		t.Fatal(err)
	}
	// A With that changes nothing is new memory as well.
	out, err := word.With(b, 0, 4, same)
	if err != nil || !bytes.Equal(out, b) {
		t.Fatalf("With: %x, %v", out, err)
	}
	out[0]++
	if !bytes.Equal(whole, counted(16)) {
		t.Fatal("With of the same number shares memory with its argument")
	}
	first, second := word.Bits(7), word.Bits(7)
	first[0] = 99
	if !slices.Equal(second, []int{0, 1, 2}) || !slices.Equal(word.Bits(7), []int{0, 1, 2}) {
		t.Error("two answers of Bits share memory")
	}
}

// WO2: Sign bit by bit.
func TestSign(t *testing.T) {
	for _, v := range someWords() {
		for _, n := range someCounts() {
			if got, want := word.Sign(v, n), plainSign(v, n); got != want {
				t.Fatalf("Sign of %x, %d: %x; asked for %x", v, n, got, want)
			}
		}
	}
	for _, c := range []struct {
		v    uint32
		n    int
		want uint32
	}{
		{0x80, 8, 0xffffff80}, {0x7f, 8, 0x7f}, {0x17f, 8, 0x7f}, {0xffffff00, 8, 0}, {1, 1, 0xffffffff}, {2, 1, 0},
		{0x40000000, 31, 0xc0000000}, {0xbfffffff, 31, 0x3fffffff}, {0x89abcdef, 32, 0x89abcdef},
		{0x89abcdef, 33, 0x89abcdef}, {0x89abcdef, 0, 0}, {0x89abcdef, -1, 0}, {0x89abcdef, math.MinInt, 0},
		{0x89abcdef, math.MaxInt, 0x89abcdef},
	} {
		if got := word.Sign(c.v, c.n); got != c.want {
			t.Errorf("Sign of %x, %d: %x; asked for %x", c.v, c.n, got, c.want)
		}
	}
}

func plainSign(v uint32, n int) uint32 {
	if n < 1 {
		return 0
	}
	if n > 31 {
		return v
	}
	var out uint32
	for i := range 32 {
		out |= bit(v, big.NewInt(int64(min(i, n-1)))) << i
	}
	return out
}

// bit is v's bit at a place, 0 where a word has none; places are big, so that no sum of them wraps round.
func bit(v uint32, place *big.Int) uint32 {
	if place.Sign() < 0 || place.Cmp(big.NewInt(31)) > 0 {
		return 0
	}
	return v >> place.Int64() & 1
}

func plainField(v uint32, lo, n int) uint32 {
	var out uint32
	for i := range max(0, min(n, 32)) {
		place := new(big.Int).Add(big.NewInt(int64(lo)), big.NewInt(int64(i)))
		out |= bit(v, place) << i
	}
	return out
}

func plainSet(v uint32, lo, n int, x uint32) uint32 {
	for place := range 32 {
		i := new(big.Int).Sub(big.NewInt(int64(place)), big.NewInt(int64(lo)))
		if i.Sign() >= 0 && i.Cmp(big.NewInt(int64(n))) < 0 {
			v = v&^(1<<place) | bit(x, i)<<place
		}
	}
	return v
}

// WO2: Field and Set, held against the rule taken bit by bit.
func TestFieldAndSetBitByBit(t *testing.T) {
	words := someWords()
	for _, lo := range someCounts() {
		for _, n := range someCounts() {
			v := words[uint(lo+3*n)%uint(len(words))]
			x := words[uint(5*lo-n)%uint(len(words))]
			for _, pair := range [][2]uint32{{v, x}, {0, math.MaxUint32}, {math.MaxUint32, 0}} {
				if got, want := word.Field(pair[0], lo, n), plainField(pair[0], lo, n); got != want {
					t.Fatalf("Field of %x, %d, %d: %x; asked for %x", pair[0], lo, n, got, want)
				}
				if got, want := word.Set(pair[0], lo, n, pair[1]), plainSet(pair[0], lo, n, pair[1]); got != want {
					t.Fatalf("Set of %x, %d, %d, %x: %x; asked for %x", pair[0], lo, n, pair[1], got, want)
				}
			}
		}
	}
}

// WO2: Field at the edges that the chapter names.
func TestField(t *testing.T) {
	for _, c := range []struct {
		v     uint32
		lo, n int
		want  uint32
	}{
		{0x12345678, 0, 32, 0x12345678}, {0x12345678, 8, 8, 0x56}, {0x12345678, 28, 4, 1}, {0x12345678, 28, 40, 1},
		{0x80000000, 31, 1, 1}, {0xffffffff, 32, 1, 0}, {0xffffffff, 33, 32, 0}, {0xffffffff, 30, 5, 3},
		{0xffffffff, -4, 8, 0xf0}, {0xffffffff, -4, 4, 0}, {0xffffffff, -31, 32, 0x80000000},
		{0xffffffff, -31, 31, 0}, {0xffffffff, -32, 64, 0}, {0xffffffff, -40, 80, 0}, {0x12345678, 0, 99, 0x12345678},
		{0xffffffff, 0, 0, 0}, {0xffffffff, 0, -1, 0}, {0xffffffff, 4, math.MinInt, 0},
		{0xffffffff, 4, math.MaxInt, 0x0fffffff}, {0xffffffff, math.MinInt, math.MaxInt, 0},
		{0xffffffff, math.MaxInt, math.MaxInt, 0},
	} {
		if got := word.Field(c.v, c.lo, c.n); got != c.want {
			t.Errorf("Field of %x, %d, %d: %x; asked for %x", c.v, c.lo, c.n, got, c.want)
		}
	}
}

// WO2: Set at the edges that the chapter names.
func TestSet(t *testing.T) {
	for _, c := range []struct {
		v     uint32
		lo, n int
		x     uint32
		want  uint32
	}{
		{0x12345678, 8, 8, 0xab, 0x1234ab78}, {0x12345678, 8, 8, 0xffffffab, 0x1234ab78}, {0x12345678, 0, 32, 1, 1},
		{0, 31, 1, 1, 0x80000000}, {0, 31, 9, 0xffffffff, 0x80000000}, {5, 32, 4, 0xf, 5}, {5, 0, 0, 0xf, 5},
		{5, 0, -1, 0xf, 5}, {5, -4, 8, 0xa5, 0xa}, {0xffffffff, -4, 4, 0, 0xffffffff},
		{0xffffffff, -4, math.MinInt, 0, 0xffffffff},
		// Bits of x above 31 are 0, and are set as such.
		{0xffffffff, -32, 33, 0xffffffff, 0xfffffffe}, {0xffffffff, -40, 72, 0xffffffff, 0},
		{0xffffffff, -16, 48, 0xffffffff, 0xffff}, {0xffffffff, -32, 32, 0, 0xffffffff},
		{0, 4, math.MaxInt, 0xffffffff, 0xfffffff0},
		{0xffffffff, -math.MaxInt, math.MaxInt, 0xffffffff, 0xffffffff},
		{0xffffffff, 1 - math.MaxInt, math.MaxInt, 0xffffffff, 0xfffffffe},
		{0xffffffff, math.MinInt, math.MaxInt, 0, 0xffffffff}, {7, math.MaxInt, math.MaxInt, 0, 7},
	} {
		if got := word.Set(c.v, c.lo, c.n, c.x); got != c.want {
			t.Errorf("Set of %x, %d, %d, %x: %x; asked for %x", c.v, c.lo, c.n, c.x, got, c.want)
		}
	}
}

// WO2: the places of all bits that are set, ascending.
func TestBits(t *testing.T) {
	for _, v := range someWords() {
		var want []int
		for i := range 32 {
			if v>>i&1 == 1 {
				want = append(want, i)
			}
		}
		if got := word.Bits(v); !slices.Equal(got, want) {
			t.Errorf("Bits of %x: %v; asked for %v", v, got, want)
		}
	}
	if got := word.Bits(0x80000005); !slices.Equal(got, []int{0, 2, 31}) {
		t.Errorf("Bits: %v", got)
	}
}

// WO3: eight digits, small letters.
func TestHex(t *testing.T) {
	for v, want := range map[uint32]string{
		0: "00000000", 7: "00000007", 0x10: "00000010", 0xabcdef: "00abcdef", 0x01234567: "01234567",
		0x89abcdef: "89abcdef", 0x80000000: "80000000", math.MaxUint32: "ffffffff",
	} {
		if got := word.Hex(v); got != want {
			t.Errorf("Hex of %d: %q; asked for %q", v, got, want)
		}
	}
}

// WO3: one to eight digits are a number.
func TestParse(t *testing.T) {
	for s, want := range map[string]uint32{
		"0": 0, "7": 7, "f": 15, "00": 0, "1f": 0x1f, "abc": 0xabc, "0abc": 0xabc, "12345": 0x12345, "abcdef": 0xabcdef,
		"7654321": 0x7654321, "00000000": 0, "00000001": 1, "89abcdef": 0x89abcdef, "ffffffff": math.MaxUint32,
	} {
		if got, err := word.Parse(s); got != want || err != nil {
			t.Errorf("Parse of %q: %x, %v; asked for %x", s, got, err, want)
		}
	}
}

// WO3: all else is ErrForm.
func TestParseOfWhatIsNoNumber(t *testing.T) {
	for _, s := range []string{
		"", "000000000", "123456789", "0ffffffff", strings.Repeat("0", 1000), "F", "aB", "ABCDEF", "g", "0g", "g0", "0x1", "x",
		" 1", "1 ", "1 1", "1\n", "+1", "-1", "1_0", "0.5", "\x00", "1\x00", "\xff", "1\xff", "é", "１", "/", ":", "`", "@",
	} {
		if got, err := word.Parse(s); got != 0 || errno(err) != api.ErrForm {
			t.Errorf("Parse of %q: %x, %v", s, got, err)
		}
	}
	for c := range 256 {
		s := string([]byte{'1', byte(c)})
		_, err := word.Parse(s)
		if digit := c >= '0' && c <= '9' || c >= 'a' && c <= 'f'; digit != (err == nil) {
			t.Errorf("Parse of %q: %v", s, err)
		}
	}
}

// WO4: of bytes, what was set is got, and all else stays.
func TestWithIsGot(t *testing.T) {
	b := counted(13)
	for _, n := range []int{1, 2, 4} {
		for at := 0; at+n <= len(b); at += n {
			for _, v := range someWords() {
				out, err := word.With(b, at, n, v)
				if err != nil || len(out) != len(b) {
					t.Fatalf("With at %d, %d: %x, %v", at, n, out, err)
				}
				if got, err := word.Get(out, at, n); got != word.Field(v, 0, 8*n) || err != nil {
					t.Fatalf("With at %d, %d, %x is got as %x, %v", at, n, v, got, err)
				}
				if !bytes.Equal(out[:at], b[:at]) || !bytes.Equal(out[at+n:], b[at+n:]) {
					t.Fatalf("With at %d, %d changed other bytes: %x", at, n, out)
				}
			}
		}
	}
}

// WO4: of bits, what was set is got, and all else stays.
func TestSetIsGot(t *testing.T) {
	words := someWords()
	for lo := range 32 {
		for n := 0; lo+n <= 32; n++ {
			for i, v := range words {
				x := words[len(words)-1-i]
				out := word.Set(v, lo, n, x)
				if got := word.Field(out, lo, n); got != word.Field(x, 0, n) {
					t.Fatalf("Set of %x, %d, %d, %x is got as %x", v, lo, n, x, got)
				}
				if word.Field(out, 0, lo) != word.Field(v, 0, lo) || word.Field(out, lo+n, 32) != word.Field(v, lo+n, 32) {
					t.Fatalf("Set of %x, %d, %d, %x changed other bits: %x", v, lo, n, x, out)
				}
			}
		}
	}
}

// WO4: Parse of Hex is the number.
func TestParseOfHex(t *testing.T) {
	words := someWords()
	for i := range 32 {
		words = append(words, 1<<i, 1<<i-1)
	}
	for _, v := range words {
		if got, err := word.Parse(word.Hex(v)); got != v || err != nil {
			t.Errorf("Parse of Hex of %x: %x, %v", v, got, err)
		}
	}
}
