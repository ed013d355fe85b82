package tlv_test

import (
	"bytes"
	"fmt"
	"math/rand"
	"slices"
	"testing"

	"pinnace/api"
	"pinnace/tlv"
)

// laid is a number, or bytes, that an Out lays.
type laid struct {
	v   uint64
	n   int // 0 where b is meant
	run []byte
}

// chanceLaid are so many numbers and bytes by chance, whose numbers have no more bytes than are laid.
func chanceLaid(r *rand.Rand, count int) []laid {
	out := make([]laid, count)
	for i := range out {
		if r.Intn(3) == 0 {
			out[i].run = chance(r, r.Intn(30))
			continue
		}
		n := 1 + r.Intn(8)
		out[i] = laid{v: r.Uint64() >> (64 - 8*n), n: n}
	}
	return out
}

// TL3: what was laid is taken off again, and is all.
func TestLaidAndTakenOff(t *testing.T) {
	r := rand.New(rand.NewSource(30))
	for count := range 200 {
		l := chanceLaid(r, count)
		o := tlv.NewOut()
		for _, x := range l {
			if x.n == 0 {
				o.Run(x.run)
			} else {
				o.N(x.v, x.n)
			}
		}
		i := tlv.NewIn(o.Done())
		for _, x := range l {
			if x.n == 0 {
				takesRun(t, i, len(x.run), x.run)
			} else {
				takes(t, i, x.n, x.v, x.v)
			}
		}
		ends(t, "all that was laid", i, 0)
	}
}

// TL3: a file's sections are those it was made of, and it is the file of these.
func TestFilesAndBack(t *testing.T) {
	r := rand.New(rand.NewSource(31))
	for n, l := range someLists() {
		version := r.Uint32()
		file, err := tlv.Encode(version, l)
		if err != nil {
			t.Fatalf("Encode of list %d: %v", n, err)
		}
		gotVersion, got, err := tlv.Decode(file)
		if err != nil || gotVersion != version || !sameSections(got, l) {
			t.Errorf("Decode of the file of list %d: version %d, %d sections, %v", n, gotVersion, len(got), err)
		}
		again, err := tlv.Encode(gotVersion, got)
		if err != nil || !bytes.Equal(again, file) {
			t.Errorf("list %d there, back, and there again: %d bytes, %v", n, len(again), err)
		}
	}
}

// flip changes so many bits as a pattern has, the pattern's highest first, from a bit on; a byte's highest bit is its first.
func flip(b []byte, at int, pattern uint32) {
	for i := range min(32, 8*len(b)-at) {
		if pattern>>(31-i)&1 == 1 {
			b[(at+i)/8] ^= 0x80 >> ((at + i) % 8)
		}
	}
}

// spoilt is an error of the test, if Decode takes a file of which a pattern of bits is changed, or answers another error than it must.
func spoilt(t *testing.T, file []byte, at int, pattern uint32) {
	t.Helper()
	b := slices.Clone(file)
	flip(b, at, pattern)
	want := api.ErrSum
	if string(b[:4]) != "PNCE" {
		want = api.ErrForm
	}
	version, l, err := tlv.Decode(b)
	if errno(err) != want || version != 0 || len(l) != 0 {
		t.Errorf("Decode of %d bytes changed by %08x from the bit %d on: %v, not %v", len(file), pattern, at, err, want)
	}
}

// smallFiles are files of few bytes, of sections at whose borders something can be changed.
func smallFiles() [][]byte {
	return [][]byte{
		plainFile(3, nil),
		plainFile(0, []tlv.Section{{Tag: 0}}),
		plainFile(3, []tlv.Section{{Tag: 1, B: []byte("abc")}, {Tag: 2}, {Tag: 9, B: []byte{0, 0, 0, 0}}}),
		plainFile(0xffffffff, []tlv.Section{{Tag: 0xfffffffe, B: []byte{255, 255}}, {Tag: 0xffffffff, B: bytes.Repeat([]byte{255}, 9)}}),
	}
}

// TL3: each single bit, and each two neighbours, that are changed.
func TestFewBitsOfAFileChanged(t *testing.T) {
	files := append(smallFiles(), plainFile(3, chanceSections(rand.New(rand.NewSource(32)), 8, 60)))
	for _, file := range files {
		for at := range 8 * len(file) {
			spoilt(t, file, at, 1<<31)
			spoilt(t, file, at, 3<<30)
		}
	}
}

// TL3: each two bits within 32, and whatever is changed within 32 that follow one another, across all places where sections, counts and sums begin.
func TestManyBitsOfAFileChanged(t *testing.T) {
	r := rand.New(rand.NewSource(33))
	patterns := []uint32{0xffffffff, 0xaaaaaaaa, 0xffff0000, 0xff0000ff, 0x80ffff01, 0x826008ef, 0x82608edb, 0x04c11db7 << 5, 0xedb88320}
	for bit := range 31 {
		patterns = append(patterns, 1<<31|1<<bit, 0xffffffff<<(bit+1))
	}
	for range 30 {
		patterns = append(patterns, r.Uint32()|1<<31)
	}
	for _, file := range smallFiles() {
		for at := range 8 * len(file) {
			for _, pattern := range patterns {
				spoilt(t, file, at, pattern)
			}
		}
	}
}

// TL3: four bytes that follow one another, by chance.
func TestFourBytesOfAFileChanged(t *testing.T) {
	r := rand.New(rand.NewSource(34))
	for _, file := range smallFiles() {
		for range 10000 {
			at := r.Intn(len(file) - 3)
			if pattern := r.Uint32(); pattern != 0 {
				spoilt(t, file, 8*at, pattern)
			}
		}
	}
}

// TL3: a file that is cut, from either side, is refused; with bytes behind it, too.
func TestFilesThatAreCut(t *testing.T) {
	for n, file := range append(smallFiles(), plainFile(3, chanceSections(rand.New(rand.NewSource(35)), 5, 30))) {
		for size := range file {
			for side, b := range [][]byte{file[:size], file[len(file)-size:]} {
				_, _, want := plainDecode(b)
				refuses(t, fmt.Sprintf("file %d, %d bytes of it, side %d", n, size, side), b, want)
				if want == 0 {
					t.Errorf("file %d: %d bytes of it, side %d, are a file", n, size, side)
				}
			}
		}
		for more := 1; more < 20; more++ {
			b := append(slices.Clone(file), make([]byte, more)...)
			_, _, want := plainDecode(b)
			refuses(t, "a file with noughts behind", b, want)
			if want == 0 {
				t.Errorf("file %d with %d noughts behind is a file", n, more)
			}
		}
	}
}
