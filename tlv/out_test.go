package tlv_test

import (
	"bytes"
	"math/rand"
	"testing"

	"pinnace/tlv"
)

// lays is an error of the test, if an Out has not these bytes.
func lays(t *testing.T, name string, o *tlv.Out, want []byte) {
	t.Helper()
	if got := o.Done(); !bytes.Equal(got, want) {
		t.Errorf("%s: %x, not %x", name, got, want)
	}
}

// TL2: N of each n from 1 to 8, of numbers that have fewer bytes, as many, and more.
func TestOutOfNumbers(t *testing.T) {
	lays(t, "nothing", tlv.NewOut(), nil)
	v := uint64(0x8877665544332211)
	all := []byte{0x11, 0x22, 0x33, 0x44, 0x55, 0x66, 0x77, 0x88}
	for n := 1; n <= 8; n++ {
		lays(t, "a great number", tlv.NewOut().N(v, n), all[:n])
		lays(t, "0", tlv.NewOut().N(0, n), make([]byte, n))
		lays(t, "1", tlv.NewOut().N(1, n), joined([]byte{1}, make([]byte, n-1)))
		lays(t, "all bits", tlv.NewOut().N(1<<64-1, n), bytes.Repeat([]byte{255}, n))
		lays(t, "the number of one byte more", tlv.NewOut().N(1<<(8*n-1), n), joined(make([]byte, n-1), []byte{128}))
		if n < 8 {
			lays(t, "the number of one byte more", tlv.NewOut().N(1<<(8*n), n), make([]byte, n))
		}
	}
}

// TL2: of any other n nothing; what is behind is laid.
func TestOutOfOtherSizes(t *testing.T) {
	for _, n := range []int{0, 9, 10, 16, 256, 257, 1 << 20, 1<<31 - 1, 1<<32 + 4, -1, -2, -8, -256, -255, -1 << 31, -1<<31 + 1, -1<<32 + 4} {
		lays(t, "no such size", tlv.NewOut().N(0x0807060504030201, n), nil)
		lays(t, "no such size between", tlv.NewOut().N(5, 1).N(0x0807060504030201, n).N(6, 2).Run([]byte{7}), []byte{5, 6, 0, 1, 0, 0, 0, 7})
	}
}

// TL2: Run of no bytes, and of some.
func TestOutOfRuns(t *testing.T) {
	lays(t, "nil", tlv.NewOut().Run(nil), []byte{0, 0, 0, 0})
	lays(t, "no bytes", tlv.NewOut().Run([]byte{}), []byte{0, 0, 0, 0})
	lays(t, "a byte", tlv.NewOut().Run([]byte{9}), []byte{1, 0, 0, 0, 9})
	lays(t, "two runs", tlv.NewOut().Run([]byte("abc")).Run([]byte("de")), []byte{3, 0, 0, 0, 'a', 'b', 'c', 2, 0, 0, 0, 'd', 'e'})
	for _, size := range []int{255, 256, 257, 65535, 65536, 1 << 20} {
		b := chance(rand.New(rand.NewSource(1)), size)
		lays(t, "many bytes", tlv.NewOut().Run(b), joined([]byte{byte(size), byte(size >> 8), byte(size >> 16), 0}, b))
	}
}

// TL2: each answers the Out itself, on which all goes on; Done may be asked between, and again.
func TestOutAnswersItself(t *testing.T) {
	o := tlv.NewOut()
	if o.N(1, 1) != o || o.N(1, 0) != o || o.N(1, 9) != o || o.Run(nil) != o || o.Run([]byte{2, 3}) != o {
		t.Error("another Out is answered")
	}
	want := []byte{1, 0, 0, 0, 0, 2, 0, 0, 0, 2, 3}
	lays(t, "all", o, want)
	lays(t, "all again", o, want)
	o.N(0x0405, 2)
	lays(t, "more", o, append(want, 5, 4))
	other := tlv.NewOut()
	lays(t, "another Out", other, nil)
	other.N(9, 1)
	lays(t, "the first one", o, append(want, 5, 4))
}

// TL2: a nil Out: nothing.
func TestNilOut(t *testing.T) {
	var o *tlv.Out
	if o.N(1, 1) != nil || o.N(1, 0) != nil || o.Run([]byte{1}) != nil || o.Run(nil) != nil {
		t.Error("a nil Out answers another one")
	}
	lays(t, "a nil Out", o, nil)
	lays(t, "a nil Out that something was laid on", o.N(7, 8).Run([]byte("abc")), nil)
}
