package tlv_test

import (
	"bytes"
	"math"
	"math/rand"
	"testing"

	"pinnace/api"
	"pinnace/tlv"
)

// takes is an error of the test, if an In has not this number.
func takes(t *testing.T, i *tlv.In, n int, most, want uint64) {
	t.Helper()
	if got := i.N(n, most); got != want {
		t.Errorf("N(%d, %d): %x, not %x", n, most, got, want)
	}
}

// takesRun is an error of the test, if an In has not these bytes.
func takesRun(t *testing.T, i *tlv.In, most int, want []byte) {
	t.Helper()
	if got := i.Run(most); !bytes.Equal(got, want) {
		t.Errorf("Run(%d): %x, not %x", most, got, want)
	}
}

// ends is an error of the test, if an In doesn't end so, when it is asked, and when it is asked again.
func ends(t *testing.T, name string, i *tlv.In, want api.Errno) {
	t.Helper()
	for range 2 {
		if err := i.Done(); errno(err) != want {
			t.Errorf("%s: %v, not %v", name, err, want)
		}
	}
}

// TL2: numbers of each size are taken off.
func TestInOfNumbers(t *testing.T) {
	all := []byte{0x11, 0x22, 0x33, 0x44, 0x55, 0x66, 0x77, 0x88, 0x99}
	v := uint64(0x8877665544332211)
	for n := 1; n <= 8; n++ {
		want := v & (1<<(8*n) - 1)
		i := tlv.NewIn(all[:n])
		takes(t, i, n, math.MaxUint64, want)
		ends(t, "all is taken off", i, 0)
		i = tlv.NewIn(all[:n+1])
		takes(t, i, n, want, want)
		ends(t, "one is left", i, api.ErrForm)
		takes(t, i, 1, 255, uint64(all[n]))
		ends(t, "all is taken off now", i, 0)
		i = tlv.NewIn(all[:n])
		takes(t, i, n, want-1, 0)
		ends(t, "a number above most", i, api.ErrRange)
		i = tlv.NewIn(all[:n-1])
		takes(t, i, n, math.MaxUint64, 0)
		ends(t, "a byte too few", i, api.ErrEnd)
		takes(t, tlv.NewIn(bytes.Repeat([]byte{255}, n)), n, math.MaxUint64, math.MaxUint64>>(64-8*n))
	}
	ends(t, "nothing of nothing", tlv.NewIn(nil), 0)
	ends(t, "nothing of no bytes", tlv.NewIn([]byte{}), 0)
	ends(t, "nothing of a byte", tlv.NewIn([]byte{0}), api.ErrForm)
}

// TL2: most at its edges.
func TestInOfMost(t *testing.T) {
	for _, v := range []uint64{0, 1, 127, 128, 255} {
		for most := range uint64(300) {
			i := tlv.NewIn([]byte{byte(v)})
			if v <= most {
				takes(t, i, 1, most, v)
				ends(t, "a number that may be", i, 0)
			} else {
				takes(t, i, 1, most, 0)
				ends(t, "a number that may not be", i, api.ErrRange)
			}
		}
	}
	top := bytes.Repeat([]byte{255}, 8)
	i := tlv.NewIn(top)
	takes(t, i, 8, math.MaxUint64-1, 0)
	ends(t, "the greatest above the one beneath it", i, api.ErrRange)
	i = tlv.NewIn(top)
	takes(t, i, 8, math.MaxInt64, 0)
	ends(t, "the greatest above a half", i, api.ErrRange)
	i = tlv.NewIn([]byte{0, 0, 0, 0, 0, 0, 0, 128})
	takes(t, i, 8, 1<<63, 1<<63)
	ends(t, "a half", i, 0)
	i = tlv.NewIn([]byte{1, 0, 0, 0, 1})
	takes(t, i, 5, 1<<32, 0)
	ends(t, "a number of more than 32 bits", i, api.ErrRange)
}

// TL2: runs of no bytes and of some, with most at its edges.
func TestInOfRuns(t *testing.T) {
	for _, size := range []int{0, 1, 2, 3, 4, 5, 255, 256, 257, 65536} {
		b := chance(rand.New(rand.NewSource(int64(size))), size)
		whole := joined(little(size), b)
		for _, most := range []int{size, size + 1, math.MaxInt32, 1 << 32, math.MaxInt} {
			i := tlv.NewIn(whole)
			takesRun(t, i, most, b)
			ends(t, "a run", i, 0)
			i = tlv.NewIn(append(whole, 9))
			takesRun(t, i, most, b)
			ends(t, "a run, and a byte left", i, api.ErrForm)
		}
		i := tlv.NewIn(whole)
		takesRun(t, i, size-1, nil)
		ends(t, "a run above most", i, map[bool]api.Errno{true: api.ErrArg, false: api.ErrLong}[size == 0])
		for _, have := range []int{0, 1, 3, 4, len(whole) - 1} {
			if have >= len(whole) {
				continue
			}
			i = tlv.NewIn(whole[:have])
			takesRun(t, i, size, nil)
			ends(t, "a run of too few bytes", i, api.ErrEnd)
		}
	}
}

// TL2: which error comes first in one call.
func TestInOfSeveralErrors(t *testing.T) {
	for _, n := range []int{0, 9, 10, 256, 257, -1, -8, -255, 1<<32 + 4, -1<<32 + 4, math.MaxInt, math.MinInt, math.MaxInt32, math.MinInt32} {
		for _, b := range [][]byte{nil, {1}, bytes.Repeat([]byte{9}, 20)} {
			i := tlv.NewIn(b)
			takes(t, i, n, 0, 0)
			ends(t, "no such size", i, api.ErrArg)
			i = tlv.NewIn(b)
			takes(t, i, n, math.MaxUint64, 0)
			ends(t, "no such size", i, api.ErrArg)
		}
	}
	for _, most := range []int{-1, -2, -256, -1<<32 + 4, math.MinInt32, math.MinInt} {
		for _, b := range [][]byte{nil, {1, 2, 3}, {0, 0, 0, 0}, {1, 0, 0, 0}, {1, 0, 0, 0, 7}, {255, 255, 255, 255}} {
			i := tlv.NewIn(b)
			takesRun(t, i, most, nil)
			ends(t, "most below 0", i, api.ErrArg)
		}
	}
	i := tlv.NewIn([]byte{255})
	takes(t, i, 2, 0, 0)
	ends(t, "too few bytes, which would be too great a number", i, api.ErrEnd)
	i = tlv.NewIn([]byte{255, 255, 255})
	takesRun(t, i, 0, nil)
	ends(t, "too few bytes for how many there are", i, api.ErrEnd)
	for _, told := range []int{2, 3, 256, 0x7fffffff, 0x80000000, 0xffffffff} {
		for _, most := range []int{0, 1} {
			i = tlv.NewIn(little(told))
			takesRun(t, i, most, nil)
			ends(t, "too many bytes, which are not there", i, api.ErrLong)
		}
	}
	for _, told := range []int{0x7fffffff, 0x7ffffffc} {
		i = tlv.NewIn(joined(little(told), []byte("abc")))
		takesRun(t, i, told, nil)
		ends(t, "bytes that are not there", i, api.ErrEnd)
	}
}

// TL2: each of the errors as the first one is kept, and all that is asked behind it answers nothing, whatever it is.
func TestInKeepsTheFirstError(t *testing.T) {
	b := joined([]byte{7, 2, 0, 0, 0}, []byte("ab"), make([]byte, 20))
	firsts := []struct {
		name string
		do   func(i *tlv.In)
		want api.Errno
	}{
		{"a size of 0", func(i *tlv.In) { takes(t, i, 0, 9, 0) }, api.ErrArg},
		{"a size of 9", func(i *tlv.In) { takes(t, i, 9, 9, 0) }, api.ErrArg},
		{"most below 0", func(i *tlv.In) { takesRun(t, i, -1, nil) }, api.ErrArg},
		{"a number above most", func(i *tlv.In) { takes(t, i, 1, 6, 0) }, api.ErrRange},
		{"a run above most", func(i *tlv.In) { takesRun(t, i, 3, nil) }, api.ErrLong},
		{"a run that is not there", func(i *tlv.In) { takesRun(t, i, math.MaxInt32, nil) }, api.ErrEnd},
	}
	for _, one := range firsts {
		i := tlv.NewIn(b)
		one.do(i)
		ends(t, one.name, i, one.want)
		for _, next := range firsts {
			next.do(i)
		}
		takes(t, i, 1, 255, 0)
		takes(t, i, 8, math.MaxUint64, 0)
		takesRun(t, i, 100, nil)
		takesRun(t, i, math.MaxInt, nil)
		takes(t, i, 0, 0, 0)
		takesRun(t, i, -1, nil)
		ends(t, one.name+", and more behind", i, one.want)

		i = tlv.NewIn(b)
		takes(t, i, 1, 7, 7)
		takesRun(t, i, 2, []byte("ab"))
		takes(t, i, 4, 0, 0)
		takes(t, i, -1, 0, 0)
		one.do(i)
		ends(t, "a size below 0 ahead of it", i, api.ErrArg)
	}
}

// TL2: what comes first is kept, though nothing would be left.
func TestInAtItsEnd(t *testing.T) {
	i := tlv.NewIn([]byte{5})
	takes(t, i, 1, 5, 5)
	ends(t, "the end", i, 0)
	takes(t, i, 1, 5, 0)
	ends(t, "behind the end", i, api.ErrEnd)
	i = tlv.NewIn([]byte{5})
	takes(t, i, 1, 4, 0)
	takes(t, i, 1, 5, 0)
	ends(t, "a number above most, taken again", i, api.ErrRange)
	i = tlv.NewIn([]byte{1, 0, 0, 0})
	takesRun(t, i, 1, nil)
	takes(t, i, 4, 1, 0)
	ends(t, "a run that is not there, taken as a number", i, api.ErrEnd)
}

// TL2: that something is left is not kept: it can be taken off still.
func TestInGoesOnBehindDone(t *testing.T) {
	i := tlv.NewIn([]byte{5, 6, 1, 0, 0, 0, 7})
	ends(t, "all", i, api.ErrForm)
	takes(t, i, 2, 0x0605, 0x0605)
	ends(t, "a run", i, api.ErrForm)
	takesRun(t, i, 1, []byte{7})
	ends(t, "nothing", i, 0)
}

// TL2: a nil In: nothing, and ErrArg of Done.
func TestNilIn(t *testing.T) {
	var i *tlv.In
	ends(t, "a nil one", i, api.ErrArg)
	for n := -1; n < 10; n++ {
		takes(t, i, n, math.MaxUint64, 0)
		takesRun(t, i, n, nil)
	}
	ends(t, "a nil one again", i, api.ErrArg)
}
