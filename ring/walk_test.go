package ring_test

import (
	"math"
	"slices"
	"testing"

	"pinnace/api"
	"pinnace/mem"
	"pinnace/ring"
)

// pages is how many pages the memory of these tests has: some more than the 1,048,576 bytes that a chain may have.
const pages = 260

// end is the first place behind that memory.
const end = base + pages*page

// link is a chain's descriptors, laid from a head on, each behind the other by a step, modulo Size.
func link(t *testing.T, m *mem.Ram, r ring.Ring, head, step int, l []desc) {
	t.Helper()
	n := head
	for i, d := range l {
		next := (n + step) % r.Size
		if i < len(l)-1 {
			d.marks |= 1
			d.next = uint16(next)
		}
		layDesc(t, m, r, n, d)
		n = next
	}
}

// walks fails the test, if Walk does not answer these parts, or changes memory.
func walks(t *testing.T, name string, r ring.Ring, m *mem.Ram, head int, want []ring.Seg) {
	t.Helper()
	writes := m.Writes()
	if l, err := ring.Walk(r, m, head); err != nil || !slices.Equal(l, want) {
		t.Errorf("%s: Walk of %d: %v, %v, not %v", name, head, l, err, want)
	}
	if m.Writes() != writes {
		t.Errorf("%s: memory was written", name)
	}
}

// odd fails the test, if Walk does not answer ErrChain.
func odd(t *testing.T, name string, r ring.Ring, m *mem.Ram, head int) {
	t.Helper()
	if l, err := ring.Walk(r, m, head); len(l) > 0 || errno(err) != api.ErrChain {
		t.Errorf("%s: Walk of %d: %v, %v, not ErrChain", name, head, l, err)
	}
}

// parts are the parts that descriptors tell.
func parts(l []desc) []ring.Seg {
	var out []ring.Seg
	for _, d := range l {
		out = append(out, ring.Seg{At: uint32(d.place), N: int(d.n), Write: d.marks&2 != 0})
	}
	return out
}

// RI2: a head is from 0 to Size - 1, of each size.
func TestWalkHeads(t *testing.T) {
	m := newRam(t, pages)
	for _, size := range sizes {
		r := of(size)
		for n := range 256 { // more than there are, that may be
			layDesc(t, m, r, n, desc{place: uint64(base + n), n: uint32(n + 1)})
		}
		for n := range size {
			walks(t, "head", r, m, n, []ring.Seg{{At: uint32(base + n), N: n + 1}})
		}
		for _, n := range []int{-1, -2, -size, -256, size, size + 1, 2 * size, 256, 65536, 1 << 28, 1 << 32, 1 << 60, math.MinInt, math.MaxInt} {
			odd(t, "head", r, m, n)
		}
	}
}

// RI2: where a descriptor's numbers stand, and which one memory has not; the places are modulo 2^32.
func TestWalkPlaces(t *testing.T) {
	for _, x := range []struct {
		desc uint32
		head int
		in   bool
	}{
		{base, 0, true}, {base, 255, true}, {base - 16, 1, true}, {base - 16, 0, false}, {base - 4080, 255, true}, {base - 4080, 254, false}, {base - 4096, 255, false}, {base - 4096, 0, false},
		{end - 16, 0, true}, {end - 16, 1, false}, {end - 32, 1, true}, {end - 32, 2, false}, {end - 4096, 255, true}, {end - 4080, 255, false}, {end - 4080, 254, true}, {end, 0, false},
		{0, 0, false}, {0, 255, false}, {0x10020000, 0, false}, {math.MaxUint32 - 15, 0, false}, {math.MaxUint32 - 15, 1, false}, {math.MaxUint32 - 15, 255, false},
	} {
		m := newRam(t, pages)
		r := ring.Ring{Size: 256, Desc: x.desc}
		if !x.in {
			odd(t, "place", r, m, x.head)
			continue
		}
		lay(t, m, x.desc+uint32(16*x.head), []byte{0x04, 0x03, 0x02, 0x80, 0, 0, 0, 0, 0x01, 0x02, 0, 0, 2, 0, 0xff, 0xff})
		walks(t, "place", r, m, x.head, []ring.Seg{{At: 0x80020304, N: 0x0201, Write: true}})
	}
}

// RI2: a descriptor that follows, and can't be read, is ErrChain, as a first one is; also where its place turns round.
func TestWalkUnread(t *testing.T) {
	m := newRam(t, pages)
	for _, x := range []struct {
		desc   uint32
		a, b   int
		follow bool
	}{
		{end - 16*4, 3, 4, false}, {end - 16*4, 3, 255, false}, {end - 16*4, 3, 2, true}, {base - 16*4, 4, 3, false}, {base - 16*4, 4, 0, false}, {base - 16*4, 4, 5, true},
	} {
		r := ring.Ring{Size: 256, Desc: x.desc}
		layDesc(t, m, r, x.a, desc{place: base, n: 1, marks: 1, next: uint16(x.b)})
		if !x.follow {
			odd(t, "unread", r, m, x.a)
			continue
		}
		layDesc(t, m, r, x.b, desc{place: base + 7, n: 2})
		walks(t, "read", r, m, x.a, []ring.Seg{{At: base, N: 1}, {At: base + 7, N: 2}})
	}
	// From 2^32 - 16 on the descriptor 1 stands at 0, which is no memory, though the ring may be.
	odd(t, "round", ring.Ring{Size: 2, Desc: math.MaxUint32 - 15}, m, 1)
}

// RI2: no marks but the bits 0 and 1, wherever the part stands.
func TestWalkMarks(t *testing.T) {
	m := newRam(t, pages)
	r := of(8)
	for _, at := range []int{0, 1, 2} {
		for bit := range 16 {
			l := []desc{{place: base, n: 1, marks: 2}, {place: base + 9, n: 2, marks: 2}, {place: base + 99, n: 3, marks: 2}}
			l[at].marks |= 1 << bit
			link(t, m, r, 6, 3, l)
			switch {
			case bit >= 2:
				odd(t, "mark", r, m, 6)
			case bit == 1 || at < 2:
				walks(t, "mark", r, m, 6, parts(l))
			default: // the last one says that the first one follows
				l[2].next = 6
				link(t, m, r, 6, 3, l)
				odd(t, "round", r, m, 6)
			}
		}
	}
	for marks := range 1 << 16 {
		layDesc(t, m, r, 5, desc{place: base, n: 1, marks: uint16(marks), next: 7})
		layDesc(t, m, r, 7, desc{place: base, n: 1, marks: 2})
		l, err := ring.Walk(r, m, 5)
		if want := marks < 4; (err == nil) != want || want && len(l) != marks%2+1 {
			t.Errorf("marks %#x: %v, %v", marks, l, err)
		}
	}
}

// RI2: which bytes are all in memory, and that a place of 2^32 or more is ErrChain, even of no bytes.
func TestWalkBytes(t *testing.T) {
	m := newRam(t, pages)
	r := of(4)
	for _, x := range []struct {
		place uint64
		n     uint32
		may   bool
	}{
		{base, 1, true}, {base, 1 << 20, true}, {base - 1, 1, false}, {base - 1, 2, false}, {base - 100, 200, false}, {base - 100, 100, false}, {base - 1, 0, true},
		{end - 1, 1, true}, {end - 1, 2, false}, {end, 1, false}, {end, 0, true}, {end - 4096, 4096, true}, {end - 4096, 4097, false}, {end - 4095, 4096, false}, {end - 1<<20, 1 << 20, true}, {end - 1<<20 + 1, 1 << 20, false},
		{0, 0, true}, {0, 1, false}, {0x10000000, 8, false}, {math.MaxUint32, 0, true}, {math.MaxUint32, 1, false}, {math.MaxUint32, 2, false}, {math.MaxUint32 - 9, 1 << 20, false},
		{base, math.MaxUint32, false}, {base, 1 << 31, false}, {base + 1, math.MaxUint32, false}, {end - 1, math.MaxUint32, false}, {1 << 31, math.MaxUint32 - 5, false},
		{1 << 32, 0, false}, {1 << 32, 1, false}, {1<<32 + base, 1, false}, {1<<32 + base, 0, false}, {1<<63 + base, 1, false}, {1<<63 + base, 0, false}, {1<<33 + base, 4, false}, {math.MaxUint64, 0, false}, {math.MaxUint64, 1, false},
	} {
		for _, marks := range []uint16{0, 2} {
			d := desc{place: x.place, n: x.n, marks: marks, next: 0xffff}
			layDesc(t, m, r, 2, d)
			if !x.may {
				odd(t, "bytes", r, m, 2)
			} else {
				walks(t, "bytes", r, m, 2, parts([]desc{d}))
			}
			// And so as the one that follows, of which little enough is asked.
			first := desc{place: base, n: 0, marks: 1, next: 2}
			layDesc(t, m, r, 1, first)
			if !x.may {
				odd(t, "bytes behind", r, m, 1)
			} else {
				walks(t, "bytes behind", r, m, 1, parts([]desc{first, d}))
			}
		}
	}
}

// RI2: parts of no bytes are parts, wherever they stand in the chain, and wherever their place is.
func TestWalkNoBytes(t *testing.T) {
	m := newRam(t, pages)
	r := of(8)
	for at := range 5 {
		for _, place := range []uint64{0, base - 1, base, end, math.MaxUint32} {
			l := []desc{{place: base, n: 10}, {place: base + 10, n: 11}, {place: base + 30, n: 12, marks: 2}, {place: end - 13, n: 13, marks: 2}, {place: base + 50, n: 14, marks: 2}}
			l[at].place, l[at].n = place, 0
			link(t, m, r, 1, 5, l)
			walks(t, "none", r, m, 1, parts(l))
		}
	}
	l := make([]desc, 8)
	link(t, m, r, 0, 1, l)
	walks(t, "none at all", r, m, 0, make([]ring.Seg, 8))
}

// RI2: a part that the device reads stands behind no part that it writes, be it of no bytes.
func TestWalkReadBehindWrite(t *testing.T) {
	m := newRam(t, pages)
	r := of(8)
	for marks := range 1 << 5 {
		for _, n := range []uint32{0, 1, 100} {
			l := make([]desc, 5)
			may := true
			for i := range l {
				l[i] = desc{place: base + 8, n: n, marks: uint16(marks >> i & 1 * 2)}
				may = may && (i == 0 || l[i].marks >= l[i-1].marks)
			}
			link(t, m, r, 7, 7, l)
			if may {
				walks(t, "order", r, m, 7, parts(l))
			} else {
				odd(t, "order", r, m, 7)
			}
		}
	}
}

// RI2: a chain has Size parts at most, of each size; one that is longer, or goes round, is ErrChain.
func TestWalkLong(t *testing.T) {
	m := newRam(t, pages)
	for _, size := range sizes {
		for _, step := range []int{1, 3, size - 1} {
			r := of(size)
			var l []desc
			for i := range size {
				l = append(l, desc{place: uint64(base + 3*i), n: uint32(i % 5), next: 0xffff})
			}
			head := size / 2
			if size > 1 && step > 0 {
				link(t, m, r, head, step, l)
			} else {
				layDesc(t, m, r, head, l[0])
			}
			walks(t, "as long as may be", r, m, head, parts(l))
			// The last one says that another one follows, which is there already.
			last := (head + step*(size-1)) % size
			for _, next := range []int{head, last, (head + step) % size} {
				d := l[size-1]
				d.marks, d.next = 1, uint16(next)
				layDesc(t, m, r, last, d)
				odd(t, "longer", r, m, head)
			}
		}
	}
	r := of(4)
	for n := range 4 { // goes round beside its head, and over it
		layDesc(t, m, r, n, desc{place: base, n: 0, marks: 1, next: uint16(n % 2)})
		odd(t, "round", r, m, n)
	}
}

// RI2: what follows is below Size; which one that would be is not asked, if none follows.
func TestWalkFollowers(t *testing.T) {
	m := newRam(t, pages)
	for _, size := range sizes {
		r := of(size)
		for n := range 256 { // more than there are, that may be
			layDesc(t, m, r, n, desc{place: base, n: 9, next: 0xffff})
		}
		for _, next := range []int{0, 1, size / 2, size - 1, size, size + 1, 2 * size, 255, 256, 257, 32768, 65535} {
			d := desc{place: base + 5, n: 6, next: uint16(next)}
			layDesc(t, m, r, 0, d)
			walks(t, "none follows", r, m, 0, parts([]desc{d}))
			d.marks = 1
			layDesc(t, m, r, 0, d)
			if next > 0 && next < size {
				walks(t, "follows", r, m, 0, []ring.Seg{{At: base + 5, N: 6}, {At: base, N: 9}})
			} else {
				odd(t, "follows", r, m, 0)
			}
		}
	}
}

// RI2: a chain has 1,048,576 bytes at most in all, those that are read and those that are written.
func TestWalkMuch(t *testing.T) {
	m := newRam(t, pages)
	r := of(8)
	for _, x := range []struct {
		l   []uint32
		may bool
	}{
		{[]uint32{1048576}, true}, {[]uint32{1048577}, false}, {[]uint32{1048575, 1}, true}, {[]uint32{1048576, 1}, false}, {[]uint32{1, 1048576}, false}, {[]uint32{1, 1048575}, true},
		{[]uint32{1048576, 0}, true}, {[]uint32{0, 1048576}, true}, {[]uint32{0, 1048577}, false}, {[]uint32{524288, 524288}, true}, {[]uint32{524288, 524289}, false},
		{[]uint32{349525, 349525, 349526}, true}, {[]uint32{349526, 349525, 349526}, false}, {[]uint32{1048576, 1048576}, false}, {[]uint32{1048000, 500, 70, 6}, true}, {[]uint32{1048000, 500, 70, 7}, false}, {[]uint32{1048000, 500, 70, 6, 1}, false},
	} {
		for reads := range len(x.l) + 1 {
			var l []desc
			for i, n := range x.l {
				d := desc{place: base, n: n}
				if i >= reads {
					d.marks = 2
				}
				l = append(l, d)
			}
			link(t, m, r, 3, 1, l)
			if x.may {
				walks(t, "much", r, m, 3, parts(l))
			} else {
				odd(t, "much", r, m, 3)
			}
		}
	}
}

// RI2: what Walk answers is its own: what is done to it is not seen again.
func TestWalkAnew(t *testing.T) {
	m := newRam(t, pages)
	r := of(4)
	l := []desc{{place: base, n: 1}, {place: base + 1, n: 2, marks: 2}}
	link(t, m, r, 0, 1, l)
	got, err := ring.Walk(r, m, 0)
	must(t, err)
	for i := range got[:cap(got)] {
		got[:cap(got)][i] = ring.Seg{At: 7, N: 7, Write: true}
	}
	walks(t, "anew", r, m, 0, parts(l))
}
