package ring_test

import (
	"bytes"
	"errors"
	"math"
	"testing"

	"pinnace/api"
	"pinnace/mem"
	"pinnace/ring"
)

// base is memory's first place on the bus, page how many bytes a page has, by hand.
const (
	base = 0x80000000
	page = 4096
)

// sizes are how many descriptors a ring may have.
var sizes = []int{1, 2, 4, 8, 16, 32, 64, 128, 256}

// errno is the number that errors.As finds in an error; 0 of nil, -1 of another error.
func errno(err error) api.Errno {
	if err == nil {
		return 0
	}
	var e api.Errno
	if errors.As(err, &e) {
		return e
	}
	return -1
}

// must fails the test at an error.
func must(t *testing.T, err error) {
	t.Helper()
	if err != nil {
		t.Fatal(err)
	}
}

// row are so many bytes, none of them 0, and none as its neighbours.
func row(n int) []byte {
	b := make([]byte, n)
	for i := range b {
		b[i] = byte(i%251 + 1)
	}
	return b
}

// newRam is memory of row's bytes, no page of it dirty.
func newRam(t *testing.T, pages int) *mem.Ram {
	t.Helper()
	m, err := mem.New(pages)
	must(t, err)
	must(t, m.Write(0, row(pages*page)))
	m.Harvest()
	return m
}

// all are all bytes of memory.
func all(t *testing.T, m *mem.Ram) []byte {
	t.Helper()
	b, err := m.Read(0, m.Pages()*page)
	must(t, err)
	return b
}

// quiet fails the test, if memory has other bytes than those, or a page of it is dirty.
func quiet(t *testing.T, m *mem.Ram, was []byte) {
	t.Helper()
	if !bytes.Equal(all(t, m), was) || len(m.Dirty()) > 0 {
		t.Errorf("memory was written: pages %v", m.Dirty())
	}
}

// little are the lowest n bytes of a number, the lowest one first.
func little(v uint64, n int) []byte {
	var b []byte
	for range n {
		b = append(b, byte(v))
		v /= 256
	}
	return b
}

// lay lays bytes at a place of the bus.
func lay(t *testing.T, m *mem.Ram, at uint32, b []byte) {
	t.Helper()
	must(t, m.Write(at-base, b))
	m.Harvest()
}

// desc is a descriptor as the chapter tells it.
type desc struct {
	place uint64
	n     uint32
	marks uint16
	next  uint16
}

// layDesc lays the descriptor of a number.
func layDesc(t *testing.T, m *mem.Ram, r ring.Ring, n int, d desc) {
	t.Helper()
	b := bytes.Join([][]byte{little(d.place, 8), little(uint64(d.n), 4), little(uint64(d.marks), 2), little(uint64(d.next), 2)}, nil)
	lay(t, m, r.Desc+uint32(16*n), b)
}

// layCount lays how many are offered.
func layCount(t *testing.T, m *mem.Ram, r ring.Ring, n uint16) {
	t.Helper()
	lay(t, m, r.Avail+2, little(uint64(n), 2))
}

// layHead lays the head that is offered as the n-th.
func layHead(t *testing.T, m *mem.Ram, r ring.Ring, n uint16, head uint16) {
	t.Helper()
	lay(t, m, r.Avail+4+uint32(2*(int(n)%r.Size)), little(uint64(head), 2))
}

// with is a ring that is changed by a function.
func with(r ring.Ring, change func(*ring.Ring)) ring.Ring {
	change(&r)
	return r
}

// of is a ring of a size, whose three tables all lie in memory's first three pages.
func of(size int) ring.Ring {
	return ring.Ring{Size: size, Desc: base, Avail: base + page, Used: base + page + 1024, Last: 3, Put: 5}
}

// oddRings are rings that can't be, each for one reason alone, and one for all of them.
func oddRings() []ring.Ring {
	var out []ring.Ring
	odd := func(change func(*ring.Ring)) { out = append(out, with(of(4), change)) }
	for _, v := range []int{0, -1, -2, -4, -256, 3, 5, 6, 7, 9, 12, 15, 17, 24, 96, 127, 129, 192, 255, 257, 384, 511, 512, 1024, 1 << 16, 1 << 20, 1 << 31, 1 << 32, 1<<32 + 4, 1 << 62, math.MaxInt, math.MinInt} {
		odd(func(r *ring.Ring) { r.Size = v })
	}
	for v := uint32(1); v < 16; v++ {
		odd(func(r *ring.Ring) { r.Desc += v })
		odd(func(r *ring.Ring) { r.Desc = -v })
		if v%2 != 0 {
			odd(func(r *ring.Ring) { r.Avail += v })
			odd(func(r *ring.Ring) { r.Avail = -v })
		}
		if v%4 != 0 {
			odd(func(r *ring.Ring) { r.Used += v })
			odd(func(r *ring.Ring) { r.Used = -v })
		}
	}
	return append(out, ring.Ring{}, ring.Ring{Size: 3, Desc: 8, Avail: 1, Used: 2, Last: 1, Put: 1})
}

// RI1: a ring may be of the powers of 2 from 1 to 256, and of no other size.
func TestCheckSizes(t *testing.T) {
	may := map[int]bool{1: true, 2: true, 4: true, 8: true, 16: true, 32: true, 64: true, 128: true, 256: true}
	for n := -600; n <= 1100; n++ {
		want := api.ErrArg
		if may[n] {
			want = 0
		}
		if got := errno(ring.Check(with(of(4), func(r *ring.Ring) { r.Size = n }))); got != want {
			t.Errorf("a size of %d: error %d, not %d", n, got, want)
		}
	}
}

// RI1: the places are multiples of 16, 2 and 4; all else may be anything, also places that no memory has.
func TestCheckPlaces(t *testing.T) {
	for _, from := range []uint32{0, 64, base, base + 4096, math.MaxUint32 - 63} {
		for d := range uint32(64) {
			v := from + d
			for name, x := range map[string]struct {
				r     ring.Ring
				wrong bool
			}{
				"Desc":  {ring.Ring{Size: 4, Desc: v}, v%16 != 0},
				"Avail": {ring.Ring{Size: 4, Avail: v}, v%2 != 0},
				"Used":  {ring.Ring{Size: 4, Used: v}, v%4 != 0},
				"Last":  {ring.Ring{Size: 4, Last: uint16(v)}, false},
				"Put":   {ring.Ring{Size: 4, Put: uint16(v)}, false},
			} {
				want := api.Errno(0)
				if x.wrong {
					want = api.ErrArg
				}
				if got := errno(ring.Check(x.r)); got != want {
					t.Errorf("%s of %#x: error %d, not %d", name, v, got, want)
				}
			}
		}
	}
}

// RI1, RI2, RI3: of a ring that may not be, or no memory, all answer ErrArg, whatever else is wrong, and do nothing.
func TestNoRing(t *testing.T) {
	m := newRam(t, 3)
	was := all(t, m)
	look := func(r ring.Ring, m *mem.Ram) {
		t.Helper()
		if got, head, is, err := ring.Next(r, m); got != (ring.Ring{}) || head != 0 || is || errno(err) != api.ErrArg {
			t.Errorf("Next of %+v: %+v, %d, %v, %v", r, got, head, is, err)
		}
		for _, head := range []int{math.MinInt, -1, 0, 1, 3, 4, 256, math.MaxInt} {
			if l, err := ring.Walk(r, m, head); len(l) > 0 || errno(err) != api.ErrArg {
				t.Errorf("Walk of %+v, %d: %v, %v", r, head, l, err)
			}
			if got, err := ring.Give(r, m, head, 7); got != (ring.Ring{}) || errno(err) != api.ErrArg {
				t.Errorf("Give of %+v, %d: %+v, %v", r, head, got, err)
			}
		}
	}
	for _, r := range oddRings() {
		if errno(ring.Check(r)) != api.ErrArg {
			t.Errorf("%+v may be", r)
		}
		look(r, m)
		look(r, nil)
	}
	for _, size := range sizes {
		must(t, ring.Check(of(size)))
		look(of(size), nil)
		look(with(of(size), func(r *ring.Ring) { r.Desc, r.Avail, r.Used = 0, 0, 0 }), nil)
	}
	quiet(t, m, was)
}

// RI3: without memory Gather and Scatter answer ErrArg, whatever else is wrong.
func TestNoMemory(t *testing.T) {
	lists := [][]ring.Seg{nil, {}, {{At: base, N: 4}}, {{At: base, N: 4, Write: true}}, {{At: 0, N: 4}, {At: 0, N: 4, Write: true}}, {{N: -1}}, {{N: 0}}}
	for _, l := range lists {
		if b, err := ring.Gather(nil, l); len(b) > 0 || errno(err) != api.ErrArg {
			t.Errorf("Gather of %v: %v, %v", l, b, err)
		}
		for _, n := range []int{0, 1, 4, 5, 100} {
			if err := ring.Scatter(nil, l, row(n)); errno(err) != api.ErrArg {
				t.Errorf("Scatter of %d bytes to %v: %v", n, l, err)
			}
		}
	}
}

// takes fails the test, if Next does not take a head.
func takes(t *testing.T, r ring.Ring, m *mem.Ram, head int) ring.Ring {
	t.Helper()
	got, h, is, err := ring.Next(r, m)
	want := with(r, func(r *ring.Ring) { r.Last++ })
	if got != want || h != head || !is || err != nil {
		t.Fatalf("Next of %+v: %+v, %d, %v, %v, not head %d", r, got, h, is, err, head)
	}
	return got
}

// none fails the test, if Next takes something.
func none(t *testing.T, r ring.Ring, m *mem.Ram) {
	t.Helper()
	if got, h, is, err := ring.Next(r, m); got != (ring.Ring{}) || h != 0 || is || err != nil {
		t.Errorf("Next of %+v: %+v, %d, %v, %v, not false alone", r, got, h, is, err)
	}
}

// refuses fails the test, if Next does not answer ErrChain.
func refuses(t *testing.T, r ring.Ring, m *mem.Ram) {
	t.Helper()
	if got, h, is, err := ring.Next(r, m); got != (ring.Ring{}) || h != 0 || is || errno(err) != api.ErrChain {
		t.Errorf("Next of %+v: %+v, %d, %v, %v, not ErrChain", r, got, h, is, err)
	}
}

// someLasts are counts with the edges: where they turn round, and where the tables do.
func someLasts() []uint16 {
	return []uint16{0, 1, 2, 3, 4, 5, 127, 128, 254, 255, 256, 257, 511, 512, 1000, 32767, 32768, 65279, 65280, 65281, 65533, 65534, 65535}
}

// RI1: of how many are offered ahead of Last hangs whether there is none, one is taken, or it is ErrChain.
func TestNextCounts(t *testing.T) {
	m := newRam(t, 3)
	for _, size := range sizes {
		for _, last := range someLasts() {
			r := with(of(size), func(r *ring.Ring) { r.Last = last })
			head := (int(last)*7 + 3) % size
			for k := range size {
				layHead(t, m, r, uint16(k), uint16(size)) // none that may be
			}
			layHead(t, m, r, last, uint16(head))
			for _, d := range []int{1, 2, size / 2, size - 1, size} {
				if d > 0 && d <= size {
					layCount(t, m, r, last+uint16(d))
					takes(t, r, m, head)
				}
			}
			layCount(t, m, r, last)
			none(t, r, m)
			for _, d := range []int{size + 1, size + 2, 2*size + 1, 257, 512, 32767, 32768, 32769, 65535 - size, 65534, 65535} {
				layCount(t, m, r, last+uint16(d))
				refuses(t, r, m)
			}
		}
	}
}

// RI1: a head is below Size.
func TestNextHeads(t *testing.T) {
	m := newRam(t, 3)
	for _, size := range sizes {
		for _, last := range someLasts() {
			r := with(of(size), func(r *ring.Ring) { r.Last = last })
			layCount(t, m, r, last+1)
			for _, head := range []int{0, 1, size / 2, size - 1} {
				if head < size {
					layHead(t, m, r, last, uint16(head))
					takes(t, r, m, head)
				}
			}
			for _, head := range []int{size, size + 1, 256, 257, 512, 32767, 32768, 65535} {
				layHead(t, m, r, last, uint16(head))
				refuses(t, r, m)
				// Of none that is offered nothing is asked.
				layCount(t, m, r, last)
				none(t, r, m)
				layCount(t, m, r, last+1)
			}
		}
	}
}

// RI1: where the count and the heads stand; what memory has not is ErrChain.
func TestNextPlaces(t *testing.T) {
	const end = base + 3*page
	r := ring.Ring{Size: 4, Last: 2}
	for _, x := range []struct {
		avail           uint32
		countIn, headIn bool
	}{
		{base, true, true}, {base + 2, true, true}, {base - 2, true, true}, {base - 4, false, true}, {base - 6, false, true}, {base - 8, false, true}, {base - 10, false, false},
		{end - 12, true, true}, {end - 10, true, true}, {end - 8, true, false}, {end - 6, true, false}, {end - 4, true, false}, {end - 2, false, false}, {end, false, false},
		{0, false, false}, {2, false, false}, {math.MaxUint32 - 1, false, false}, {math.MaxUint32 - 3, false, false}, {0x10020000, false, false}, {0x7fff0000, false, false},
	} {
		r.Avail = x.avail
		m := newRam(t, 3)
		count, head := x.avail+2, x.avail+8
		if x.headIn {
			lay(t, m, head, []byte{3, 0})
		}
		if x.countIn {
			lay(t, m, count, []byte{3, 0})
		}
		was := all(t, m)
		if x.headIn && x.countIn {
			takes(t, r, m, 3)
		} else {
			refuses(t, r, m)
		}
		quiet(t, m, was)
		if x.countIn {
			lay(t, m, count, []byte{2, 0})
			none(t, r, m)
		}
	}
}

// RI1, RI4: of several that are offered each is taken once, in order, over all turns of the count; then there is none.
func TestNextInOrder(t *testing.T) {
	m := newRam(t, 3)
	for _, size := range sizes {
		r := with(of(size), func(r *ring.Ring) { r.Last = 65000 })
		offered := r.Last
		var waiting []int
		for step := range 1200 {
			for range step*step%size + 1 {
				if len(waiting) < size {
					head := (step*5 + len(waiting)) % size
					layHead(t, m, r, offered, uint16(head))
					offered++
					waiting = append(waiting, head)
				}
			}
			layCount(t, m, r, offered)
			for range step % (size + 1) {
				if len(waiting) > 0 {
					r = takes(t, r, m, waiting[0])
					waiting = waiting[1:]
				}
			}
		}
		for _, head := range waiting {
			r = takes(t, r, m, head)
		}
		none(t, r, m)
		none(t, r, m)
	}
}
