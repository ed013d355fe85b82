package ring_test

import (
	"bytes"
	"math"
	"slices"
	"testing"

	"pinnace/api"
	"pinnace/mem"
	"pinnace/ring"
)

// changed are bytes as memory's, of which some at a place of the bus are others.
func changed(b []byte, at uint32, by []byte) []byte {
	out := slices.Clone(b)
	copy(out[at-base:], by)
	return out
}

// RI3: head and number are stored as the Put-th, modulo Size, and the count behind them, also where Put turns round.
func TestGive(t *testing.T) {
	for _, size := range sizes {
		for _, put := range someLasts() {
			for _, head := range []int{0, 1, size / 2, size - 1} {
				for _, n := range []uint32{0, 1, 0x01020304, math.MaxUint32} {
					if head >= size {
						continue
					}
					m := newRam(t, 3)
					r := with(of(size), func(r *ring.Ring) { r.Put = put })
					want := changed(all(t, m), r.Used+4+uint32(8*(int(put)%size)), append(little(uint64(head), 4), little(uint64(n), 4)...))
					want = changed(want, r.Used+2, little(uint64(put)+1, 2))
					got, err := ring.Give(r, m, head, n)
					if err != nil || got != with(r, func(r *ring.Ring) { r.Put++ }) {
						t.Fatalf("Give of %+v, %d: %+v, %v", r, head, got, err)
					}
					if !bytes.Equal(all(t, m), want) {
						t.Fatalf("Give of %+v, %d, %d: other bytes", r, head, n)
					}
				}
			}
		}
	}
}

// RI3: several are given back, one behind the other: the table has the last Size of them, the count tells all.
func TestGiveOnAndOn(t *testing.T) {
	m := newRam(t, 3)
	r := with(of(8), func(r *ring.Ring) { r.Put = 65500 })
	want := all(t, m)
	for i := range 100 {
		at := r.Used + 4 + uint32(8*((65500+i)%8))
		want = changed(want, at, append(little(uint64(i*3%8), 4), little(uint64(i*1000), 4)...))
		want = changed(want, r.Used+2, little(uint64(65501+i), 2))
		got, err := ring.Give(r, m, i*3%8, uint32(i*1000))
		must(t, err)
		if !bytes.Equal(all(t, m), want) || int(got.Put) != (65501+i)%65536 || got.Last != r.Last {
			t.Fatalf("given back as the %d-th: %+v", i, got)
		}
		r = got
	}
}

// givesNot fails the test, if Give does not answer ErrChain, with memory as wanted.
func givesNot(t *testing.T, r ring.Ring, m *mem.Ram, head int, want []byte) {
	t.Helper()
	if got, err := ring.Give(r, m, head, 0x0a0b0c0d); got != (ring.Ring{}) || errno(err) != api.ErrChain {
		t.Errorf("Give of %+v, %d: %+v, %v, not ErrChain", r, head, got, err)
	}
	if !bytes.Equal(all(t, m), want) {
		t.Errorf("Give of %+v, %d: other bytes", r, head)
	}
}

// RI3: a head that is not below Size, or below 0, is ErrChain, and nothing is done.
func TestGiveHeads(t *testing.T) {
	for _, size := range sizes {
		m := newRam(t, 3)
		was := all(t, m)
		for _, head := range []int{-1, -2, -size, -256, size, size + 1, 2 * size, 256, 65536, 1 << 31, 1 << 32, 1<<32 + 1, math.MinInt, math.MaxInt} {
			givesNot(t, of(size), m, head, was)
		}
		quiet(t, m, was)
	}
}

// RI3: a head that can't be stored, with its number: nothing is done, be the count's place in memory.
func TestGiveUnstored(t *testing.T) {
	const end = base + 3*page
	for _, x := range []struct {
		used uint32
		put  uint16
	}{
		{end - 4, 0}, {end - 4, 1}, {end - 8, 0}, {end - 8, 3}, {end - 12, 1}, {end - 16, 1}, {end - 20, 2}, {end - 32, 4003}, {end - 32, 3}, {end, 0}, {end + 4, 0},
		{base - 8, 0}, {base - 16, 1}, {base - 32, 2}, {base - 12, 0}, {0, 0}, {4, 3}, {0x10030000, 0}, {math.MaxUint32 - 3, 0}, {math.MaxUint32 - 3, 3}, {math.MaxUint32 - 7, 0},
	} {
		m := newRam(t, 3)
		was := all(t, m)
		givesNot(t, ring.Ring{Size: 4, Used: x.used, Put: x.put}, m, 3, was)
		quiet(t, m, was)
	}
}

// RI3: up to the very edges of memory it can be stored.
func TestGiveEdges(t *testing.T) {
	const end = base + 3*page
	for _, x := range []struct {
		used uint32
		put  uint16
		at   uint32
	}{
		{end - 12, 0, end - 8}, {end - 20, 1, end - 8}, {end - 36, 3, end - 8}, {end - 36, 7, end - 8}, {base, 0, base + 4}, {base, 3, base + 28},
	} {
		m := newRam(t, 3)
		want := changed(all(t, m), x.at, []byte{2, 0, 0, 0, 9, 8, 7, 6})
		want = changed(want, x.used+2, []byte{byte(x.put + 1), 0})
		r := ring.Ring{Size: 4, Used: x.used, Put: x.put, Last: 77}
		got, err := ring.Give(r, m, 2, 0x06070809)
		if err != nil || got != with(r, func(r *ring.Ring) { r.Put++ }) || !bytes.Equal(all(t, m), want) {
			t.Errorf("Give at %#x: %+v, %v", x.used, got, err)
		}
	}
}

// RI3: where memory has the head's place, but not that of the count behind it: ErrChain, the head being stored.
func TestGiveUncounted(t *testing.T) {
	for put := range uint16(4) {
		m := newRam(t, 3)
		want := changed(all(t, m), base+uint32(8*put), []byte{1, 0, 0, 0, 0x0d, 0x0c, 0x0b, 0x0a})
		givesNot(t, ring.Ring{Size: 4, Used: base - 4, Put: put}, m, 1, want)
	}
}

// mixed are parts of all kinds: read and written, of no bytes, and of numbers below 0; some at places that no memory has.
func mixed() []ring.Seg {
	return []ring.Seg{
		{At: base + 100, N: 5}, {At: base + 200, N: 7, Write: true}, {At: 3, N: 0}, {At: base + page - 2, N: 6}, {At: 9, N: -1},
		{At: base + 2*page - 3, N: 4, Write: true}, {At: 5, N: 0, Write: true}, {At: math.MaxUint32, N: math.MinInt, Write: true}, {At: base + 100, N: 3}, {At: 0, N: -5, Write: true}, {At: base + 300, N: 2, Write: true}, {At: base + 3*page - 1, N: 1},
	}
}

// RI3: Gather are the bytes of all parts that are read, in order, be the same ones read twice; of the others nothing is asked.
func TestGather(t *testing.T) {
	m := newRam(t, 3)
	was := all(t, m)
	b := func(at, n int) []byte { return was[at : at+n] }
	for _, x := range []struct {
		l    []ring.Seg
		want []byte
	}{
		{nil, nil},
		{[]ring.Seg{}, nil},
		{[]ring.Seg{{At: base, N: 4}}, []byte{1, 2, 3, 4}},
		{[]ring.Seg{{At: base, N: 4, Write: true}}, nil},
		{[]ring.Seg{{At: 0, N: 4, Write: true}, {At: base + 1, N: 1}}, []byte{2}},
		{[]ring.Seg{{At: base + 1, N: 1}, {At: base, N: math.MaxInt, Write: true}}, []byte{2}},
		{[]ring.Seg{{At: 0, N: 0}}, nil},
		{[]ring.Seg{{At: base, N: -1}}, nil},
		{[]ring.Seg{{At: 0, N: math.MinInt}, {At: base, N: 1}, {At: 0, N: 0}, {At: base + 2, N: 1}}, []byte{1, 3}},
		{[]ring.Seg{{At: base, N: 3 * page}}, was},
		{[]ring.Seg{{At: base + 1, N: 3*page - 1}, {At: base, N: 1}}, slices.Concat(b(1, 3*page-1), []byte{1})},
		{[]ring.Seg{{At: base + 3*page - 1, N: 1}}, b(3*page-1, 1)},
		{mixed(), slices.Concat(b(100, 5), b(page-2, 6), b(100, 3), b(3*page-1, 1))},
	} {
		l := slices.Clone(x.l)
		got, err := ring.Gather(m, x.l)
		if err != nil || !bytes.Equal(got, x.want) {
			t.Errorf("Gather of %v: %v, %v, not %v", x.l, got, err, x.want)
		}
		if !slices.Equal(l, x.l) {
			t.Errorf("Gather changed %v", l)
		}
	}
	quiet(t, m, was)
}

// outside are parts that memory of three pages has not, all of them of at least one byte.
func outside() []ring.Seg {
	const end = base + 3*page
	return []ring.Seg{
		{At: end, N: 1}, {At: end - 1, N: 2}, {At: base - 1, N: 1}, {At: base - 1, N: 2}, {At: 0, N: 1}, {At: 0x10000000, N: 8}, {At: math.MaxUint32, N: 1}, {At: math.MaxUint32, N: 2}, {At: base - 100, N: 200},
		{At: base, N: 3*page + 1}, {At: base, N: 1 << 31}, {At: base, N: 1 << 32}, {At: base, N: 1<<32 + 1}, {At: base + 1, N: math.MaxInt}, {At: 1, N: math.MaxInt},
	}
}

// RI3: a part that is read, and that memory has not, is ErrChain, wherever it stands.
func TestGatherOutside(t *testing.T) {
	m := newRam(t, 3)
	for _, p := range outside() {
		good := ring.Seg{At: base + 1, N: 1}
		for _, l := range [][]ring.Seg{{p}, {good, p}, {p, good}, {p, p}, {good, good, p, good}} {
			if b, err := ring.Gather(m, l); len(b) > 0 || errno(err) != api.ErrChain {
				t.Errorf("Gather of %v: %d bytes, %v", l, len(b), err)
			}
		}
	}
}

// RI3: what Gather answers is its own.
func TestGatherAnew(t *testing.T) {
	m := newRam(t, 3)
	was := all(t, m)
	b, err := ring.Gather(m, []ring.Seg{{At: base, N: 9}})
	must(t, err)
	clear(b[:cap(b)])
	quiet(t, m, was)
}

// RI3: b's bytes are written to the parts that are written, one behind the other, and no others; as many as there are.
func TestScatter(t *testing.T) {
	given := bytes.Repeat([]byte{255, 254, 253, 252}, 4)
	for n := range 14 {
		m := newRam(t, 3)
		want := all(t, m)
		b := given[:n]
		for _, p := range []struct{ at, n int }{{200, 7}, {2*page - 3, 4}, {300, 2}} {
			k := min(p.n, len(b))
			want = changed(want, uint32(base+p.at), b[:k])
			b = b[k:]
		}
		l := mixed()
		if err := ring.Scatter(m, l, given[:n]); err != nil || !bytes.Equal(all(t, m), want) {
			t.Errorf("Scatter of %d bytes: %v", n, err)
		}
		if !slices.Equal(l, mixed()) || !bytes.Equal(given, bytes.Repeat([]byte{255, 254, 253, 252}, 4)) {
			t.Error("Scatter changed what it was given")
		}
	}
}

// RI3: pages that no byte was written to are not dirty; of no bytes nothing is done.
func TestScatterDirty(t *testing.T) {
	l := []ring.Seg{{At: base + page, N: 4, Write: true}, {At: base, N: 4, Write: true}, {At: base + 2*page, N: 4, Write: true}}
	for n, want := range map[int][]int{0: nil, 1: {1}, 4: {1}, 5: {0, 1}, 8: {0, 1}, 9: {0, 1, 2}, 12: {0, 1, 2}} {
		m := newRam(t, 3)
		must(t, ring.Scatter(m, l, row(n)))
		if got := m.Dirty(); !slices.Equal(got, want) {
			t.Errorf("Scatter of %d bytes: pages %v, not %v", n, got, want)
		}
	}
}

// scattersNot fails the test, if Scatter does not answer that error, or does something.
func scattersNot(t *testing.T, m *mem.Ram, l []ring.Seg, n int, want api.Errno) {
	t.Helper()
	was := all(t, m)
	if err := ring.Scatter(m, l, row(n)); errno(err) != want {
		t.Errorf("Scatter of %d bytes to %v: %v, not %d", n, l, err, want)
	}
	quiet(t, m, was)
}

// RI3: more bytes than the parts that are written have are ErrLong, and nothing is done; also where memory has not one of them.
func TestScatterLong(t *testing.T) {
	m := newRam(t, 3)
	for _, x := range []struct {
		l []ring.Seg
		n int
	}{
		{nil, 1}, {nil, 5000}, {[]ring.Seg{{At: base, N: 100}}, 1}, {[]ring.Seg{{At: base, N: 0, Write: true}}, 1}, {[]ring.Seg{{At: base, N: -1, Write: true}}, 1}, {[]ring.Seg{{At: base, N: math.MinInt, Write: true}}, 1},
		{[]ring.Seg{{At: base, N: 4, Write: true}}, 5}, {[]ring.Seg{{At: base, N: 4, Write: true}, {At: base + 9, N: 4, Write: true}}, 9}, {[]ring.Seg{{At: base, N: 4, Write: true}, {At: base + 9, N: -1, Write: true}}, 5},
		{[]ring.Seg{{At: base, N: 4, Write: true}, {At: base + 9, N: 4}}, 5}, {mixed(), 14}, {mixed(), 100},
		{[]ring.Seg{{At: 0, N: 4, Write: true}}, 5}, {[]ring.Seg{{At: base, N: 4, Write: true}, {At: 0, N: 4, Write: true}}, 9},
	} {
		scattersNot(t, m, x.l, x.n, api.ErrLong)
	}
}

// RI3: bytes to be written that memory has not are ErrChain, and nothing is done.
func TestScatterOutside(t *testing.T) {
	m := newRam(t, 3)
	for _, p := range outside() {
		p.Write = true
		good := ring.Seg{At: base + 1, N: 5, Write: true}
		for _, l := range [][]ring.Seg{{p}, {good, p}, {p, good}, {good, good, p, good}} {
			_, room := ring.Room(l)
			scattersNot(t, m, l, min(room, 5*page), api.ErrChain)
		}
	}
}

// RI3: of bytes that b does not reach nothing is asked, be they such as memory has not.
func TestScatterShort(t *testing.T) {
	for _, p := range outside() {
		m := newRam(t, 3)
		p.Write = true
		want := changed(all(t, m), base+1, []byte{1, 2, 3, 4, 5})
		l := []ring.Seg{{At: base + 1, N: 5, Write: true}, p, {At: 0, N: 4}}
		if err := ring.Scatter(m, l, row(5)); err != nil || !bytes.Equal(all(t, m), want) {
			t.Errorf("Scatter of five bytes to %v: %v", l, err)
		}
	}
	m := newRam(t, 3)
	want := changed(all(t, m), base+3*page-2, []byte{1, 2})
	l := []ring.Seg{{At: base + 3*page - 2, N: 3, Write: true}}
	if err := ring.Scatter(m, l, row(2)); err != nil || !bytes.Equal(all(t, m), want) {
		t.Errorf("Scatter of two bytes to %v: %v", l, err)
	}
	scattersNot(t, newRam(t, 3), l, 3, api.ErrChain)
}

// RI3: how many bytes are read, and written; parts of a number below 0 count for nothing.
func TestRoom(t *testing.T) {
	for _, x := range []struct {
		l             []ring.Seg
		read, written int
	}{
		{nil, 0, 0}, {[]ring.Seg{}, 0, 0}, {[]ring.Seg{{N: 5}}, 5, 0}, {[]ring.Seg{{N: 5, Write: true}}, 0, 5}, {[]ring.Seg{{N: 0}, {N: 0, Write: true}}, 0, 0},
		{[]ring.Seg{{N: -5}, {N: -1, Write: true}, {N: math.MinInt}, {N: math.MinInt, Write: true}}, 0, 0}, {[]ring.Seg{{N: 7}, {N: -5}, {N: 4, Write: true}, {N: -1, Write: true}}, 7, 4},
		{[]ring.Seg{{N: 1}, {N: 2, Write: true}, {N: 4}, {N: 8, Write: true}, {N: 16}}, 21, 10}, {mixed(), 15, 13},
		{[]ring.Seg{{N: 1 << 20}, {N: 1 << 31}, {N: 1 << 32, Write: true}}, 1<<20 + 1<<31, 1 << 32},
		{[]ring.Seg{{N: math.MaxInt}, {N: math.MaxInt - 1, Write: true}, {N: 1, Write: true}}, math.MaxInt, math.MaxInt},
		// More than a number can tell is the greatest one.
		{[]ring.Seg{{N: math.MaxInt}, {N: 1}, {N: math.MaxInt}, {N: math.MaxInt, Write: true}, {N: math.MaxInt, Write: true}}, math.MaxInt, math.MaxInt},
	} {
		l := slices.Clone(x.l)
		if read, written := ring.Room(x.l); read != x.read || written != x.written || !slices.Equal(l, x.l) {
			t.Errorf("Room of %v: %d, %d", l, read, written)
		}
	}
}

// RI4: what is scattered is read again there, over parts of any lengths that don't lie over one another.
func TestScatterGather(t *testing.T) {
	for cut := 1; cut < 200; cut += 7 {
		m := newRam(t, 3)
		var written, read []ring.Seg
		total := 0
		for at := base + 1; at+cut < base+3*page; at += cut * 3 {
			written = append(written, ring.Seg{At: uint32(at), N: cut, Write: true})
			read = append(read, ring.Seg{At: uint32(at), N: cut})
			total += cut
		}
		slices.Reverse(written)
		slices.Reverse(read)
		b := bytes.Repeat([]byte{9, 0, 200, 255, 7}, total/5+1)[:total]
		must(t, ring.Scatter(m, written, b))
		got, err := ring.Gather(m, read)
		if err != nil || !bytes.Equal(got, b) {
			t.Errorf("parts of %d: %v", cut, err)
		}
	}
}
