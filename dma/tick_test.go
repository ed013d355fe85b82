package dma_test

import (
	"math"
	"slices"
	"testing"

	"pinnace/dma"
	"pinnace/mem"
)

// greatest is how many bytes the greatest memory has.
const greatest = 1 << 26

// start is a state that starts at a place.
func start(t *testing.T, head uint32) dma.State {
	t.Helper()
	return write(t, write(t, dma.State{}, 8, head), 0, 1)
}

// run ticks till it is not Busy any more, and how many ticks that took.
func run(t *testing.T, s dma.State, m *mem.Ram) (dma.State, int) {
	t.Helper()
	for n := range 70000 {
		if s.Code != 1 {
			return s, n
		}
		s = dma.Tick(s, m)
	}
	t.Fatalf("it does not end: %+v", s)
	return s, 0
}

// DM3: the chapter's example: two ticks behind its start it is Done, and three bytes were moved.
func TestExample(t *testing.T) {
	m := newRam(t, 1)
	lay(t, m, base, [4]uint32{base + 0x100, base + 0x200, 3, 0})
	want := all(t, m)
	copy(want[0x200:], want[0x100:0x103])
	s := start(t, base)
	tick(t, s, m, dma.State{Code: 1, Head: base, At: base, Steps: 1, Have: true, From: base + 0x100, To: base + 0x200, Left: 3})
	s = dma.Tick(dma.Tick(s, m), m)
	if s != (dma.State{Code: 2, Head: base, At: base, Steps: 1, Moved: 3, Asks: true}) {
		t.Errorf("behind two ticks: %+v", s)
	}
	same(t, all(t, m), want)
	tick(t, s, m, s)
}

// DM3: an order's words stand with their lowest byte first, and are had as they are, Left as many bytes.
func TestOrderByHand(t *testing.T) {
	m := newRam(t, 1)
	must(t, m.Write(0x40, []byte{4, 3, 2, 1, 8, 7, 6, 5, 0, 0, 1, 0, 12, 11, 10, 9}))
	m.Harvest()
	tick(t, dma.State{Code: 1, Head: 5, At: base + 0x40, Steps: 2, Moved: 77}, m,
		dma.State{Code: 1, Head: 5, At: base + 0x40, Steps: 3, Moved: 77, Have: true, From: 0x01020304, To: 0x05060708, Left: 65536, Next: 0x090a0b0c})
}

// DM3: where an order is may be any place of memory that is a multiple of 4, as far as all its sixteen bytes are there.
func TestOrderPlaces(t *testing.T) {
	for _, pages := range []int{1, 2, 5} {
		m := newRam(t, pages)
		end := uint32(base + pages*page)
		lay(t, m, base, [4]uint32{1, 2, 3, 4})
		lay(t, m, end-16, [4]uint32{5, 6, 7, 8})
		for _, c := range []struct {
			at   uint32
			want [4]uint32
		}{{base, [4]uint32{1, 2, 3, 4}}, {end - 16, [4]uint32{5, 6, 7, 8}}} {
			s := dma.State{Code: 1, At: c.at}
			tick(t, s, m, dma.State{Code: 1, At: c.at, Steps: 1, Have: true, From: c.want[0], To: c.want[1], Left: c.want[2], Next: c.want[3]})
		}
		var bad []uint32
		for _, d := range []uint32{15, 14, 13, 12, 11, 8, 7, 4, 3, 2, 1, 0} {
			bad = append(bad, end-d)
		}
		for d := range uint32(40) {
			bad = append(bad, end+d, base-1-d, math.MaxUint32-d, d)
		}
		bad = append(bad, base+1, base+2, base+3, base+5, end-17, end-18, end-19, base/2, base+base/2, 0x10010000, base+greatest)
		for _, at := range bad {
			s := dma.State{Code: 1, Head: 9, At: at, Steps: 5, Moved: 6}
			tick(t, s, m, dma.State{Code: 3, Head: 9, At: at, Steps: 5, Moved: 6, Asks: true})
		}
	}
}

// DM3: an order that lies over a border of pages is read whole.
func TestOrderOverPages(t *testing.T) {
	m := newRam(t, 2)
	for _, d := range []uint32{4, 8, 12} {
		at := uint32(base + page - d)
		lay(t, m, at, [4]uint32{1, 2, 3, 4})
		tick(t, dma.State{Code: 1, At: at}, m, dma.State{Code: 1, At: at, Steps: 1, Have: true, From: 1, To: 2, Left: 3, Next: 4})
	}
}

// DM3: the greatest memory has orders and bytes up to its end, and none behind it.
func TestTheGreatestMemory(t *testing.T) {
	m, err := mem.New(1 << 14)
	must(t, err)
	const end = base + greatest
	lay(t, m, end-16, [4]uint32{end - 64, base, 64, 0})
	s := dma.State{Code: 1, At: end - 16}
	s = dma.Tick(dma.Tick(s, m), m)
	if s.Code != 2 || s.Moved != 64 {
		t.Errorf("up to the end: %+v", s)
	}
	if got, err := m.Load(48, 4); got != end-64 || err != nil {
		t.Errorf("%#x was moved, %v", got, err)
	}
	m.Harvest()
	for _, at := range []uint32{end - 12, end, end + 16} {
		if got := dma.Tick(dma.State{Code: 1, At: at}, m); got != (dma.State{Code: 3, At: at, Asks: true}) {
			t.Errorf("an order at %#x: %+v", at, got)
		}
	}
	for _, at := range []uint32{end - 63, end, math.MaxUint32 - 63, math.MaxUint32} {
		for _, s := range []dma.State{{Code: 1, Have: true, From: at, To: base, Left: 64}, {Code: 1, Have: true, From: base, To: at, Left: 64}} {
			if got := dma.Tick(s, m); got != (dma.State{Code: 3, Asks: true}) || len(m.Dirty()) != 0 {
				t.Errorf("%+v: %+v, dirty %v", s, got, m.Dirty())
			}
		}
	}
}

// DM3: how many bytes an order may have; one that was read counts, though it fails.
func TestOrderBytes(t *testing.T) {
	for _, c := range []struct {
		n  uint32
		is bool
	}{
		{0, false}, {1, true}, {2, true}, {63, true}, {64, true}, {65, true}, {65535, true}, {65536, true}, {65537, false},
		{65538, false}, {1 << 17, false}, {1<<17 + 1, false}, {1 << 24, false}, {1 << 31, false}, {1<<31 + 1, false}, {math.MaxUint32, false},
	} {
		m := newRam(t, 1)
		lay(t, m, base+0x880, [4]uint32{base, base + 0x200, c.n, base + 0x40})
		s := looking()
		want := with(s, func(s *dma.State) {
			s.Steps, s.Have, s.From, s.To, s.Left, s.Next = 8, true, base, base+0x200, c.n, base+0x40
		})
		if !c.is {
			want = with(failed(s), func(s *dma.State) { s.Steps = 8 })
		}
		tick(t, s, m, want)
	}
}

// DM3: the sixty-fourth order is taken, and none behind it, whatever stands there.
func TestSteps(t *testing.T) {
	m := newRam(t, 1)
	lay(t, m, base, [4]uint32{base + 1, base + 2, 3, base}, [4]uint32{base, base, 0, 0})
	for _, steps := range []uint32{0, 1, 62, 63} {
		tick(t, dma.State{Code: 1, At: base, Steps: steps}, m,
			dma.State{Code: 1, At: base, Steps: steps + 1, Have: true, From: base + 1, To: base + 2, Left: 3, Next: base})
		tick(t, dma.State{Code: 1, At: base + 16, Steps: steps}, m, dma.State{Code: 3, At: base + 16, Steps: steps + 1, Asks: true})
		tick(t, dma.State{Code: 1, At: base + 2, Steps: steps}, m, dma.State{Code: 3, At: base + 2, Steps: steps, Asks: true})
	}
	for _, at := range []uint32{base, base + 16, base + 2, 0} {
		tick(t, dma.State{Code: 1, At: at, Steps: 64}, m, dma.State{Code: 3, At: at, Steps: 64, Asks: true})
	}
	// The sixty-fourth order itself is moved to its end.
	s := dma.Tick(dma.State{Code: 1, Steps: 64, Have: true, From: base + 0x100, To: base + 0x200, Left: 65}, m)
	if s != (dma.State{Code: 1, Steps: 64, Moved: 64, Have: true, From: base + 0x140, To: base + 0x240, Left: 1}) {
		t.Errorf("the first burst of the last order: %+v", s)
	}
	if s = dma.Tick(s, m); s != (dma.State{Code: 2, Steps: 64, Moved: 65, Asks: true}) {
		t.Errorf("behind the last order: %+v", s)
	}
}

// DM3: a burst is as many bytes as Left, 64 at most; what becomes of From, To, Left and Moved.
func TestBurstByHand(t *testing.T) {
	s := dma.State{Code: 1, Head: 3, At: base + 0x900, Steps: 4, Moved: 100, Have: true, From: base + 0x101, To: base + 0x203}
	done := dma.State{Code: 2, Head: 3, At: base + 0x900, Steps: 4, Asks: true}
	for _, c := range []struct {
		left, n uint32
	}{{1, 1}, {2, 2}, {3, 3}, {4, 4}, {62, 62}, {63, 63}, {64, 64}, {65, 64}, {66, 64}, {127, 64}, {128, 64}, {129, 64}, {4096, 64}, {65535, 64}, {65536, 64}} {
		m := newRam(t, 1)
		bytes := all(t, m)
		copy(bytes[0x203:0x203+c.n], row(page)[0x101:])
		s.Left = c.left
		want := with(s, func(s *dma.State) {
			s.From, s.To, s.Left, s.Moved = base+0x101+c.n, base+0x203+c.n, c.left-c.n, 100+c.n
		})
		if c.left == c.n {
			want = with(done, func(s *dma.State) { s.Moved = 100 + c.n })
		}
		if got := dma.Tick(s, m); got != want {
			t.Errorf("a burst of %d: %+v, not %+v", c.left, got, want)
		}
		same(t, all(t, m), bytes)
		if m.Writes() != 2 {
			t.Errorf("a burst of %d is %d writes", c.left, m.Writes()-1)
		}
	}
}

// DM3: what is behind an order: if Next is 0, it is Done; else it has no order, and stands at Next, wherever that is.
func TestNext(t *testing.T) {
	for _, left := range []uint32{1, 2, 63, 64} {
		for _, next := range []uint32{1, 2, 3, 4, base, base + 1, base + 0x900, math.MaxInt32, math.MaxUint32} {
			m := newRam(t, 1)
			s := dma.State{Code: 1, Head: 3, At: base + 0x900, Steps: 64, Moved: 5, Have: true, From: base, To: base + 0x200, Left: left, Next: next}
			if got := dma.Tick(s, m); got != (dma.State{Code: 1, Head: 3, At: next, Steps: 64, Moved: 5 + left}) {
				t.Errorf("Left %d, Next %#x: %+v", left, next, got)
			}
			s.Left = left + 64
			if got := dma.Tick(s, m); got != (dma.State{Code: 1, Head: 3, At: base + 0x900, Steps: 64, Moved: 69, Have: true, From: base + 64, To: base + 0x240, Left: left, Next: next}) {
				t.Errorf("Left %d, Next %#x: %+v", left+64, next, got)
			}
			s.Left, s.Next = left, 0
			if got := dma.Tick(s, m); got != (dma.State{Code: 2, Head: 3, At: base + 0x900, Steps: 64, Moved: 5 + left, Asks: true}) {
				t.Errorf("Left %d, Next 0: %+v", left, got)
			}
		}
	}
}

// DM3: bytes that are all in memory are moved, up to its very end; if one is not there, it fails, and nothing is written.
func TestBurstAtMemorysEdges(t *testing.T) {
	for _, pages := range []int{1, 2} {
		end := uint64(base + pages*page)
		var places []uint64
		for d := range uint64(70) {
			places = append(places, base-1-d, base+d, end-1-d, end+d, 1<<32-1-d, d)
		}
		places = append(places, 0x10010000, base+greatest, base+base/2)
		for _, left := range []uint32{1, 2, 63, 64, 65, 65536} {
			n := uint64(min(left, 64))
			for _, at := range places {
				is := at >= base && at+n <= end
				tryBurst(t, pages, uint32(at), base+0x400, left, is)
				tryBurst(t, pages, base+0x400, uint32(at), left, is)
				tryBurst(t, pages, uint32(at), uint32(at), left, is)
			}
		}
	}
}

// tryBurst moves a burst, which must be moved or fail.
func tryBurst(t *testing.T, pages int, from, to, left uint32, is bool) {
	t.Helper()
	m := newRam(t, pages)
	s := dma.State{Code: 1, Head: 3, At: 4, Steps: 5, Moved: 6, Have: true, From: from, To: to, Left: left, Next: 8}
	if !is {
		tick(t, s, m, dma.State{Code: 3, Head: 3, At: 4, Steps: 5, Moved: 6, Asks: true})
		return
	}
	n := min(left, 64)
	want := dma.State{Code: 1, Head: 3, At: 4, Steps: 5, Moved: 6 + n, Have: true, From: from + n, To: to + n, Left: left - n, Next: 8}
	if left == n {
		want = dma.State{Code: 1, Head: 3, At: 8, Steps: 5, Moved: 6 + n}
	}
	bytes := all(t, m)
	copy(bytes[to-base:to-base+n], row(pages * page)[from-base:])
	if got := dma.Tick(s, m); got != want {
		t.Fatalf("%d bytes from %#x to %#x: %+v, not %+v", left, from, to, got, want)
	}
	same(t, all(t, m), bytes)
}

// DM3: places by hand at memory's edges: both there, one that is not, and both.
func TestBurstAtMemorysEdgesByHand(t *testing.T) {
	for _, c := range []struct {
		from, to, left uint32
		is             bool
	}{
		{0x80000000, 0x80000ffd, 3, true}, {0x80000ffd, 0x80000000, 3, true},
		{0x80000000, 0x80000ffe, 3, false}, {0x80000ffe, 0x80000000, 3, false},
		{0x80000000, 0x80000fc0, 64, true}, {0x80000fc0, 0x80000000, 64, true},
		{0x80000000, 0x80000fc1, 64, false}, {0x80000fc1, 0x80000000, 64, false},
		{0x80000000, 0x80000fc1, 63, true}, {0x80000000, 0x80000fc0, 65, true}, {0x80000000, 0x80000fc1, 65, false},
		{0x80000fff, 0x80000000, 1, true}, {0x80001000, 0x80000000, 1, false}, {0x80000000, 0x80001000, 1, false},
		{0x7fffffff, 0x80000000, 1, false}, {0x7fffffff, 0x80000000, 2, false}, {0x80000000, 0x7fffffff, 64, false},
		{0, 0x80000000, 1, false}, {0x80000000, 0, 1, false}, {0, 0, 1, false}, {0x100, 0x200, 64, false},
		{0xffffffff, 0x80000000, 1, false}, {0xffffffff, 0x80000000, 2, false}, {0x80000000, 0xffffffff, 64, false},
		{0x10000000, 0x80000000, 1, false}, {0x80000000, 0x10000000, 1, false}, {0x80001000, 0x7fffffff, 1, false},
	} {
		tryBurst(t, 1, c.from, c.to, c.left, c.is)
	}
}

// DM3: an order whose second burst is not all in memory fails there; what its first burst wrote stays.
func TestLaterBurstFails(t *testing.T) {
	for _, c := range []struct{ from, to uint32 }{{0x80000fb0, 0x80000100}, {0x80000100, 0x80000fb0}} {
		m := newRam(t, 1)
		s := dma.State{Code: 1, Head: 3, At: base, Steps: 1, Have: true, From: c.from, To: c.to, Left: 100, Next: base}
		want := all(t, m)
		copy(want[c.to-base:], row(page)[c.from-base:c.from-base+64])
		s = dma.Tick(s, m)
		if s != (dma.State{Code: 1, Head: 3, At: base, Steps: 1, Moved: 64, Have: true, From: c.from + 64, To: c.to + 64, Left: 36, Next: base}) {
			t.Fatalf("the first burst: %+v", s)
		}
		m.Harvest()
		tick(t, s, m, dma.State{Code: 3, Head: 3, At: base, Steps: 1, Moved: 64, Asks: true})
		same(t, all(t, m), want)
	}
}

// DM3: all bytes of a burst are read ahead of what is written, whichever way places overlap.
func TestOverlap(t *testing.T) {
	for d := -70; d <= 70; d++ {
		for _, left := range []uint32{1, 2, 63, 64} {
			m := newRam(t, 1)
			was := all(t, m)
			want := slices.Clone(was)
			copy(want[0x400+d:0x400+d+int(left)], was[0x400:])
			dma.Tick(dma.State{Code: 1, Have: true, From: base + 0x400, To: uint32(base + 0x400 + d), Left: left}, m)
			same(t, all(t, m), want)
		}
	}
}

// DM3: but burst behind burst: what the first one wrote the second one reads.
func TestOverlapOfBursts(t *testing.T) {
	m := newRam(t, 1)
	lay(t, m, base, [4]uint32{base + 0x400, base + 0x440, 192, 0})
	want := all(t, m)
	for i := range 192 {
		want[0x440+i] = row(page)[0x400+i%64]
	}
	s, n := run(t, start(t, base), m)
	if s.Code != 2 || s.Moved != 192 || n != 4 {
		t.Errorf("%+v behind %d ticks", s, n)
	}
	same(t, all(t, m), want)
}

// DM3: Moved turns round at 2^32.
func TestMovedTurnsRound(t *testing.T) {
	for _, c := range []struct{ moved, left, want uint32 }{
		{0xffffffff, 1, 0}, {0xfffffffe, 1, 0xffffffff}, {0xffffffff, 64, 63}, {0xffffffc0, 64, 0}, {0xffffffc0, 63, 0xffffffff}, {0xfffffff0, 65, 48},
	} {
		m := newRam(t, 1)
		s := dma.State{Code: 1, Moved: c.moved, Have: true, From: base, To: base + 0x200, Left: c.left, Next: base}
		if got := dma.Tick(s, m); got.Moved != c.want || got.Code != 1 {
			t.Errorf("%#x and %d more: %+v", c.moved, c.left, got)
		}
	}
}

// DM3: From and To at 2^32: the places that a burst there would turn round to are not in memory, and it fails.
func TestPlacesThatTurnRound(t *testing.T) {
	for _, pages := range []int{1, 64} {
		for _, at := range []uint32{0xffffffff, 0xfffffffe, 0xffffffc1, 0xffffffc0, 0xffffffbf} {
			for _, left := range []uint32{1, 2, 63, 64, 65} {
				tryBurst(t, pages, at, base, left, false)
				tryBurst(t, pages, base, at, left, false)
				tryBurst(t, pages, at, at, left, false)
			}
		}
	}
}

// DM3: the pages to which a burst goes are dirty, by the bytes that they had too, and no other page is.
func TestDirtyPages(t *testing.T) {
	for _, c := range []struct {
		from, to, left uint32
		want           []int
	}{
		{0x80000000, 0x80001000, 64, []int{1}},
		{0x80001000, 0x80000000, 64, []int{0}},
		{0x80000000, 0x80000fc0, 64, []int{0}},
		{0x80000000, 0x80000fc1, 64, []int{0, 1}},
		{0x80000000, 0x80000fff, 64, []int{0, 1}},
		{0x80000000, 0x80000fff, 2, []int{0, 1}},
		{0x80000000, 0x80000fff, 1, []int{0}},
		{0x80000fe0, 0x80002000, 64, []int{2}},
		{0x80000fe0, 0x80001fe0, 200, []int{1, 2}},
		{0x80002000, 0x80002000, 64, []int{2}},
		{0x80000000, 0x80002fc0, 64, []int{2}},
		{0x80000000, 0x80002fc1, 64, nil},
		{0x80002fc1, 0x80000000, 64, nil},
		{0x7fffffff, 0x80000000, 64, nil},
		{0x80000000, 0x80003000, 1, nil},
	} {
		m := newRam(t, 3)
		dma.Tick(dma.State{Code: 1, Have: true, From: c.from, To: c.to, Left: c.left}, m)
		if got := m.Dirty(); !slices.Equal(got, c.want) {
			t.Errorf("%d bytes from %#x to %#x: dirty %v, not %v", c.left, c.from, c.to, got, c.want)
		}
		if m.Writes() != 1+min(len(c.want), 1) {
			t.Errorf("%d bytes from %#x to %#x: %d writes", c.left, c.from, c.to, m.Writes()-1)
		}
	}
}

// DM3: a list of orders, tick by tick: each is taken in a tick of its own, ahead of its bursts.
func TestList(t *testing.T) {
	m := newRam(t, 2)
	lay(t, m, base+0x20, [4]uint32{base + 0x100, base + 0x800, 65, base + 0x60})
	lay(t, m, base+0x60, [4]uint32{base + 0x300, base + 0x900, 64, base + 0x40})
	lay(t, m, base+0x40, [4]uint32{base + 0x800, base + 0x1000, 1, 0})
	want := all(t, m)
	copy(want[0x800:], want[0x100:0x141])
	copy(want[0x900:], want[0x300:0x340])
	copy(want[0x1000:], want[0x800:0x801])
	head := uint32(base + 0x20)
	s := start(t, head)
	for i, w := range []dma.State{
		{Code: 1, Head: head, At: head, Steps: 1, Have: true, From: base + 0x100, To: base + 0x800, Left: 65, Next: base + 0x60},
		{Code: 1, Head: head, At: head, Steps: 1, Moved: 64, Have: true, From: base + 0x140, To: base + 0x840, Left: 1, Next: base + 0x60},
		{Code: 1, Head: head, At: base + 0x60, Steps: 1, Moved: 65},
		{Code: 1, Head: head, At: base + 0x60, Steps: 2, Moved: 65, Have: true, From: base + 0x300, To: base + 0x900, Left: 64, Next: base + 0x40},
		{Code: 1, Head: head, At: base + 0x40, Steps: 2, Moved: 129},
		{Code: 1, Head: head, At: base + 0x40, Steps: 3, Moved: 129, Have: true, From: base + 0x800, To: base + 0x1000, Left: 1},
		{Code: 2, Head: head, At: base + 0x40, Steps: 3, Moved: 130, Asks: true},
		{Code: 2, Head: head, At: base + 0x40, Steps: 3, Moved: 130, Asks: true},
	} {
		if s = dma.Tick(s, m); s != w {
			t.Fatalf("tick %d: %+v, not %+v", i+1, s, w)
		}
	}
	same(t, all(t, m), want)
}

// DM3: an order that stands in memory is read when its turn comes: one may be written by the order ahead of it.
func TestOrderThatWasMoved(t *testing.T) {
	m := newRam(t, 1)
	lay(t, m, base, [4]uint32{base + 0x40, base + 0x80, 16, base + 0x80})
	lay(t, m, base+0x40, [4]uint32{base + 0x100, base + 0x200, 5, 0})
	lay(t, m, base+0x80, [4]uint32{0, 0, 0, 0})
	want := all(t, m)
	copy(want[0x80:], want[0x40:0x50])
	copy(want[0x200:], want[0x100:0x105])
	s, n := run(t, start(t, base), m)
	if s != (dma.State{Code: 2, Head: base, At: base + 0x80, Steps: 2, Moved: 21, Asks: true}) || n != 4 {
		t.Errorf("%+v behind %d ticks", s, n)
	}
	same(t, all(t, m), want)
}

// DM3: an order that is had stays as it was read, though its own bytes go over it.
func TestOrderThatGoesOverItself(t *testing.T) {
	m := newRam(t, 1)
	lay(t, m, base, [4]uint32{base + 0x100, base, 80, 0})
	want := all(t, m)
	copy(want, row(page)[0x100:0x150])
	s, n := run(t, start(t, base), m)
	if s != (dma.State{Code: 2, Head: base, At: base, Steps: 1, Moved: 80, Asks: true}) || n != 3 {
		t.Errorf("%+v behind %d ticks", s, n)
	}
	same(t, all(t, m), want)
}

// DM2, DM3: a driver that starts it, stops it in the middle, and starts it again.
func TestDriver(t *testing.T) {
	m := newRam(t, 1)
	lay(t, m, base, [4]uint32{base + 0x100, base + 0x800, 200, 0})
	s := start(t, base)
	for range 3 {
		s = dma.Tick(s, m)
	}
	if read(t, s, 0) != 1 || read(t, s, 12) != 128 || write(t, s, 0, 1) != s || write(t, s, 8, 5) != s {
		t.Fatalf("in the middle: %+v", s)
	}
	s = write(t, s, 0, 2)
	if s != (dma.State{Head: base, Moved: 128}) {
		t.Fatalf("stopped: %+v", s)
	}
	m.Harvest()
	tick(t, s, m, s)
	s, n := run(t, write(t, s, 0, 1), m)
	if read(t, s, 4) != 2 || read(t, s, 12) != 200 || read(t, s, 16) != 1 || n != 5 {
		t.Fatalf("at its end: %+v behind %d ticks", s, n)
	}
	if s = write(t, s, 16, 1); read(t, s, 16) != 0 || read(t, s, 4) != 2 {
		t.Fatalf("asked no more: %+v", s)
	}
	s, n = run(t, write(t, write(t, s, 8, base+2), 0, 1), m)
	if s != (dma.State{Code: 3, Head: base + 2, At: base + 2, Asks: true}) || n != 1 {
		t.Fatalf("at a wrong place: %+v behind %d ticks", s, n)
	}
}

// DM3, DM4: an order that follows itself is done sixty-four times, and fails then.
func TestOrderThatFollowsItself(t *testing.T) {
	m := newRam(t, 1)
	lay(t, m, base+0x40, [4]uint32{base + 0x100, base + 0x800, 3, base + 0x40})
	s, n := run(t, start(t, base+0x40), m)
	if s != (dma.State{Code: 3, Head: base + 0x40, At: base + 0x40, Steps: 64, Moved: 192, Asks: true}) || n != 129 {
		t.Errorf("%+v behind %d ticks", s, n)
	}
}

// DM4: sixty-four of the greatest orders end within 65,600 ticks, at each of which 64 bytes at most are written.
func TestGreatestList(t *testing.T) {
	m := newRam(t, 40)
	var orders [][4]uint32
	for i := range uint32(64) {
		orders = append(orders, [4]uint32{base + 0x1000 + 7*i, base + 0x14000 + 64*i, 65536, base + 16*(i+1)})
	}
	orders[63][3] = 0
	lay(t, m, base, orders...)
	shadow := all(t, m)
	s := start(t, base)
	for n := range 65600 {
		if s.Code != 1 {
			t.Fatalf("it ended at tick %d: %+v", n, s)
		}
		writes, moved := m.Writes(), s.Moved
		s = dma.Tick(s, m)
		if m.Writes() > writes+1 || s.Moved-moved > 64 {
			t.Fatalf("tick %d: %d writes, %d bytes", n, m.Writes()-writes, s.Moved-moved)
		}
		if first, last := changed(t, m, shadow); last-first >= 64 {
			t.Fatalf("tick %d: bytes from %#x to %#x were written", n, first, last)
		}
	}
	if s != (dma.State{Code: 2, Head: base, At: base + 16*63, Steps: 64, Moved: 64 * 65536, Asks: true}) {
		t.Errorf("at the end: %+v", s)
	}
}

// changed is the first and the last place of memory whose byte is not the shadow's, which becomes as memory is. No page is dirty then.
func changed(t *testing.T, m *mem.Ram, shadow []byte) (int, int) {
	t.Helper()
	first, last := 0, -1
	for _, p := range m.Harvest() {
		b, err := m.Page(p)
		must(t, err)
		was := shadow[p*page : (p+1)*page]
		for i := range b {
			if b[i] != was[i] {
				if last < 0 {
					first = p*page + i
				}
				last = p*page + i
			}
		}
		copy(was, b)
	}
	return first, last
}

// DM3, DM4: if there is one more behind them, all is moved within 65,600 ticks, and the look at it is the tick behind these.
func TestGreatestListThatFails(t *testing.T) {
	m := newRam(t, 40)
	lay(t, m, base, [4]uint32{base + 0x1000, base + 0x14000, 65536, base})
	s := start(t, base)
	for range 65600 {
		s = dma.Tick(s, m)
	}
	if s != (dma.State{Code: 1, Head: base, At: base, Steps: 64, Moved: 64 * 65536}) {
		t.Fatalf("behind all moves: %+v", s)
	}
	m.Harvest()
	tick(t, s, m, dma.State{Code: 3, Head: base, At: base, Steps: 64, Moved: 64 * 65536, Asks: true})
}
