package mem_test

import (
	"bytes"
	"errors"
	"math"
	"math/rand"
	"slices"
	"testing"

	"pinnace/api"
	"pinnace/mem"
	"pinnace/word"
)

// page is how many bytes a page has, by hand.
const page = 4096

// errno is the number that errors.As finds in an error; 0 of nil, -1 of another error.
func errno(err error) api.Errno {
	if err == nil {
		return 0
	}
	var e api.Errno
	if errors.As(err, &e) {
		return e
	}
	return -1
}

// newRam is memory of so many pages.
func newRam(t *testing.T, pages int) *mem.Ram {
	t.Helper()
	m, err := mem.New(pages)
	if err != nil || m == nil {
		t.Fatalf("New of %d: %v, %v", pages, m, err)
	}
	return m
}

// must fails the test at an error.
func must(t *testing.T, err error) {
	t.Helper()
	if err != nil {
		t.Fatal(err)
	}
}

// all are all bytes of memory.
func all(t *testing.T, m *mem.Ram) []byte {
	t.Helper()
	b, err := m.Read(0, m.Pages()*page)
	must(t, err)
	return b
}

// row are so many bytes, of which none stands in a page as its neighbours do.
func row(n int) []byte {
	b := make([]byte, n)
	for i := range b {
		b[i] = byte(i%251 + 1)
	}
	return b
}

// filled is memory of row's bytes, no page of it dirty, and the bytes.
func filled(t *testing.T, pages int) (*mem.Ram, []byte) {
	t.Helper()
	m, b := newRam(t, pages), row(pages*page)
	must(t, m.Write(0, b))
	m.Harvest()
	return m, b
}

// expect fails the test, if memory's bytes, dirty pages or writes are not these.
func expect(t *testing.T, m *mem.Ram, b []byte, dirty []int, writes int) {
	t.Helper()
	if !bytes.Equal(all(t, m), b) {
		t.Error("other bytes are in memory")
	}
	if got := m.Dirty(); !slices.Equal(got, dirty) {
		t.Errorf("Dirty: %v, not %v", got, dirty)
	}
	if got := m.Writes(); got != writes {
		t.Errorf("Writes: %d, not %d", got, writes)
	}
}

// places are those at a page's edges, at the end of a memory of so many pages, beyond it, and near 2^31 and 2^32.
func places(pages int) []uint32 {
	var out []uint32
	for p := 0; p <= pages+1; p++ {
		for d := -9; d <= 9; d++ {
			out = append(out, uint32(p*page+d)) // below 0: near 2^32
		}
	}
	for d := -9; d <= 9; d++ {
		out = append(out, uint32(1<<31+d), uint32(1<<26+d), uint32(1<<16+d))
	}
	return out
}

// widths are those that may be, and others.
func widths() []int {
	return []int{1, 2, 4, 0, 3, 5, 6, 7, 8, 16, page, -1, -2, -4, 1<<32 + 1, 1<<32 + 4, math.MinInt, math.MaxInt}
}

// ME1: how many pages there may be.
func TestNewOfEachSize(t *testing.T) {
	for _, pages := range []int{1, 2, 3, 1000, 16383, 16384} {
		if got := newRam(t, pages).Pages(); got != pages {
			t.Errorf("New of %d has %d pages", pages, got)
		}
	}
	for _, pages := range []int{0, -1, -2, 16385, 16386, 1 << 15, 1 << 32, 1<<32 + 1, math.MinInt, math.MaxInt, math.MinInt + 1} {
		if m, err := mem.New(pages); m != nil || errno(err) != api.ErrArg {
			t.Errorf("New of %d: %v, %v", pages, m, err)
		}
	}
}

// ME1: at first all is nought, nothing is dirty, and nothing was written.
func TestNewIsNoughts(t *testing.T) {
	for _, pages := range []int{1, 3, api.MaxPages} {
		m := newRam(t, pages)
		b := all(t, m)
		if len(b) != pages*page || len(bytes.Trim(b, "\x00")) != 0 {
			t.Errorf("New of %d: %d bytes, not all of them 0", pages, len(b))
		}
		if got := m.Dirty(); len(got) != 0 {
			t.Errorf("New of %d: dirty %v", pages, got)
		}
		if got := m.Writes(); got != 0 {
			t.Errorf("New of %d: %d writes", pages, got)
		}
	}
}

// ME1: the chapter's example.
func TestExample(t *testing.T) {
	m := newRam(t, 2)
	must(t, m.Store(4096, 4, 7))
	if got := m.Dirty(); !slices.Equal(got, []int{1}) {
		t.Errorf("Dirty: %v", got)
	}
}

// ME1: Load answers what word.Get does of all bytes, its errors in their order too.
func TestLoadIsGetOfAllBytes(t *testing.T) {
	for _, pages := range []int{1, 2, 3} {
		m, b := filled(t, pages)
		for _, at := range places(pages) {
			for _, n := range widths() {
				want, wantErr := word.Get(b, int(at), n)
				got, err := m.Load(at, n)
				if got != want || errno(err) != errno(wantErr) {
					t.Errorf("Load of %x by %d of %d pages: %x, %v, not %x, %v", at, n, pages, got, err, want, wantErr)
				}
			}
		}
		expect(t, m, b, nil, 1)
	}
}

// ME1: Store makes what word.With does of all bytes; one that ends in an error does nothing.
func TestStoreIsWithOfAllBytes(t *testing.T) {
	for _, pages := range []int{1, 2, 3} {
		m, b := filled(t, pages)
		writes := 1
		for _, at := range places(pages) {
			for _, n := range widths() {
				with, wantErr := word.With(b, int(at), n, 0xfedcba98)
				if err := m.Store(at, n, 0xfedcba98); errno(err) != errno(wantErr) {
					t.Fatalf("Store at %x by %d of %d pages: %v, not %v", at, n, pages, err, wantErr)
				}
				var dirty []int
				if wantErr == nil {
					b, dirty, writes = with, []int{int(at / page)}, writes+1
				}
				if expect(t, m, b, dirty, writes); t.Failed() {
					t.Fatalf("behind the Store at %x by %d of %d pages", at, n, pages)
				}
				m.Harvest()
			}
		}
	}
}

// ME1: errors told by hand, and which one comes first.
func TestErrorsOfNumbers(t *testing.T) {
	cases := []struct {
		pages int
		at    uint32
		n     int
		want  api.Errno
	}{
		{1, 0, 0, api.ErrWidth}, {1, 0, 3, api.ErrWidth}, {1, 0, 8, api.ErrWidth}, {1, 0, -4, api.ErrWidth},
		{1, 0xffffffff, 3, api.ErrWidth}, {1, 4097, 0, api.ErrWidth}, {1, 1, 5, api.ErrWidth},
		{1, 4095, 1, 0}, {1, 4094, 2, 0}, {1, 4092, 4, 0},
		{1, 4096, 1, api.ErrRange}, {1, 4096, 2, api.ErrRange}, {1, 4096, 4, api.ErrRange},
		{1, 4095, 2, api.ErrRange}, {1, 4093, 4, api.ErrRange}, {1, 4094, 4, api.ErrRange}, {1, 4095, 4, api.ErrRange},
		{1, 4097, 2, api.ErrRange}, {1, 4097, 4, api.ErrRange},
		{1, 0xffffffff, 1, api.ErrRange}, {1, 0xfffffffe, 2, api.ErrRange}, {1, 0xfffffffc, 4, api.ErrRange},
		{1, 0xffffffff, 2, api.ErrRange}, {1, 0xfffffffd, 4, api.ErrRange}, {1, 0x80000000, 4, api.ErrRange},
		{1, 1, 2, api.ErrAlign}, {1, 2, 4, api.ErrAlign}, {1, 4091, 4, api.ErrAlign}, {1, 4093, 2, api.ErrAlign},
		{2, 4095, 2, api.ErrAlign}, {2, 4093, 4, api.ErrAlign}, {2, 4094, 4, api.ErrAlign}, {2, 4095, 4, api.ErrAlign},
		{2, 4096, 4, 0}, {2, 8188, 4, 0}, {2, 8189, 4, api.ErrRange}, {2, 8192, 1, api.ErrRange},
		{api.MaxPages, 1<<26 - 4, 4, 0}, {api.MaxPages, 1<<26 - 1, 1, 0}, {api.MaxPages, 1<<26 - 2, 4, api.ErrRange},
		{api.MaxPages, 1 << 26, 1, api.ErrRange}, {api.MaxPages, 0xfffffffc, 4, api.ErrRange},
	}
	for _, c := range cases {
		m := newRam(t, c.pages)
		if v, err := m.Load(c.at, c.n); v != 0 || errno(err) != c.want {
			t.Errorf("Load of %x by %d of %d pages: %x, %v, not %d", c.at, c.n, c.pages, v, err, c.want)
		}
		if err := m.Store(c.at, c.n, math.MaxUint32); errno(err) != c.want {
			t.Errorf("Store at %x by %d of %d pages: %v, not %d", c.at, c.n, c.pages, err, c.want)
		}
		done := 0
		if c.want == 0 {
			done = 1
		}
		if len(m.Dirty()) != done || m.Writes() != done {
			t.Errorf("behind the Store at %x by %d: dirty %v, %d writes", c.at, c.n, m.Dirty(), m.Writes())
		}
	}
}

// ME1: the lowest byte stands first, and what is above a number's bytes is left off.
func TestStoreByHand(t *testing.T) {
	m := newRam(t, 2)
	must(t, m.Store(4092, 4, 0x44332211))
	must(t, m.Store(4096, 2, 0xabcd6655))
	must(t, m.Store(4098, 1, 0xffffff77))
	if got, err := m.Read(4092, 8); !bytes.Equal(got, []byte{0x11, 0x22, 0x33, 0x44, 0x55, 0x66, 0x77, 0}) || err != nil {
		t.Errorf("Read: %x, %v", got, err)
	}
	for _, c := range []struct {
		at   uint32
		n    int
		want uint32
	}{{4092, 4, 0x44332211}, {4094, 2, 0x4433}, {4095, 1, 0x44}, {4096, 4, 0x776655}, {4098, 2, 0x77}, {4099, 1, 0}} {
		if got, err := m.Load(c.at, c.n); got != c.want || err != nil {
			t.Errorf("Load of %d by %d: %x, %v", c.at, c.n, got, err)
		}
	}
}

// ME1, ME3: the last places of the greatest memory.
func TestTheGreatestMemory(t *testing.T) {
	m := newRam(t, api.MaxPages)
	must(t, m.Store(1<<26-4, 4, 0x12345678))
	must(t, m.Write(1<<26-page-1, []byte{9, 8}))
	if got, err := m.Read(1<<26-4, 4); !bytes.Equal(got, []byte{0x78, 0x56, 0x34, 0x12}) || err != nil {
		t.Errorf("Read: %x, %v", got, err)
	}
	if got, err := m.Load(1<<26-page-1, 1); got != 9 || err != nil {
		t.Errorf("Load: %x, %v", got, err)
	}
	if got := m.Dirty(); !slices.Equal(got, []int{16382, 16383}) {
		t.Errorf("Dirty: %v", got)
	}
	if err := m.Write(1<<26-1, []byte{1, 2}); errno(err) != api.ErrRange {
		t.Errorf("Write over the end: %v", err)
	}
	if b := row(1<<26 + 1); errno(m.Write(0, b)) != api.ErrRange || m.Write(0, b[1:]) != nil || !bytes.Equal(all(t, m), b[1:]) {
		t.Error("Write of all bytes")
	}
}

// lengths are how many bytes are read and written.
func lengths(pages int) []int {
	size := pages * page
	return []int{0, 1, 2, 3, 4, 5, 9, page - 1, page, page + 1, page + 9, 2*page - 1, 2 * page, 2*page + 1,
		size - 1, size, size + 1, 1 << 26, 1<<32 - 1, 1 << 32, 1<<32 + 1, math.MaxInt - 1, math.MaxInt}
}

// ME1: Read answers the bytes, if all of them are there.
func TestReadOfEachPlaceAndLength(t *testing.T) {
	for _, pages := range []int{1, 3} {
		m, b := filled(t, pages)
		for _, at := range places(pages) {
			for _, n := range lengths(pages) {
				got, err := m.Read(at, n)
				if n > 0 && (int(at) > len(b) || n > len(b)-int(at)) {
					if got != nil || errno(err) != api.ErrRange {
						t.Errorf("Read of %x, %d of %d pages: %d bytes, %v", at, n, pages, len(got), err)
					}
					continue
				}
				// Of no bytes all are there, at any place.
				if err != nil || len(got) != n || n > 0 && !bytes.Equal(got, b[at:int(at)+n]) {
					t.Errorf("Read of %x, %d of %d pages: %d bytes, %v", at, n, pages, len(got), err)
				}
			}
			for _, n := range []int{-1, -2, -page, math.MinInt32, math.MinInt, math.MinInt + 1} {
				if got, err := m.Read(at, n); got != nil || errno(err) != api.ErrArg {
					t.Errorf("Read of %x, %d of %d pages: %d bytes, %v", at, n, pages, len(got), err)
				}
			}
		}
		expect(t, m, b, nil, 1)
	}
}

// ME1: Write writes the bytes, if all of them are there; else it does nothing.
func TestWriteOfEachPlaceAndLength(t *testing.T) {
	for _, pages := range []int{1, 3} {
		m, b := filled(t, pages)
		writes := 1
		for i, at := range places(pages) {
			for _, n := range lengths(pages)[:17] {
				in := bytes.Repeat([]byte{byte(i), byte(n), 0}, n/3+1)[:n]
				may := n == 0 || int(at) <= len(b) && n <= len(b)-int(at)
				err := m.Write(at, in)
				if may && err != nil || !may && errno(err) != api.ErrRange {
					t.Fatalf("Write at %x of %d in %d pages: %v", at, n, pages, err)
				}
				var dirty []int
				if may && n > 0 {
					copy(b[at:], in)
					writes++
					for p := int(at) / page; p <= (int(at)+n-1)/page; p++ {
						dirty = append(dirty, p)
					}
				}
				if expect(t, m, b, dirty, writes); t.Failed() {
					t.Fatalf("behind the Write at %x of %d in %d pages", at, n, pages)
				}
				m.Harvest()
			}
		}
	}
}

// ME1: nothing is written by no bytes, nil or empty, wherever that is.
func TestWriteOfNoBytes(t *testing.T) {
	m := newRam(t, 1)
	for _, at := range []uint32{0, 1, 4095, 4096, 4097, 1 << 31, math.MaxUint32} {
		for _, b := range [][]byte{nil, {}} {
			if err := m.Write(at, b); err != nil {
				t.Errorf("Write of no bytes at %x: %v", at, err)
			}
		}
		if got, err := m.Read(at, 0); len(got) != 0 || err != nil {
			t.Errorf("Read of no bytes at %x: %x, %v", at, got, err)
		}
	}
	expect(t, m, make([]byte, page), nil, 0)
}

// ME2: a page's bytes, and pages that are not there.
func TestPageOfEachNumber(t *testing.T) {
	m, b := filled(t, 3)
	for p := range 3 {
		if got, err := m.Page(p); !bytes.Equal(got, b[p*page:(p+1)*page]) || err != nil {
			t.Errorf("Page %d: %d bytes, %v", p, len(got), err)
		}
	}
	for _, p := range []int{-1, -3, 3, 4, api.MaxPages, 1 << 32, math.MinInt, math.MaxInt} {
		if got, err := m.Page(p); got != nil || errno(err) != api.ErrRange {
			t.Errorf("Page %d: %d bytes, %v", p, len(got), err)
		}
		if got, err := m.Digest(p); got != 0 || errno(err) != api.ErrRange {
			t.Errorf("Digest of %d: %x, %v", p, got, err)
		}
		for _, n := range []int{0, page - 1, page, page + 1} {
			if err := m.SetPage(p, make([]byte, n)); errno(err) != api.ErrRange {
				t.Errorf("SetPage %d to %d bytes: %v", p, n, err)
			}
		}
	}
	expect(t, m, b, nil, 1)
}

// ME2: a page is set to just 4,096 bytes, and dirty then.
func TestSetPageOfEachLength(t *testing.T) {
	m, b := filled(t, 3)
	for _, n := range []int{0, 1, page - 1, page + 1, 2 * page, 3 * page} {
		if err := m.SetPage(1, make([]byte, n)); errno(err) != api.ErrLong {
			t.Errorf("SetPage to %d bytes: %v", n, err)
		}
	}
	if err := m.SetPage(1, nil); errno(err) != api.ErrLong {
		t.Errorf("SetPage to nil: %v", err)
	}
	expect(t, m, b, nil, 1)
	in := bytes.Repeat([]byte{1, 2, 3, 4}, page/4)
	must(t, m.SetPage(1, in))
	copy(b[page:], in)
	expect(t, m, b, []int{1}, 2)
	must(t, m.SetPage(2, make([]byte, page)))
	copy(b[2*page:], make([]byte, page))
	expect(t, m, b, []int{1, 2}, 3)
}

// ME2: a page is dirty by any write, also by the value that was there; none is behind a Harvest.
func TestDirtyTillHarvest(t *testing.T) {
	ways := map[string]func(*mem.Ram) error{
		"Store":   func(m *mem.Ram) error { return m.Store(2*page, 1, 0) },
		"Write":   func(m *mem.Ram) error { return m.Write(3*page-1, []byte{0}) },
		"SetPage": func(m *mem.Ram) error { return m.SetPage(2, make([]byte, page)) },
	}
	for name, write := range ways {
		m := newRam(t, 4)
		for i := range 3 {
			must(t, write(m))
			must(t, write(m))
			for range 2 {
				if got := m.Dirty(); !slices.Equal(got, []int{2}) {
					t.Errorf("%s: Dirty %v", name, got)
				}
			}
			if got := m.Harvest(); !slices.Equal(got, []int{2}) {
				t.Errorf("%s: Harvest %v", name, got)
			}
			for range 2 {
				if got, more := m.Dirty(), m.Harvest(); len(got) != 0 || len(more) != 0 {
					t.Errorf("%s: dirty behind a Harvest: %v, %v", name, got, more)
				}
			}
			expect(t, m, make([]byte, 4*page), nil, 2*i+2)
		}
	}
}

// ME2: what is dirty is told ascending, whatever came first; what is read is not.
func TestDirtyAscends(t *testing.T) {
	m := newRam(t, 16)
	for _, p := range []uint32{15, 3, 0, 9, 3, 8} {
		must(t, m.Store(p*page+100, 4, p))
	}
	all(t, m)
	for p := range 16 {
		_, err := m.Page(p)
		must(t, err)
		_, err = m.Digest(p)
		must(t, err)
		_, err = m.Load(uint32(p*page), 4)
		must(t, err)
	}
	m.Same(m.Clone())
	if got := m.Harvest(); !slices.Equal(got, []int{0, 3, 8, 9, 15}) {
		t.Errorf("Harvest: %v", got)
	}
	must(t, m.Write(5*page-1, make([]byte, 2+2*page)))
	if got := m.Dirty(); !slices.Equal(got, []int{4, 5, 6, 7}) {
		t.Errorf("Dirty: %v", got)
	}
}

// ME2: digests told by hand.
func TestDigestByHand(t *testing.T) {
	count := make([]byte, page)
	for i := range count {
		count[i] = byte(i)
	}
	cases := []struct {
		b    []byte
		want uint32
	}{
		{make([]byte, page), 0x76efddc5},
		{append([]byte{1}, make([]byte, page-1)...), 0xe9f59dc4},
		{append(make([]byte, page-1), 1), 0x75efdc32},
		{bytes.Repeat([]byte{255}, page), 0x34e76dc5},
		{count, 0xd9384dc5},
	}
	m := newRam(t, 3)
	for p := range 3 {
		if got, err := m.Digest(p); got != cases[0].want || err != nil {
			t.Errorf("Digest of %d, never written: %x, %v", p, got, err)
		}
	}
	for i, c := range cases {
		must(t, m.SetPage(1, c.b))
		if got, err := m.Digest(1); got != c.want || err != nil {
			t.Errorf("Digest of the case %d: %x, %v, not %x", i, got, err, c.want)
		}
	}
	if got, _ := m.Digest(2); got != cases[0].want {
		t.Errorf("Digest of another page: %x", got)
	}
}

// ME2: each write counts once, however many bytes and pages it writes; what ends in an error doesn't.
func TestWritesAreCounted(t *testing.T) {
	m := newRam(t, 3)
	steps := []struct {
		err  error
		want api.Errno
		n    int
	}{
		{m.Store(0, 1, 0), 0, 1}, {m.Store(0, 2, 0), 0, 1}, {m.Store(0, 4, 0), 0, 1},
		{m.Store(0, 3, 0), api.ErrWidth, 0}, {m.Store(3*page, 1, 0), api.ErrRange, 0}, {m.Store(1, 2, 0), api.ErrAlign, 0},
		{m.Write(0, nil), 0, 0}, {m.Write(3*page, []byte{}), 0, 0}, {m.Write(0, []byte{0}), 0, 1},
		{m.Write(0, make([]byte, 3*page)), 0, 1}, {m.Write(1, make([]byte, 3*page)), api.ErrRange, 0},
		{m.SetPage(0, make([]byte, page)), 0, 1}, {m.SetPage(3, make([]byte, page)), api.ErrRange, 0},
		{m.SetPage(0, make([]byte, page+1)), api.ErrLong, 0},
	}
	want := 0
	for i, s := range steps {
		if errno(s.err) != s.want {
			t.Errorf("the step %d: %v", i, s.err)
		}
		want += s.n
	}
	for range 2 {
		if got := m.Writes(); got != want {
			t.Errorf("Writes: %d, not %d", got, want)
		}
		m.Harvest()
	}
}

// ME1, ME2: what ends in an error leaves all as it was, also the pages that were there.
func TestAnErrorDoesNothing(t *testing.T) {
	m, b := filled(t, 2)
	for _, err := range []error{m.Write(page, make([]byte, page+1)), m.Write(1, make([]byte, 2*page)),
		m.Write(2*page-1, []byte{0, 0}), m.Write(2*page, []byte{0}), m.Write(math.MaxUint32, []byte{0, 0})} {
		if errno(err) != api.ErrRange {
			t.Errorf("a Write: %v", err)
		}
	}
	expect(t, m, b, nil, 1)
}

// ME2: a clone has the bytes, what is dirty, and the count; then both go their own ways.
func TestCloneGoesItsOwnWay(t *testing.T) {
	m, b := filled(t, 3)
	must(t, m.Store(page, 4, 1))
	b, err := word.With(b, page, 4, 1)
	must(t, err)
	c := m.Clone()
	if c == m || c.Pages() != 3 || !c.Same(m) || !m.Same(c) {
		t.Fatal("Clone is not the same, or is itself")
	}
	expect(t, c, b, []int{1}, 2)

	must(t, m.Store(0, 1, 0xee))
	mb, err := word.With(b, 0, 1, 0xee)
	must(t, err)
	expect(t, m, mb, []int{0, 1}, 3)
	expect(t, c, b, []int{1}, 2)

	must(t, c.SetPage(2, make([]byte, page)))
	cb := append(bytes.Clone(b[:2*page]), make([]byte, page)...)
	expect(t, c, cb, []int{1, 2}, 3)
	expect(t, m, mb, []int{0, 1}, 3)

	c.Harvest()
	expect(t, m, mb, []int{0, 1}, 3)
	m.Harvest()
	must(t, c.Write(page, []byte{5}))
	if len(m.Dirty()) != 0 || !slices.Equal(c.Dirty(), []int{1}) {
		t.Errorf("dirty: %v, %v", m.Dirty(), c.Dirty())
	}
}

// ME2: pages that were never written are a clone's own, too.
func TestCloneOfNoughts(t *testing.T) {
	m := newRam(t, 2)
	all(t, m)
	c := m.Clone()
	must(t, c.Store(0, 4, 1))
	must(t, m.Store(page, 4, 2))
	if got, _ := m.Load(0, 4); got != 0 {
		t.Errorf("the clone's write is in memory: %x", got)
	}
	if got, _ := c.Load(page, 4); got != 0 {
		t.Errorf("memory's write is in the clone: %x", got)
	}
	if m.Same(c) || c.Same(m) {
		t.Error("they are the same")
	}
}

// ME2: Same looks at how many pages there are, and at the bytes, and at nothing else.
func TestSame(t *testing.T) {
	m, n := newRam(t, 2), newRam(t, 2)
	three := newRam(t, 3)
	if !m.Same(m) || !m.Same(n) || !n.Same(m) {
		t.Error("noughts are not the same")
	}
	if m.Same(three) || three.Same(m) || m.Same(nil) {
		t.Error("other sizes, or nil, are the same")
	}
	must(t, m.Write(0, make([]byte, 2*page))) // noughts again, but dirty, and counted
	if !m.Same(n) || !n.Same(m) {
		t.Error("noughts that were written are not the same as others")
	}
	for _, at := range []uint32{0, page - 1, page, 2*page - 1} {
		must(t, m.Store(at, 1, 1))
		if m.Same(n) || n.Same(m) || !m.Same(m) {
			t.Errorf("of another byte at %d they are the same", at)
		}
		must(t, n.Store(at, 1, 1))
		if !m.Same(n) || !n.Same(m) {
			t.Errorf("of the same byte at %d they are not", at)
		}
	}
}

// Rule 3: bytes that were handed in are not changed, and not kept.
func TestArgumentsAreNotKept(t *testing.T) {
	m := newRam(t, 3)
	one, some, many := row(page), row(10), row(2*page)
	must(t, m.SetPage(0, one))
	must(t, m.Write(page-5, some))
	must(t, m.Write(page+5, many[:2*page-5]))
	want := append(append(append([]byte{}, row(page)[:page-5]...), row(10)...), row(2 * page)[:2*page-5]...)
	if !bytes.Equal(one, row(page)) || !bytes.Equal(some, row(10)) || !bytes.Equal(many, row(2*page)) {
		t.Error("what was handed in is changed")
	}
	clear(one)
	clear(some)
	clear(many)
	expect(t, m, want, []int{0, 1, 2}, 3)
	must(t, m.Write(0, make([]byte, 3*page)))
	if len(bytes.Trim(one, "\x00")) != 0 {
		t.Error("a later write is in what was handed in")
	}
	must(t, m.SetPage(1, bytes.Repeat([]byte{7}, page)))
	if len(bytes.Trim(many, "\x00")) != 0 {
		t.Error("a later write is in what was handed in")
	}
}

// spoil changes all of an answer, and its spare room.
func spoil[T byte | int](l []T) {
	l = l[:cap(l)]
	for i := range l {
		l[i] = 99
	}
}

// Rule 3: answers are new, their spare room too: of written pages, and of those that never were.
func TestAnswersAreNew(t *testing.T) {
	m, b := filled(t, 1)
	n := newRam(t, 3)
	must(t, n.Write(0, b))
	want := append(bytes.Clone(b), make([]byte, 2*page)...)
	for _, x := range []*mem.Ram{m, n, n.Clone()} {
		for p := range x.Pages() {
			got, err := x.Page(p)
			must(t, err)
			again, err := x.Page(p)
			must(t, err)
			spoil(got)
			if !bytes.Equal(again, want[p*page:(p+1)*page]) {
				t.Error("two answers share memory")
			}
			got, err = x.Read(uint32(p*page), page)
			must(t, err)
			spoil(got)
			got, err = x.Read(uint32(p*page), 0)
			must(t, err)
			spoil(got)
		}
		spoil(all(t, x))
		if !bytes.Equal(all(t, x), want[:x.Pages()*page]) {
			t.Error("a changed answer is in memory")
		}
		got := x.Dirty()
		spoil(x.Dirty())
		spoil(got)
		dirty := slices.Clone(x.Dirty())
		harvest := x.Harvest()
		must(t, x.Store(0, 1, 1))
		if !slices.Equal(harvest, dirty) {
			t.Errorf("Harvest: %v, not %v", harvest, dirty)
		}
		spoil(harvest)
		if !slices.Equal(x.Dirty(), []int{0}) {
			t.Errorf("Dirty: %v", x.Dirty())
		}
	}
	got, err := n.Read(0, 4)
	must(t, err)
	kept := bytes.Clone(got)
	must(t, n.Store(0, 4, 0))
	if !bytes.Equal(got, kept) {
		t.Error("a later write is in an answer")
	}
}

// ME2: a nil Ram has nothing, and answers ErrArg ahead of all other errors.
func TestNilRam(t *testing.T) {
	var m *mem.Ram
	for _, n := range []int{1, 4, 3, -1} {
		for _, at := range []uint32{0, 1, math.MaxUint32} {
			if v, err := m.Load(at, n); v != 0 || errno(err) != api.ErrArg {
				t.Errorf("Load of %x by %d: %x, %v", at, n, v, err)
			}
			if err := m.Store(at, n, 1); errno(err) != api.ErrArg {
				t.Errorf("Store at %x by %d: %v", at, n, err)
			}
			if b, err := m.Read(at, n); b != nil || errno(err) != api.ErrArg {
				t.Errorf("Read of %x, %d: %x, %v", at, n, b, err)
			}
		}
	}
	if b, err := m.Read(0, 0); b != nil || errno(err) != api.ErrArg {
		t.Errorf("Read of no bytes: %x, %v", b, err)
	}
	for _, b := range [][]byte{nil, {1}, make([]byte, page)} {
		if err := m.Write(0, b); errno(err) != api.ErrArg {
			t.Errorf("Write of %d bytes: %v", len(b), err)
		}
		for _, p := range []int{0, 1, -1} {
			if err := m.SetPage(p, b); errno(err) != api.ErrArg {
				t.Errorf("SetPage %d to %d bytes: %v", p, len(b), err)
			}
			if b, err := m.Page(p); b != nil || errno(err) != api.ErrArg {
				t.Errorf("Page %d: %x, %v", p, b, err)
			}
			if v, err := m.Digest(p); v != 0 || errno(err) != api.ErrArg {
				t.Errorf("Digest of %d: %x, %v", p, v, err)
			}
		}
	}
	if m.Pages() != 0 || m.Writes() != 0 || len(m.Dirty()) != 0 || len(m.Harvest()) != 0 || m.Clone() != nil {
		t.Error("a nil Ram has something")
	}
	if m.Same(nil) || m.Same(newRam(t, 1)) || newRam(t, 1).Same(nil) {
		t.Error("a nil Ram is the same as another")
	}
}

// plain is memory as a flat row of bytes, with what each page was at the last Harvest.
type plain struct {
	b, then []byte
	dirty   map[int]bool
	writes  int
}

// write does what a write does to plain memory.
func (p *plain) write(at int, b []byte) {
	copy(p.b[at:], b)
	for i := range b {
		p.dirty[(at+i)/page] = true
	}
	p.writes++
}

// list are plain memory's dirty pages.
func (p *plain) list() []int {
	var out []int
	for n := range p.dirty {
		out = append(out, n)
	}
	slices.Sort(out)
	return out
}

// step does one write, chosen by chance, to both memories.
func step(t *testing.T, r *rand.Rand, m *mem.Ram, p *plain) {
	t.Helper()
	at := r.Intn(len(p.b))
	switch r.Intn(4) {
	case 0:
		n := 1 << r.Intn(3)
		at, v := at/n*n, r.Uint32()
		must(t, m.Store(uint32(at), n, v))
		p.write(at, []byte{byte(v), byte(v >> 8), byte(v >> 16), byte(v >> 24)}[:n])
	case 1:
		b := make([]byte, 1+r.Intn(len(p.b)-at))
		r.Read(b)
		must(t, m.Write(uint32(at), b))
		p.write(at, b)
	case 2:
		b := make([]byte, page)
		r.Read(b)
		must(t, m.SetPage(at/page, b))
		p.write(at/page*page, b)
	case 3:
		if got := m.Harvest(); !slices.Equal(got, p.list()) {
			t.Fatalf("Harvest: %v, not %v", got, p.list())
		}
		clear(p.dirty)
		p.then = bytes.Clone(p.b)
	}
}

// ME3: what was written is read; a page that is not dirty has the bytes that it had at the last Harvest.
func TestWhatWasWrittenIsRead(t *testing.T) {
	r := rand.New(rand.NewSource(6))
	for round := range 20 {
		pages := 1 + r.Intn(6)
		m := newRam(t, pages)
		p := &plain{b: make([]byte, pages*page), then: make([]byte, pages*page), dirty: map[int]bool{}}
		for range 60 {
			step(t, r, m, p)
			if expect(t, m, p.b, p.list(), p.writes); t.Failed() {
				t.Fatalf("in the round %d", round)
			}
			for n := range pages {
				got, err := m.Page(n)
				must(t, err)
				if !slices.Contains(m.Dirty(), n) && !bytes.Equal(got, p.then[n*page:(n+1)*page]) {
					t.Fatalf("the page %d is not dirty, but has other bytes than at the last Harvest", n)
				}
			}
			at := uint32(r.Intn(len(p.b)) / 4 * 4)
			want, _ := word.Get(p.b, int(at), 4)
			if got, err := m.Load(at, 4); got != want || err != nil {
				t.Fatalf("Load of %x: %x, %v, not %x", at, got, err, want)
			}
		}
		if c := m.Clone(); !c.Same(m) {
			t.Fatal("a clone is not the same")
		}
	}
}
