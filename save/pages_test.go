package save_test

import (
	"bytes"
	"fmt"
	"math"
	"math/rand"
	"slices"
	"testing"

	"pinnace/api"
	"pinnace/save"
)

// record is a page as it stands in the section 14: noughts, but for a byte at a place.
func record(number, at int, c byte) []byte {
	b := append(little(uint64(number), 4), make([]byte, page)...)
	b[4+at] = c
	return b
}

// section is a section 14 that tells so many pages.
func section(count int, records ...[]byte) []byte {
	return append(little(uint64(count), 4), bytes.Join(records, nil)...)
}

// isFilled fails the test, if Fill does not answer memory of these bytes, no page of which is dirty, or changes what is
// handed in.
func isFilled(t *testing.T, name string, pages int, b, want []byte) {
	t.Helper()
	was := slices.Clone(b)
	m, err := save.Fill(pages, b)
	if err != nil {
		t.Errorf("Fill of %s: %v", name, err)
		return
	}
	got, err := m.Read(0, m.Pages()*page)
	if m.Pages() != pages || err != nil || !bytes.Equal(got, want) {
		t.Errorf("Fill of %s: %d pages, not %d, or other bytes", name, m.Pages(), pages)
	}
	if len(m.Dirty()) > 0 {
		t.Errorf("Fill of %s: %v are dirty", name, m.Dirty())
	}
	if !bytes.Equal(b, was) {
		t.Errorf("Fill of %s changed what was handed in", name)
	}
}

// isNotFilled fails the test, if Fill does not answer this error, and no memory.
func isNotFilled(t *testing.T, name string, pages int, b []byte, want api.Errno) {
	t.Helper()
	was := slices.Clone(b)
	if m, err := save.Fill(pages, b); m != nil || errno(err) != want {
		t.Errorf("Fill of %s: %v, not %v; memory beside it: %v", name, err, want, m != nil)
	}
	if !bytes.Equal(b, was) {
		t.Errorf("Fill of %s changed what was handed in", name)
	}
}

// SV2: memory with no byte that is not 0, with one, with several pages, its first and its last page.
func TestPagesByHand(t *testing.T) {
	for _, c := range []struct {
		pages int
		set   map[uint32]byte
		want  []byte
	}{
		{1, nil, []byte{0, 0, 0, 0}},
		{16384, nil, []byte{0, 0, 0, 0}},
		{1, map[uint32]byte{0: 1}, section(1, record(0, 0, 1))},
		{1, map[uint32]byte{4095: 255}, section(1, record(0, 4095, 255))},
		{2, map[uint32]byte{4096: 128}, section(1, record(1, 0, 128))},
		{5, map[uint32]byte{0: 1, 2*page + 77: 2, 5*page - 1: 3}, section(3, record(0, 0, 1), record(2, 77, 2), record(4, 4095, 3))},
		{300, map[uint32]byte{255*page + 1: 1, 256 * page: 2}, section(2, record(255, 1, 1), record(256, 0, 2))},
		{16384, map[uint32]byte{16383*page + 9: 7}, section(1, record(16383, 9, 7))},
	} {
		m := ramOf(t, c.pages, c.set)
		if got := save.Pages(m); !bytes.Equal(got, c.want) {
			t.Errorf("Pages of %d with %v: %d bytes, not %d, or other ones", c.pages, c.set, len(got), len(c.want))
		}
		all, err := m.Read(0, c.pages*page)
		must(t, err)
		isFilled(t, fmt.Sprintf("%d pages with %v", c.pages, c.set), c.pages, c.want, all)
	}
}

// SV2: a page that was written, but is noughts, is none that holds something; and all bytes of one that does are there.
func TestPagesOfWhatWasWritten(t *testing.T) {
	m := ram(t, 4)
	must(t, m.Write(0, make([]byte, 3*page)))
	must(t, m.SetPage(3, make([]byte, page)))
	must(t, m.Write(2*page, []byte{1}))
	must(t, m.Write(2*page, []byte{0}))
	if got := save.Pages(m); !bytes.Equal(got, make([]byte, 4)) {
		t.Errorf("Pages of noughts that were written: %d bytes", len(got))
	}
	row := make([]byte, page)
	for i := range row {
		row[i] = byte(i*7 + i>>8)
	}
	must(t, m.SetPage(1, row))
	if got, want := save.Pages(m), slices.Concat(little(1, 4), little(1, 4), row); !bytes.Equal(got, want) {
		t.Errorf("Pages of a whole page: %d bytes, not %d, or other ones", len(got), len(want))
	}
}

// SV2: of no memory nothing.
func TestPagesOfNothing(t *testing.T) {
	if got := save.Pages(nil); len(got) != 0 {
		t.Errorf("Pages of nil: %x", got)
	}
}

// SV2: Pages changes nothing in memory, not even what is dirty, and answers new memory.
func TestPagesAnswersNewMemory(t *testing.T) {
	m := ramOf(t, 4, map[uint32]byte{0: 1, 3 * page: 2})
	m.Harvest()
	must(t, m.Write(page, []byte{0, 5}))
	writes := m.Writes()
	one, two := save.Pages(m), save.Pages(m)
	want := slices.Clone(two)
	fill(one, 0xee)
	if !bytes.Equal(two, want) || !bytes.Equal(save.Pages(m), want) {
		t.Error("an answer of Pages shares memory")
	}
	if !slices.Equal(m.Dirty(), []int{1}) || m.Writes() != writes {
		t.Errorf("Pages changed memory: %v are dirty, %d writes", m.Dirty(), m.Writes())
	}
}

// SV2: of 0 pages, fewer than none, too many: ahead of all that is wrong with the bytes.
func TestFillOfOtherCounts(t *testing.T) {
	for _, pages := range []int{0, -1, 16385, 1 << 32, math.MaxInt, math.MinInt} {
		for _, b := range [][]byte{nil, make([]byte, 4), section(1, record(0, 0, 1)), {1, 2, 3}, make([]byte, 5)} {
			isNotFilled(t, fmt.Sprintf("%d pages", pages), pages, b, api.ErrArg)
		}
	}
	for _, pages := range []int{1, 2, 16383, 16384} {
		isFilled(t, fmt.Sprintf("%d pages", pages), pages, make([]byte, 4), make([]byte, pages*page))
	}
}

// SV2: numbers that ascend, each once, below pages.
func TestFillOfNumbers(t *testing.T) {
	of := func(l ...int) []byte {
		b := little(uint64(len(l)), 4)
		for i, n := range l {
			b = append(b, record(n, i, byte(i+1))...)
		}
		return b
	}
	for _, l := range [][]int{{0}, {4}, {0, 1}, {0, 4}, {1, 3, 4}, {0, 1, 2, 3, 4}} {
		want, _ := plainFill(5, of(l...))
		isFilled(t, fmt.Sprint(l), 5, of(l...), want)
	}
	for _, l := range [][]int{
		{5}, {6}, {256}, {65536}, {1 << 24}, {1 << 31}, {1<<32 - 1}, {16384}, {1, 0}, {4, 3}, {0, 0}, {4, 4}, {0, 1, 1}, {0, 2, 1}, {2, 0, 1},
		{0, 5}, {4, 5}, {0, 1, 2, 3, 4, 5}, {0, 1, 2, 3, 4, 4}, {0, 1, 2, 3, 4, 0}, {1<<32 - 1, 0}, {0, 1<<32 - 1}, {1, 1 << 31},
	} {
		isNotFilled(t, fmt.Sprint(l), 5, of(l...), api.ErrForm)
	}
	isNotFilled(t, "the page 1 of 1", 1, of(1), api.ErrForm)
	isNotFilled(t, "the page 16384 of all", 16384, of(16384), api.ErrForm)
}

// SV2: no page's bytes are all 0.
func TestFillOfNoughts(t *testing.T) {
	empty := append(little(1, 4), make([]byte, page)...)
	isNotFilled(t, "a page of noughts", 3, section(1, empty), api.ErrForm)
	isNotFilled(t, "a page of noughts behind another one", 3, section(2, record(0, 0, 1), empty), api.ErrForm)
	isNotFilled(t, "a page of noughts ahead of another one", 3, section(2, empty, record(2, 0, 1)), api.ErrForm)
	isNotFilled(t, "a page of noughts between two", 3, section(3, record(0, 4095, 1), empty, record(2, 0, 1)), api.ErrForm)
	for at := range page {
		if m, err := save.Fill(1, section(1, record(0, at, 128))); err != nil || m == nil {
			t.Fatalf("Fill of a page with a byte at %d: %v", at, err)
		}
	}
}

// SV2: too few bytes, and some that are left; a count that is another one.
func TestFillOfOtherLengths(t *testing.T) {
	for _, b := range [][]byte{make([]byte, 4), section(1, record(1, 5, 6)), section(2, record(0, 0, 1), record(1, 4095, 2))} {
		for size := range b {
			if size < 12 || size > len(b)-12 || size%97 == 0 {
				isNotFilled(t, fmt.Sprintf("%d bytes of %d", size, len(b)), 2, b[:size], api.ErrForm)
			}
		}
		for _, more := range [][]byte{{0}, {1}, make([]byte, 4), make([]byte, page), make([]byte, 4+page), record(2, 0, 1)} {
			isNotFilled(t, fmt.Sprintf("%d bytes, and %d", len(b), len(more)), 3, slices.Concat(b, more), api.ErrForm)
		}
		for _, count := range []uint64{0, 1, 2, 3, 255, 1 << 8, 1 << 16, 1 << 24, 1 << 31, 1<<32 - 1, 1<<20 + 1} {
			other := append(little(count, 4), b[4:]...)
			if bytes.Equal(other, b) {
				continue
			}
			isNotFilled(t, fmt.Sprintf("%d bytes that tell %d pages", len(b), count), 2, other, api.ErrForm)
		}
	}
	isNotFilled(t, "nil", 1, nil, api.ErrForm)
}

// SV2: what Fill makes is made of the section alone, and keeps none of it.
func TestFillAnswersNewMemory(t *testing.T) {
	b := section(2, record(0, 0, 1), record(2, 9, 2))
	one, err := save.Fill(3, b)
	must(t, err)
	two, err := save.Fill(3, b)
	must(t, err)
	want := save.Pages(one)
	fill(b, 0x77)
	must(t, two.Write(0, bytes.Repeat([]byte{3}, 3*page)))
	if !bytes.Equal(save.Pages(one), want) || len(one.Dirty()) > 0 {
		t.Error("an answer of Fill shares memory")
	}
	if !slices.Equal(two.Dirty(), []int{0, 1, 2}) {
		t.Errorf("%v are dirty", two.Dirty())
	}
}

// SV2: any memory, there and back.
func TestPagesByChance(t *testing.T) {
	r := rand.New(rand.NewSource(4))
	for range 300 {
		m := ram(t, 1+r.Intn(12))
		for range r.Intn(12) {
			b := make([]byte, 1+r.Intn(9000))
			if r.Intn(3) > 0 {
				r.Read(b)
			}
			at := r.Intn(m.Pages() * page)
			must(t, m.Write(uint32(at), b[:min(len(b), m.Pages()*page-at)]))
		}
		b := save.Pages(m)
		if !bytes.Equal(b, plainPages(m)) {
			t.Fatalf("Pages of %d: %d bytes, not %d, or other ones", m.Pages(), len(b), len(plainPages(m)))
		}
		all, err := m.Read(0, m.Pages()*page)
		must(t, err)
		isFilled(t, "memory by chance", m.Pages(), b, all)
	}
}

// SV2: sections of which something is another one: each is told as the chapter's words have it.
func TestFillByChance(t *testing.T) {
	r := rand.New(rand.NewSource(5))
	seen := map[api.Errno]int{}
	for range 6000 {
		var records [][]byte
		n, pages := r.Intn(4), 1+r.Intn(5)
		for i := range n {
			records = append(records, record(i+r.Intn(2), r.Intn(page), byte(r.Intn(4))))
		}
		b := section(n, records...)
		if r.Intn(4) == 0 {
			b[r.Intn(len(b))] = byte(r.Intn(3))
		}
		if r.Intn(8) == 0 {
			b = b[:r.Intn(len(b)+1)]
		}
		want, number := plainFill(pages, b)
		if seen[number]++; number != 0 {
			isNotFilled(t, fmt.Sprintf("%d records by chance", n), pages, b, number)
			continue
		}
		isFilled(t, fmt.Sprintf("%d records by chance", n), pages, b, want)
	}
	if seen[0] < 1000 || seen[api.ErrForm] < 1000 {
		t.Errorf("seen: %v", seen)
	}
}

// SV2: as much memory as there may be, all of which holds something.
func TestAllPages(t *testing.T) {
	m := ram(t, 16384)
	for i := range 16384 {
		must(t, m.Write(uint32(i*page+i%page), []byte{byte(i>>8) | 1, byte(i)}[:1]))
	}
	b := save.Pages(m)
	if len(b) != 4+16384*4100 {
		t.Fatalf("Pages of all: %d bytes", len(b))
	}
	o, err := save.Fill(16384, b)
	if err != nil || !o.Same(m) || len(o.Dirty()) > 0 {
		t.Errorf("Fill of all: %v, %d are dirty", err, len(o.Dirty()))
	}
}
