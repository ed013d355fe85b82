package ring_test

import (
	"bytes"
	"math"
	"math/big"
	"math/rand"
	"slices"
	"testing"

	"pinnace/api"
	"pinnace/mem"
	"pinnace/ring"
)

// second is a queue after the chapter's words: memory is a list of bytes, and all numbers are great ones.
type second struct {
	bytes []byte
	r     ring.Ring
}

// index is where the byte of a place stands in the list; -1: nowhere.
func (x *second) index(at int64) int {
	if i := at%(1<<32) - base; i >= 0 && i < int64(len(x.bytes)) {
		return int(i)
	}
	return -1
}

// number is the number of n bytes at a place; false, if one of them is not there.
func (x *second) number(at int64, n int) (uint64, bool) {
	v := uint64(0)
	for d := n - 1; d >= 0; d-- {
		i := x.index(at + int64(d))
		if i < 0 {
			return 0, false
		}
		v = v*256 + uint64(x.bytes[i])
	}
	return v, true
}

// put puts a number of n bytes at a place; false, and nothing is done, if one of them is not there.
func (x *second) put(at int64, n int, v uint64) bool {
	if _, is := x.number(at, n); !is {
		return false
	}
	for d := range n {
		x.bytes[x.index(at+int64(d))] = byte(v)
		v /= 256
	}
	return true
}

// next is what Next answers.
func (x *second) next() (ring.Ring, int, bool, api.Errno) {
	count, is := x.number(int64(x.r.Avail)+2, 2)
	if !is {
		return ring.Ring{}, 0, false, api.ErrChain
	}
	ahead := 0
	for v := int(x.r.Last); v != int(count); v = (v + 1) % 65536 {
		ahead++
	}
	if ahead == 0 {
		return ring.Ring{}, 0, false, 0
	}
	head, is := x.number(int64(x.r.Avail)+4+2*int64(int(x.r.Last)%x.r.Size), 2)
	if !is || ahead > x.r.Size || int(head) >= x.r.Size {
		return ring.Ring{}, 0, false, api.ErrChain
	}
	r := x.r
	r.Last = uint16((int(r.Last) + 1) % 65536)
	return r, int(head), true, 0
}

// walk is what Walk answers: part by part, each of which it asks for all reasons of the chapter.
func (x *second) walk(head int) ([]ring.Seg, api.Errno) {
	var out []ring.Seg
	total, wrote := uint64(0), false
	for n := head; ; {
		if n < 0 || n >= x.r.Size || len(out) == x.r.Size {
			return nil, api.ErrChain
		}
		at := int64(x.r.Desc) + 16*int64(n)
		place, is1 := x.number(at, 8)
		many, is2 := x.number(at+8, 4)
		marks, is3 := x.number(at+12, 2)
		next, is4 := x.number(at+14, 2)
		if !is1 || !is2 || !is3 || !is4 || marks > 3 || place >= 1<<32 {
			return nil, api.ErrChain
		}
		total += many
		writes := marks >= 2
		if total > 1048576 || wrote && !writes {
			return nil, api.ErrChain
		}
		for d := range many {
			if at := place + d; at >= 1<<32 || x.index(int64(at)) < 0 {
				return nil, api.ErrChain
			}
		}
		wrote = writes
		out = append(out, ring.Seg{At: uint32(place), N: int(many), Write: writes})
		if marks%2 == 0 {
			return out, 0
		}
		n = int(next)
	}
}

// give is what Give answers.
func (x *second) give(head int, n uint32) (ring.Ring, api.Errno) {
	at := int64(x.r.Used) + 4 + 8*int64(int(x.r.Put)%x.r.Size)
	if head < 0 || head >= x.r.Size || !x.put(at, 8, uint64(head)+uint64(n)<<32) {
		return ring.Ring{}, api.ErrChain
	}
	count := (int(x.r.Put) + 1) % 65536
	if !x.put(int64(x.r.Used)+2, 2, uint64(count)) {
		return ring.Ring{}, api.ErrChain
	}
	r := x.r
	r.Put = uint16(count)
	return r, 0
}

// places are where the bytes of parts stand, byte by byte, at most n of them; -1 where there is no memory.
func (x *second) places(l []ring.Seg, write bool, n int) []int {
	var out []int
	for _, p := range l {
		for d := 0; p.Write == write && d < p.N && len(out) < n; d++ {
			at := int64(p.At) + int64(d)
			if at >= 1<<32 || x.index(at) < 0 {
				return append(out, -1)
			}
			out = append(out, x.index(at))
		}
	}
	return out
}

// room is what Room answers, in numbers that don't turn round.
func (x *second) room(l []ring.Seg, write bool) *big.Int {
	sum := new(big.Int)
	for _, p := range l {
		if p.Write == write && p.N > 0 {
			sum.Add(sum, big.NewInt(int64(p.N)))
		}
	}
	return sum
}

// gather is what Gather answers.
func (x *second) gather(l []ring.Seg) ([]byte, api.Errno) {
	var out []byte
	for _, i := range x.places(l, false, math.MaxInt) {
		if i < 0 {
			return nil, api.ErrChain
		}
		out = append(out, x.bytes[i])
	}
	return out, 0
}

// scatter is what Scatter answers.
func (x *second) scatter(l []ring.Seg, b []byte) api.Errno {
	if x.room(l, true).Cmp(big.NewInt(int64(len(b)))) < 0 {
		return api.ErrLong
	}
	at := x.places(l, true, len(b))
	if slices.Contains(at, -1) {
		return api.ErrChain
	}
	for d, i := range at {
		x.bytes[i] = b[d]
	}
	return 0
}

// near is a place by chance: mostly in memory with room behind it, at times near an edge of it, or far off.
func near(c *rand.Rand, size int, multiple uint32) uint32 {
	at := uint32(base + c.Intn(size))
	switch c.Intn(16) {
	case 0:
		at = uint32(base + size - c.Intn(80))
	case 1:
		at = uint32(base + c.Intn(80) - 40)
	case 2:
		if c.Intn(4) == 0 {
			at = []uint32{0, 16, math.MaxUint32, math.MaxUint32 - 31, 0x10020000}[c.Intn(5)]
		}
	}
	return at / multiple * multiple
}

// few is a number of bytes by chance, at times one of the edges.
func few(c *rand.Rand) int {
	if c.Intn(25) == 0 {
		return []int{1048575, 1048576, 1048577, math.MaxUint32, 1 << 31}[c.Intn(5)]
	}
	return c.Intn(c.Intn(300) + 1)
}

// someRing is a ring by chance.
func someRing(c *rand.Rand, size int) ring.Ring {
	r := ring.Ring{Size: 1 << c.Intn(6), Desc: near(c, size, 16), Avail: near(c, size, 2), Used: near(c, size, 4)}
	r.Last = uint16(c.Intn(1<<16) >> c.Intn(16))
	r.Put = uint16(-c.Intn(5))
	return r
}

// fill lays descriptors, a count and heads by chance, most of which can be, as far as there is memory.
func fill(t *testing.T, c *rand.Rand, m *mem.Ram, r ring.Ring) {
	t.Helper()
	size := m.Pages() * page
	write := func(at uint32, b []byte) {
		if err := m.Write(at-base, b); err != nil && errno(err) != api.ErrRange {
			t.Fatal(err)
		}
	}
	for n := range r.Size {
		d := desc{place: uint64(near(c, size, 1)), n: uint32(few(c)), marks: uint16(c.Intn(2)), next: uint16(n + 1)}
		if n > r.Size/2 {
			d.marks |= 2
		}
		switch c.Intn(30) {
		case 0:
			d.marks = uint16(1 << c.Intn(16))
		case 1:
			d.place |= 1 << (32 + c.Intn(32))
		case 2, 3:
			d.next = uint16(c.Intn(r.Size + 2))
		}
		write(r.Desc+uint32(16*n), bytes.Join([][]byte{little(d.place, 8), little(uint64(d.n), 4), little(uint64(d.marks), 2), little(uint64(d.next), 2)}, nil))
	}
	for k := range r.Size {
		head := c.Intn(r.Size)
		if c.Intn(20) == 0 {
			head = []int{r.Size, r.Size + 1, 65535}[c.Intn(3)]
		}
		write(r.Avail+4+uint32(2*k), little(uint64(head), 2))
	}
	write(r.Avail+2, little(uint64(int(r.Last)+c.Intn(r.Size+2)), 2))
}

// someParts are parts by chance.
func someParts(c *rand.Rand, size int) []ring.Seg {
	var out []ring.Seg
	for range c.Intn(6) {
		p := ring.Seg{At: near(c, size, 1), N: few(c), Write: c.Intn(2) == 0}
		if c.Intn(8) == 0 {
			p.N = []int{-1, 0, math.MinInt, math.MaxInt, 1 << 40}[c.Intn(5)]
		}
		out = append(out, p)
	}
	return out
}

// compare holds all calls of a ring against the second one's, one behind the other on the same memory, and tells how many went well.
func compare(t *testing.T, c *rand.Rand, r ring.Ring, m *mem.Ram, well map[string]int) {
	t.Helper()
	x := &second{bytes: all(t, m), r: r}
	got, head, is, err := ring.Next(r, m)
	want, wantHead, wantIs, wantErr := x.next()
	if got != want || head != wantHead || is != wantIs || errno(err) != wantErr {
		t.Fatalf("Next of %+v: %+v, %d, %v, %v, not %+v, %d, %v, %d", r, got, head, is, err, want, wantHead, wantIs, wantErr)
	}
	if !is {
		head = c.Intn(r.Size+2) - 1
	} else {
		well["Next"]++
	}
	l, err := ring.Walk(r, m, head)
	wantL, wantErr := x.walk(head)
	if !slices.Equal(l, wantL) || errno(err) != wantErr {
		t.Fatalf("Walk of %+v, %d: %v, %v, not %v, %d", r, head, l, err, wantL, wantErr)
	}
	if err != nil {
		l = someParts(c, len(x.bytes))
	} else {
		well["Walk"]++
	}
	compareParts(t, c, x, l, m, well)
	n := c.Uint32()
	got, err = ring.Give(r, m, head, n)
	want, wantErr = x.give(head, n)
	if got != want || errno(err) != wantErr || !bytes.Equal(all(t, m), x.bytes) {
		t.Fatalf("Give of %+v, %d, %d: %+v, %v, not %+v, %d", r, head, n, got, err, want, wantErr)
	}
	if err == nil {
		well["Give"]++
	}
}

// compareParts holds Room, Gather and Scatter against the second one's.
func compareParts(t *testing.T, c *rand.Rand, x *second, l []ring.Seg, m *mem.Ram, well map[string]int) {
	t.Helper()
	read, written := ring.Room(l)
	for write, got := range map[bool]int{false: read, true: written} {
		want := x.room(l, write)
		if greatest := big.NewInt(math.MaxInt); want.Cmp(greatest) > 0 {
			want = greatest
		}
		if want.Cmp(big.NewInt(int64(got))) != 0 {
			t.Fatalf("Room of %v: %d, not %d", l, got, want)
		}
	}
	b, err := ring.Gather(m, l)
	wantB, wantErr := x.gather(l)
	if !bytes.Equal(b, wantB) || errno(err) != wantErr {
		t.Fatalf("Gather of %v: %d bytes, %v, not %d, %d", l, len(b), err, len(wantB), wantErr)
	}
	if err == nil && len(b) > 0 {
		well["Gather"]++
	}
	b = make([]byte, max(0, min(written, 20000)+c.Intn(40)-38))
	c.Read(b)
	err = ring.Scatter(m, l, b)
	if want := x.scatter(l, b); errno(err) != want || !bytes.Equal(all(t, m), x.bytes) {
		t.Fatalf("Scatter of %d bytes to %v: %v, not %d", len(b), l, err, want)
	}
	if err == nil && len(b) > 0 {
		well["Scatter"]++
	}
}

// RI1, RI2, RI3, RI4: rings by chance, in memory of one to three pages, against a second one.
func TestAgainstSecond(t *testing.T) {
	c := rand.New(rand.NewSource(13))
	well := map[string]int{}
	for range 6000 {
		m := newRam(t, c.Intn(3)+1)
		r := someRing(c, m.Pages()*page)
		fill(t, c, m, r)
		compare(t, c, r, m, well)
	}
	for _, name := range []string{"Next", "Walk", "Give", "Gather", "Scatter"} {
		if well[name] < 500 {
			t.Errorf("%s went well %d times: too few", name, well[name])
		}
	}
}

// RI1, RI2, RI3, RI4: a queue that goes on and on, as a driver and a device have it: the driver offers chains, the device takes each, in order, reads and writes, and gives it back, whose answer the driver finds.
func TestDriver(t *testing.T) {
	c := rand.New(rand.NewSource(39))
	m := newRam(t, 4)
	r := ring.Ring{Size: 16, Desc: base, Avail: base + 256, Used: base + 512, Last: 65000, Put: 65000}
	offered, seen := r.Last, r.Put
	for turn := range 3000 {
		n := c.Intn(8) + 1
		var asks [][]byte
		for i := range n { // a chain of two parts: what is read, and as many bytes to be written
			ask := make([]byte, c.Intn(100)+1)
			c.Read(ask)
			asks = append(asks, ask)
			lay(t, m, uint32(base+page+200*i), ask)
			layDesc(t, m, r, 2*i, desc{place: uint64(base + page + 200*i), n: uint32(len(ask)), marks: 1, next: uint16(2*i + 1)})
			layDesc(t, m, r, 2*i+1, desc{place: uint64(base + 2*page + 200*i), n: uint32(len(ask)), marks: 2})
			layHead(t, m, r, offered, uint16(2*i))
			offered++
		}
		layCount(t, m, r, offered)
		for i := range n {
			r = takes(t, r, m, 2*i)
			l, err := ring.Walk(r, m, 2*i)
			must(t, err)
			b, err := ring.Gather(m, l)
			must(t, err)
			slices.Reverse(b)
			must(t, ring.Scatter(m, l, b))
			r, err = ring.Give(r, m, 2*i, uint32(len(b)))
			must(t, err)
		}
		none(t, r, m)
		for i, ask := range asks {
			at := r.Used + 4 + uint32(8*(seen%16)) - base
			head, err := m.Load(at, 4)
			must(t, err)
			many, err := m.Load(at+4, 4)
			must(t, err)
			got, err := m.Read(uint32(2*page+200*i), len(ask))
			must(t, err)
			slices.Reverse(got)
			if head != uint32(2*i) || many != uint32(len(ask)) || !bytes.Equal(got, ask) {
				t.Fatalf("turn %d: given back are %d and %d bytes of %d", turn, head, many, i)
			}
			seen++
		}
		if count, err := m.Load(r.Used+2-base, 2); err != nil || uint16(count) != seen || r.Put != seen {
			t.Fatalf("turn %d: %d are given back, not %d", turn, count, seen)
		}
	}
}
