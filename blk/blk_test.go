package blk_test

import (
	"errors"
	"fmt"
	"math"
	"slices"
	"testing"

	"pinnace/api"
	"pinnace/blk"
	"pinnace/ring"
	"pinnace/virtio"
)

// base is memory's first place on the bus, page how many bytes a page has, by hand.
const (
	base = 0x80000000
	page = 4096
)

// most is how many bytes a request has at most, by hand.
const most = 1048576

// errno is the number that errors.As finds in an error; 0 of nil, -1 of another error.
func errno(err error) api.Errno {
	if err == nil {
		return 0
	}
	var e api.Errno
	if errors.As(err, &e) {
		return e
	}
	return -1
}

// must fails the test at an error.
func must(t *testing.T, err error) {
	t.Helper()
	if err != nil {
		t.Fatal(err)
	}
}

// told is all of a value as text, in which nil and the empty list are the same.
func told(v any) string {
	return fmt.Sprintf("%+v", v)
}

// copyOf is a state that shares no list with another one.
func copyOf(s blk.State) blk.State {
	s.In = slices.Clone(s.In)
	for i := range s.In {
		s.In[i].L = slices.Clone(s.In[i].L)
	}
	return s
}

// with is a state that is changed by a function.
func with(s blk.State, change func(*blk.State)) blk.State {
	s = copyOf(s)
	change(&s)
	return s
}

// live is a setting that is Live, whose both queues are Ready.
func live() virtio.State {
	s := virtio.State{Status: 15, FeatSel: 3, DrvSel: 4, Sel: 5, Drv: [2]uint32{0, 1}}
	s.Q[0] = virtio.Queue{Ready: true, R: ring.Ring{Size: 64, Desc: base, Avail: base + page, Used: base + page + 1024}}
	s.Q[1] = virtio.Queue{Ready: true, R: ring.Ring{Size: 8, Desc: base + 2048, Avail: base + page + 2048, Used: base + page + 3072}}
	return s
}

// to are parts that the device writes, of so many bytes, one behind the other from a place on.
func to(at uint32, n ...int) []ring.Seg {
	var out []ring.Seg
	for _, v := range n {
		out = append(out, ring.Seg{At: at, N: v, Write: true})
		at += uint32(v)
	}
	return out
}

// waiting is a state in which a read and a Write wait, with another value in each part.
func waiting() blk.State {
	return blk.State{P: live(), Sectors: 100, Bell: true, Next: 9, In: []blk.Req{
		{ID: 5, Head: 3, Sector: 97, N: 1024, L: to(base+2*page, 1000, 25)},
		{ID: 8, Head: 255, Write: true, Sector: 99, N: 512, L: to(base+4*page, 0, 1)},
	}}
}

// many is a state in which so many reads wait.
func many(n int) blk.State {
	s := blk.State{P: live(), Sectors: 100, Bell: true, Next: uint32(n)}
	for i := range n {
		s.In = append(s.In, blk.Req{ID: uint32(i), Head: i, Sector: uint32(i), N: 512, L: to(base+2*page+uint32(600*i), 513)})
	}
	return s
}

// great is a state in which a read of N bytes waits that has just its room, or a Write of them that has another one.
func great(n int, write bool, room int) blk.State {
	s := blk.State{P: live(), Sectors: math.MaxUint32, Next: 1}
	s.In = []blk.Req{{Write: write, N: n, L: to(base, room)}}
	return s
}

// checks fails the test, if a state is not taken, or refused, as it must be.
func checks(t *testing.T, name string, s blk.State, pages int, may bool) {
	t.Helper()
	want := api.ErrArg
	if may {
		want = 0
	}
	was := told(s)
	if got := errno(blk.Check(s, pages)); got != want {
		t.Errorf("%s: error %d, not %d", name, got, want)
	}
	if told(s) != was {
		t.Errorf("%s: the state was changed", name)
	}
}

// BK1: states that may be.
func TestCheckMay(t *testing.T) {
	checks(t, "at first", blk.State{}, 8, true)
	checks(t, "at first, without memory", blk.State{}, 0, true)
	checks(t, "at first, of much memory", blk.State{}, math.MaxInt, true)
	checks(t, "anything that may be anything", blk.State{Sectors: math.MaxUint32, Bell: true, Next: math.MaxUint32}, 1, true)
	checks(t, "with an empty list", blk.State{In: []blk.Req{}}, 1, true)
	checks(t, "waiting", waiting(), 8, true)
	checks(t, "waiting, in just enough pages", waiting(), 5, true)
	checks(t, "waiting, in too few pages", waiting(), 4, false)
	checks(t, "waiting, in one page", waiting(), 1, false)
	checks(t, "waiting, in no page", waiting(), 0, false)
}

// BK1: fewer pages than none are ErrArg, whatever the state.
func TestCheckPages(t *testing.T) {
	for _, pages := range []int{-1, -2, -8, -(1 << 32), math.MinInt} {
		for i, s := range []blk.State{{}, waiting(), many(8), {P: virtio.State{Status: 16}}} {
			checks(t, fmt.Sprint(pages, " pages of ", i), s, pages, false)
		}
	}
}

// BK1: P is one that may be.
func TestCheckP(t *testing.T) {
	for i, change := range []func(*virtio.State){
		func(p *virtio.State) { p.Status |= 16 },
		func(p *virtio.State) { p.Status |= 32 },
		func(p *virtio.State) { p.Status |= 256 },
		func(p *virtio.State) { p.Irq = 4 },
		func(p *virtio.State) { p.Drv[0] = 1 },
		func(p *virtio.State) { p.Drv[1] = 0 },
		func(p *virtio.State) { p.Q[0].R.Size = 3 },
		func(p *virtio.State) { p.Q[1].R.Size = 257 },
		func(p *virtio.State) { p.Q[0].R.Desc++ },
		func(p *virtio.State) { p.Q[1].R.Used += 2 },
		func(p *virtio.State) { p.Q[0].Ready, p.Q[0].R.Size = false, -1 },
	} {
		for j, s := range []blk.State{waiting(), many(0), many(8)} {
			change(&s.P)
			checks(t, fmt.Sprint("P ", i, " of ", j), s, 8, false)
		}
	}
	for i, change := range []func(*virtio.State){
		func(p *virtio.State) { p.Status = 1; p.Drv = [2]uint32{7, 7} },
		func(p *virtio.State) { p.Status |= 64 | 128; p.Irq = 3 },
		func(p *virtio.State) { p.Q[0] = virtio.Queue{} },
		func(p *virtio.State) { p.Q[0].Ready, p.Q[0].R.Size, p.Q[0].R.Desc = false, 3, 1 },
		func(p *virtio.State) { p.Q[0].R.Size = 1 },
	} {
		for j, s := range []blk.State{waiting(), many(0), many(8)} {
			change(&s.P)
			checks(t, fmt.Sprint("right P ", i, " of ", j), s, 8, true)
		}
	}
}

// BK1: at most 8 requests are In.
func TestCheckHowMany(t *testing.T) {
	for n := range 20 {
		checks(t, fmt.Sprint(n, " are In"), many(n), 8, n <= 8)
	}
}

// BK1: each request has another ID, and Next is none of these.
func TestCheckIDs(t *testing.T) {
	for i := range 8 {
		for j := range 8 {
			s := many(8)
			s.In[i].ID = uint32(j)
			checks(t, fmt.Sprint("the ID ", j, " of the request ", i), s, 8, i == j)
		}
		s := many(8)
		s.Next = uint32(i)
		checks(t, fmt.Sprint("Next is ", i), s, 8, false)
	}
	for _, next := range []uint32{8, 9, 1 << 16, 1 << 31, math.MaxUint32} {
		s := many(8)
		s.Next = next
		checks(t, fmt.Sprint("Next is ", next), s, 8, true)
	}
	s := many(3)
	s.In[0].ID, s.In[1].ID, s.In[2].ID, s.Next = math.MaxUint32, 0, 1<<31, 1
	checks(t, "great IDs", s, 8, true)
	s.Next = math.MaxUint32
	checks(t, "a great Next", s, 8, false)
	s.Next = 0
	checks(t, "a Next of 0", s, 8, false)
	// Two may have one head, as the ring may have begun anew between them.
	s = many(2)
	s.In[1].Head = 0
	checks(t, "one head", s, 8, true)
}

// BK1: a head is from 0 to 255, also where the ring is smaller.
func TestCheckHeads(t *testing.T) {
	for _, head := range []int{math.MinInt, -(1 << 32), -256, -1, 0, 1, 63, 64, 127, 128, 254, 255, 256, 257, 512, 1 << 16, 1 << 32, 1<<32 + 1, math.MaxInt} {
		for i := range 2 {
			s := waiting()
			s.In[i].Head = head
			checks(t, fmt.Sprint("a head of ", head), s, 8, head >= 0 && head <= 255)
		}
	}
}

// BK1: N is a multiple of 512 from 512 to 1,048,576, of a read and of a Write.
func TestCheckN(t *testing.T) {
	for _, n := range []int{math.MinInt, -most, -1024, -513, -512, -511, -1, 0, 1, 2, 256, 511, 513, 1000, 1023, 1025, most - 1, most + 1, most + 511, most + 513, most + 512, 2 * most, 1 << 25, 1 << 32, 1<<32 + 512, math.MaxInt, math.MaxInt - 511} {
		checks(t, fmt.Sprint("a read of ", n), great(n, false, n+1), 1<<14, false)
		checks(t, fmt.Sprint("a Write of ", n), great(n, true, 1), 1<<14, false)
	}
	for _, n := range []int{512, 1024, 1536, 512 * 100, most - 1024, most - 512, most} {
		checks(t, fmt.Sprint("a read of ", n), great(n, false, n+1), 1<<14, true)
		checks(t, fmt.Sprint("a Write of ", n), great(n, true, 1), 1<<14, true)
	}
}

// BK1: the parts of a read have N + 1 bytes together, those of a Write from 1 to 1,048,576.
func TestCheckRoom(t *testing.T) {
	for _, n := range []int{512, 1024, most} {
		for d := -1030; d <= 1030; d++ {
			if room := n + 1 + d; room >= 0 {
				checks(t, fmt.Sprint("a read of ", n, " with room for ", room), great(n, false, room), 1<<14, d == 0)
			}
		}
	}
	for _, n := range []int{512, 5120, most} {
		for _, room := range []int{1, 2, 511, 512, 513, 1024, 1 << 19, most - 1, most} {
			checks(t, fmt.Sprint("a Write with room for ", room), great(n, true, room), 1<<14, true)
		}
		for _, room := range []int{0, most + 1, most + 512, 2 * most, 1 << 26} {
			checks(t, fmt.Sprint("a Write with room for ", room), great(n, true, room), 1<<14, false)
		}
	}
	// Several parts, in any order, over one another, and of no bytes.
	for _, x := range []struct {
		l           []ring.Seg
		read, write bool
	}{
		{nil, false, false},
		{[]ring.Seg{}, false, false},
		{to(base, 0), false, false},
		{to(base, 0, 0, 0), false, false},
		{to(base, 1), false, true},
		{to(base, 0, 1, 0), false, true},
		{to(base, 512, 1), true, true},
		{to(base, 1, 512), true, true},
		{to(base, 512, 0, 1, 0), true, true},
		{to(base, 512, 1, 1), false, true},
		{to(base, 511, 1), false, true},
		{to(base, 171, 171, 171), true, true},
		{slices.Concat(to(base, 512), to(base, 1)), true, true},
		{slices.Concat(to(base+5000, 512), to(base, 1)), true, true},
		{to(base, most, 1), false, false},
		{to(base, most-1, 1), false, true},
		{slices.Concat(to(base, most), to(base, 1)), false, false},
		{slices.Concat(slices.Repeat(to(base, 2), 255), to(base, 3)), true, true},
		{slices.Repeat(to(base, 2), 256), false, true},
		{slices.Repeat(to(base, 1<<26), 100), false, false},
	} {
		s := great(512, false, 0)
		s.In[0].L = x.l
		checks(t, fmt.Sprint("a read to ", len(x.l), " parts"), s, 1<<14, x.read)
		s.In[0].Write = true
		checks(t, fmt.Sprint("a Write to ", len(x.l), " parts"), s, 1<<14, x.write)
	}
}

// BK1: a request is a chain, which has 256 parts at most, also those of no bytes, and whatever the ring's Size is.
func TestCheckHowManyParts(t *testing.T) {
	for _, n := range []int{1, 2, 64, 254, 255, 256, 257, 258, 300, 512, 513, 1000, 1 << 16} {
		none := to(base, make([]int, n-1)...)
		for i := range 2 {
			for name, l := range map[string][]ring.Seg{
				"bytes first":  slices.Concat(waiting().In[i].L[1:], none),
				"bytes last":   slices.Concat(none, waiting().In[i].L[1:]),
				"none nowhere": slices.Concat(waiting().In[i].L[1:], slices.Repeat([]ring.Seg{{Write: true}}, n-1)),
			} {
				s := waiting()
				s.In[i].L = l
				if i == 0 {
					l[slices.IndexFunc(l, func(p ring.Seg) bool { return p.N > 0 })].N = 1025
				}
				checks(t, fmt.Sprint(n, " parts of ", i, ", ", name), s, 8, n <= 256)
				s.P.Q[0].R.Size = 1
				checks(t, fmt.Sprint(n, " parts of ", i, ", ", name, ", a small ring"), s, 8, n <= 256)
			}
		}
	}
	// Bytes in each of them, of one request, and of the last one of eight.
	for _, n := range []int{255, 256, 257} {
		s := great(1024, false, 0)
		s.In[0].L = slices.Concat(to(base, 1025-3*(n-1)), slices.Repeat(to(base, 3), n-1))
		checks(t, fmt.Sprint("a read to ", n, " parts of bytes"), s, 1, n <= 256)
		s = many(8)
		s.In[7].Write, s.In[7].L = true, slices.Repeat(to(base, 4096), n)
		checks(t, fmt.Sprint("the last one, a Write to ", n, " parts of a page"), s, 8, n <= 256)
	}
}

// BK1: the device writes each part.
func TestCheckParts(t *testing.T) {
	for i := range 2 {
		for j := range 2 {
			s := waiting()
			s.In[i].L[j].Write = false
			checks(t, fmt.Sprint("the part ", j, " of ", i, " is read"), s, 8, false)
		}
		s := waiting()
		s.In[i].L = append(s.In[i].L, ring.Seg{At: base, N: 1})
		checks(t, fmt.Sprint("one more part of ", i, " is read"), s, 8, false)
		s = waiting()
		s.In[i].L = append(s.In[i].L, ring.Seg{At: base})
		checks(t, fmt.Sprint("a part of no bytes of ", i, " is read"), s, 8, false)
	}
	// A number below 0 is none of bytes, whatever the others make together with it.
	for _, n := range []int{-1, -512, math.MinInt} {
		for i := range 2 {
			s := waiting()
			s.In[i].L = append(s.In[i].L, ring.Seg{At: base, N: n, Write: true})
			checks(t, fmt.Sprint("a part of ", n), s, 8, false)
			s.In[i].L = append(s.In[i].L, ring.Seg{At: base, N: -n, Write: true})
			checks(t, fmt.Sprint("parts of ", n, " and its like"), s, 1<<14, false)
		}
	}
}

// BK1: the bytes of a part are all in memory; none are everywhere.
func TestCheckMemory(t *testing.T) {
	for _, pages := range []int{1, 2, 3, 16, 300, 1<<14 - 1, 1 << 14, 1<<14 + 1, 1 << 15, 1 << 19, 1 << 20, 1 << 40, 1 << 52, 1 << 62, math.MaxInt} {
		end := uint32(base + min(pages, 1<<14)*page)
		for _, n := range []int{1, 2, 511, 513, 4096} {
			for _, write := range []bool{true, false} {
				for _, x := range []struct {
					at  uint32
					may bool
				}{
					{base, true}, {base + 1, n < 4096 || pages > 1}, {base - 1, false}, {base - uint32(n), false}, {0, false}, {base / 2, false},
					{end - uint32(n), true}, {end - uint32(n) + 1, false}, {end - 1, n == 1}, {end, false}, {end + 1, false}, {0xf0000000, false},
					{math.MaxUint32, false}, {-uint32(n), false}, {1 - uint32(n), false},
				} {
					s := great(512, write, 0)
					s.In[0].L = []ring.Seg{{At: x.at, N: n, Write: true}}
					if !write { // what is left of a read's room stands where it may
						s.In[0].N = 8192
						s.In[0].L = append(s.In[0].L, slices.Concat(to(base, 4096), to(base, 4096-n), to(base, 1))...)
					}
					checks(t, fmt.Sprintf("%d bytes at %#x of %d pages", n, x.at, pages), s, pages, x.may)
				}
			}
		}
		for _, at := range []uint32{0, base - 1, base, end - 1, end, math.MaxUint32} {
			s := great(512, true, 1)
			s.In[0].L = append(s.In[0].L, ring.Seg{At: at, Write: true})
			checks(t, fmt.Sprintf("no bytes at %#x of %d pages", at, pages), s, pages, true)
		}
		for _, n := range []int{1 << 31, 1 << 32, 1<<32 + 1, 1 << 62, math.MaxInt} {
			s := great(512, true, 1)
			s.In[0].L = []ring.Seg{{At: base, N: n, Write: true}}
			checks(t, fmt.Sprintf("%d bytes of %d pages", n, pages), s, pages, false)
		}
	}
}

// BK1: what is asked for lies within the disk.
func TestCheckSectors(t *testing.T) {
	for _, n := range []int{1, 2, 3, 2047, 2048} {
		for _, sectors := range []uint32{0, 1, 2, 3, 4, 100, 2047, 2048, 2049, 1 << 20, 1 << 31, math.MaxUint32 - 1, math.MaxUint32} {
			for _, sector := range []uint32{0, 1, 2, 99, sectors - 2049, sectors - 2048, sectors - 2047, sectors - 3, sectors - 2, sectors - 1, sectors, sectors + 1, 1 << 31, math.MaxUint32 - 1, math.MaxUint32} {
				for _, write := range []bool{false, true} {
					s := great(512*n, write, 512*n)
					s.Sectors, s.In[0].Sector = sectors, sector
					if !write {
						s.In[0].L = append(s.In[0].L, to(base, 1)...)
					}
					may := true
					for i := range uint64(n) {
						may = may && uint64(sector)+i < uint64(sectors)
					}
					checks(t, fmt.Sprint(n, " sectors from ", sector, " on of ", sectors), s, 1<<14, may)
				}
			}
		}
	}
}

// BK1: of a P whose status is 0 none is In.
func TestCheckStatus(t *testing.T) {
	for _, n := range []int{1, 2, 8} {
		for _, status := range []uint32{0, 1, 2, 3, 11, 15, 64, 79, 128} {
			s := many(n)
			s.P.Status = status
			checks(t, fmt.Sprint(n, " are In at the status ", status), s, 8, status != 0)
		}
	}
	checks(t, "none is In", blk.State{Bell: true, Next: 3, Sectors: 5}, 8, true)
}
