package blk_test

import (
	"bytes"
	"fmt"
	"math"
	"slices"
	"testing"

	"pinnace/blk"
	"pinnace/mem"
	"pinnace/ring"
	"pinnace/virtio"
)

// Where the bench's heads stand, one behind the other, and the bytes that are moved.
const (
	headsAt = base + 2*page
	dataAt  = base + 3*page
)

// little are the lowest n bytes of a number, the lowest one first.
func little(v uint64, n int) []byte {
	var b []byte
	for range n {
		b = append(b, byte(v))
		v /= 256
	}
	return b
}

// row are so many bytes, none of them 0, 1 or 2, and none as its neighbours.
func row(n int) []byte {
	b := make([]byte, n)
	for i := range b {
		b[i] = byte(i%251 + 3)
	}
	return b
}

// bench is a driver's memory, beside which another one is kept as it must become.
type bench struct {
	t       *testing.T
	m, want *mem.Ram
	s       blk.State
	desc    int    // the next descriptor that is free
	heads   uint32 // and the next place of a head
	offered uint16
}

// newBench is a bench of so many pages of row's bytes, of a disk of 100 sectors whose bell has rung.
func newBench(t *testing.T, pages int) *bench {
	t.Helper()
	m, err := mem.New(pages)
	must(t, err)
	must(t, m.Write(0, row(pages*page)))
	x := &bench{t: t, m: m, heads: headsAt, s: blk.State{P: live(), Sectors: 100, Bell: true, Next: 7}}
	x.lay(x.s.P.Q[0].R.Avail, little(0, 4))
	x.lay(x.s.P.Q[0].R.Used, little(0, 4))
	return x
}

// lay lays bytes at a place of the bus.
func (x *bench) lay(at uint32, b []byte) {
	x.t.Helper()
	must(x.t, x.m.Write(at-base, b))
	x.m.Harvest()
	x.want = x.m.Clone()
}

// from is a part that the device reads.
func from(at uint32, n int) ring.Seg {
	return ring.Seg{At: at, N: n}
}

// offer offers a chain; its head.
func (x *bench) offer(parts ...ring.Seg) int {
	x.t.Helper()
	r, head := x.s.P.Q[0].R, x.desc
	for i, p := range parts {
		marks := uint64(0)
		if i+1 < len(parts) {
			marks |= 1
		}
		if p.Write {
			marks |= 2
		}
		x.lay(r.Desc+uint32(16*x.desc), slices.Concat(little(uint64(p.At), 8), little(uint64(p.N), 4), little(marks, 2), little(uint64(x.desc+1), 2)))
		x.desc++
	}
	x.lay(r.Avail+4+2*uint32(int(x.offered)%r.Size), little(uint64(head), 2))
	x.offered++
	x.lay(r.Avail+2, little(uint64(x.offered), 2))
	return head
}

// head lays a head, whose bytes that are nothing are something; where it stands.
func (x *bench) head(kind uint32, sector uint64) uint32 {
	x.t.Helper()
	at := x.heads
	x.heads += 16
	x.lay(at, slices.Concat(little(uint64(kind), 4), []byte{0xa5, 0xff, 1, 0x80}, little(sector, 8)))
	return at
}

// ask offers a chain with a head in one part, and the other parts behind it; its head.
func (x *bench) ask(kind uint32, sector uint64, parts ...ring.Seg) int {
	x.t.Helper()
	return x.offer(append([]ring.Seg{from(x.head(kind, sector), 16)}, parts...)...)
}

// poll polls, and fails the test, if that does not make just that state, and these asks, or what was handed in is changed.
func (x *bench) poll(change func(*blk.State), asks ...blk.Ask) {
	x.t.Helper()
	want, was := with(x.s, change), told(x.s)
	got, l := blk.Poll(x.s, x.m)
	if told(got) != told(want) || !sameAsks(l, asks) {
		x.t.Fatalf("Poll of %s: %+v, %v; not %+v, %v", was, got, brief(l), want, brief(asks))
	}
	if blk.Check(x.s, x.m.Pages()) == nil {
		checks(x.t, "what was polled", got, x.m.Pages(), true)
	}
	kept := copyOf(got)
	spoil(got)
	for _, a := range l {
		clear(a.Data[:cap(a.Data)])
	}
	if told(x.s) != was {
		x.t.Fatalf("Poll changed what was handed in: %+v, not %s", x.s, was)
	}
	x.s = kept
	x.memory()
}

// memory fails the test, if memory is not as it must be, or other pages are dirty; none is then.
func (x *bench) memory() {
	x.t.Helper()
	if !x.m.Same(x.want) || !slices.Equal(x.m.Dirty(), x.want.Dirty()) {
		for page := range x.m.Pages() {
			a, _ := x.m.Page(page)
			b, _ := x.want.Page(page)
			for i := range a {
				if a[i] != b[i] {
					x.t.Errorf("at %#x: %d, not %d", base+page*4096+i, a[i], b[i])
				}
			}
		}
		x.t.Fatalf("memory is not as it must be; dirty are %v, not %v", x.m.Dirty(), x.want.Dirty())
	}
	x.m.Harvest()
	x.want.Harvest()
}

// sameAsks tells whether lists of asks are the same.
func sameAsks(a, b []blk.Ask) bool {
	return slices.EqualFunc(a, b, func(a, b blk.Ask) bool {
		return a.ID == b.ID && a.Write == b.Write && a.Sector == b.Sector && a.N == b.N && bytes.Equal(a.Data, b.Data)
	})
}

// brief tells asks, of their data how many bytes alone.
func brief(l []blk.Ask) string {
	out := ""
	for _, a := range l {
		out += fmt.Sprintf("{%d %v %d %d: %d bytes}", a.ID, a.Write, a.Sector, a.N, len(a.Data))
	}
	return out
}

// answered lays what an answer of a status alone must make of memory, as the n-th that is given back.
func (x *bench) answered(n uint16, head int, at uint32, status byte) {
	x.t.Helper()
	must(x.t, x.want.Write(at-base, []byte{status}))
	x.given(n, head, 1)
}

// given lays what giving back must make of memory.
func (x *bench) given(n uint16, head, written int) {
	x.t.Helper()
	r := x.s.P.Q[0].R
	must(x.t, x.want.Write(r.Used-base+4+8*uint32(int(n)%r.Size), slices.Concat(little(uint64(head), 4), little(uint64(written), 4))))
	must(x.t, x.want.Write(r.Used-base+2, little(uint64(n+1), 2)))
}

// nothing is no change.
func nothing(*blk.State) {}

// silent is the change of a queue that offers nothing more.
func silent(s *blk.State) { s.Bell = false }

// fails is the change of a P that fails, by hand.
func fails(s *blk.State) {
	s.P.Status |= 64
	s.P.Irq |= 2
}

// gave is the change of chains that were taken and answered at once, behind which there is none.
func gave(n uint16) func(*blk.State) {
	return func(s *blk.State) {
		s.Bell = false
		s.P.Irq |= 1
		s.P.Q[0].R.Last += n
		s.P.Q[0].R.Put += n
	}
}

// entered is the change of chains that were taken and are In, behind which there is none.
func entered(next uint32, l ...blk.Req) func(*blk.State) {
	return func(s *blk.State) {
		s.Bell = false
		s.P.Q[0].R.Last += uint16(len(l))
		s.Next = next
		s.In = append(s.In, l...)
	}
}

// The chapter's example, and all that it makes.
func TestPollExample(t *testing.T) {
	x := newBench(t, 8)
	head := x.ask(0, 3, to(dataAt, 513)...)
	x.poll(entered(8, blk.Req{ID: 7, Head: head, Sector: 3, N: 512, L: to(dataAt, 513)}), blk.Ask{ID: 7, Sector: 3, N: 512})
	x.poll(nothing)
}

// BK2: nothing is done, if there is no memory, the bell has not rung, P is not Live, or the queue 0 not Ready; the bell
// stays.
func TestPollNothing(t *testing.T) {
	for name, change := range map[string]func(*blk.State){
		"no bell":             func(s *blk.State) { s.Bell = false },
		"status 0":            func(s *blk.State) { s.P.Status = 0 },
		"status 3":            func(s *blk.State) { s.P.Status = 3 },
		"status 7":            func(s *blk.State) { s.P.Status = 7 },
		"status 11":           func(s *blk.State) { s.P.Status = 11 },
		"status 79":           func(s *blk.State) { s.P.Status = 79 },
		"not Ready":           func(s *blk.State) { s.P.Q[0].Ready = false },
		"no bell, not Ready":  func(s *blk.State) { s.P.Q[0].Ready, s.Bell = false, false },
		"no bell, not Live":   func(s *blk.State) { s.P.Status, s.Bell = 11, false },
		"not Ready, not Live": func(s *blk.State) { s.P.Q[0].Ready, s.P.Status = false, 79 },
	} {
		t.Run(name, func(t *testing.T) {
			for _, kind := range []uint32{0, 4} {
				for _, in := range [][]blk.Req{nil, waiting().In} {
					x := newBench(t, 8)
					x.ask(kind, 3, to(dataAt, 513)...)
					x.s.In, x.s.Next = in, 9
					change(&x.s)
					x.poll(nothing)
				}
			}
		})
	}
	for _, s := range []blk.State{{}, waiting(), many(8), {P: live(), Bell: true}, {P: oddP(), Bell: true}} {
		if got, l := blk.Poll(s, nil); told(got) != told(s) || len(l) > 0 {
			t.Errorf("without memory: %+v, %v, not %+v", got, l, s)
		} else {
			was := told(s)
			if spoil(got); told(s) != was {
				t.Errorf("without memory: what is answered was handed in")
			}
		}
	}
}

// BK2: of bits of the status that are not asked for, and of the queue 1, nothing hangs.
func TestPollSomething(t *testing.T) {
	for _, status := range []uint32{12, 13, 15, 140, 143} {
		x := newBench(t, 8)
		x.s.P.Status, x.s.P.Q[1] = status, virtio.Queue{}
		head := x.ask(4, 0, to(dataAt, 1)...)
		x.answered(0, head, dataAt, 0)
		x.poll(gave(1))
	}
}

// BK2: if no chain is there, the bell has rung no more.
func TestPollNone(t *testing.T) {
	x := newBench(t, 8)
	x.poll(silent)
	x = newBench(t, 8)
	x.s.In, x.s.Next = waiting().In, 9
	x.poll(silent)
}

// BK2: chains are taken in order, till 8 are In; the bell stays then, also if there is none more.
func TestPollEight(t *testing.T) {
	for was := range 9 {
		for n := range 12 {
			x := newBench(t, 8)
			x.s.In, x.s.Next = many(was).In, 20
			var in []blk.Req
			var asks []blk.Ask
			for i := range n {
				l := to(dataAt+uint32(600*i), 513)
				head := x.ask(0, uint64(50+i), l...)
				if was+i < 8 {
					in = append(in, blk.Req{ID: uint32(20 + i), Head: head, Sector: uint32(50 + i), N: 512, L: l})
					asks = append(asks, blk.Ask{ID: uint32(20 + i), Sector: uint32(50 + i), N: 512})
				}
			}
			x.poll(func(s *blk.State) {
				entered(20+uint32(len(in)), in...)(s)
				s.Bell = was+n >= 8
			}, asks...)
			x.poll(nothing)
		}
	}
}

// BK2: chains that are answered at once count for nothing among the 8, behind which none is taken.
func TestPollMixed(t *testing.T) {
	x := newBench(t, 8)
	x.s.In, x.s.Next = many(6).In, 20
	h0 := x.ask(4, 0, to(dataAt, 1)...)
	h1 := x.ask(0, 1, to(dataAt+1024, 513)...)
	h2 := x.ask(9, 0, to(dataAt+1, 1)...)
	h3 := x.ask(0, 100, to(dataAt+2048, 513)...)
	h4 := x.ask(0, 2, to(dataAt+3072, 1025)...)
	h5 := x.ask(4, 0, to(dataAt+2, 1)...)
	x.answered(0, h0, dataAt, 0)
	x.answered(1, h2, dataAt+1, 2)
	x.answered(2, h3, dataAt+2048+512, 1)
	x.poll(func(s *blk.State) {
		s.Next = 22
		s.In = append(s.In, blk.Req{ID: 20, Head: h1, Sector: 1, N: 512, L: to(dataAt+1024, 513)}, blk.Req{ID: 21, Head: h4, Sector: 2, N: 1024, L: to(dataAt+3072, 1025)})
		s.P.Irq |= 1
		s.P.Q[0].R.Last, s.P.Q[0].R.Put = 5, 3
	}, blk.Ask{ID: 20, Sector: 1, N: 512}, blk.Ask{ID: 21, Sector: 2, N: 1024})
	// One is answered: the last chain is taken, and the bell is silent.
	x.s.In = x.s.In[1:]
	x.answered(3, h5, dataAt+2, 0)
	x.poll(gave(1))
}

// BK2: more chains than 8 are answered at once in one call, as many as the ring has, over its end, too.
func TestPollMany(t *testing.T) {
	for _, last := range []uint16{0, 60, 65500, 65535} {
		for _, n := range []uint16{1, 8, 9, 63, 64} {
			x := newBench(t, 8)
			r := &x.s.P.Q[0].R
			r.Last, r.Put, x.offered = last, last+5, last
			h := x.ask(4, 0, to(dataAt, 1)...)
			for i := range n {
				x.lay(r.Avail+4+2*uint32((last+i)%64), little(uint64(h), 2))
			}
			x.lay(r.Avail+2, little(uint64(last+n), 2))
			for i := range n {
				x.answered(last+5+i, h, dataAt, 0)
			}
			x.poll(gave(n))
		}
	}
}

// BK2: an error of ring.Next: P fails, and the ring is as it was, also behind chains that were taken.
func TestPollNoNext(t *testing.T) {
	for name, spoilIt := range map[string]func(*bench){
		"too many":     func(x *bench) { x.lay(x.s.P.Q[0].R.Avail+2, little(66, 2)) },
		"no such head": func(x *bench) { x.lay(x.s.P.Q[0].R.Avail+4, little(64, 2)) },
		"no memory":    func(x *bench) { x.s.P.Q[0].R.Avail = base + 8*page },
		"no ring":      func(x *bench) { x.s.P.Q[0].R.Size = 3 },
	} {
		t.Run(name, func(t *testing.T) {
			x := newBench(t, 8)
			x.ask(0, 3, to(dataAt, 513)...)
			spoilIt(x)
			x.poll(fails)
			x.poll(nothing)
		})
	}
	x := newBench(t, 8)
	h0 := x.ask(0, 3, to(dataAt, 513)...)
	h1 := x.ask(4, 3, to(dataAt+600, 1)...)
	x.ask(4, 3, to(dataAt+601, 1)...)
	x.lay(x.s.P.Q[0].R.Avail+8, little(64, 2))
	x.answered(0, h1, dataAt+600, 0)
	x.poll(func(s *blk.State) {
		entered(8, blk.Req{ID: 7, Head: h0, Sector: 3, N: 512, L: to(dataAt, 513)})(s)
		s.Bell = true
		s.P.Irq |= 1
		s.P.Q[0].R.Last, s.P.Q[0].R.Put = 2, 1
		fails(s)
	}, blk.Ask{ID: 7, Sector: 3, N: 512})
}

// refused fails the test, if a chain is not one at which P fails, at first, and behind others.
func refused(t *testing.T, name string, offer func(*bench)) {
	t.Helper()
	t.Run(name, func(t *testing.T) {
		x := newBench(t, 8)
		offer(x)
		x.ask(4, 0, to(dataAt, 1)...)
		x.poll(fails)
		x.poll(nothing)

		x = newBench(t, 8)
		h0 := x.ask(4, 0, to(dataAt+page, 1)...)
		h1 := x.ask(0, 3, to(dataAt+page+1, 513)...)
		offer(x)
		x.answered(0, h0, dataAt+page, 0)
		x.poll(func(s *blk.State) {
			entered(8, blk.Req{ID: 7, Head: h1, Sector: 3, N: 512, L: to(dataAt+page+1, 513)})(s)
			s.Bell = true
			s.P.Irq |= 1
			s.P.Q[0].R.Last, s.P.Q[0].R.Put = 2, 1
			fails(s)
		}, blk.Ask{ID: 7, Sector: 3, N: 512})
	})
}

// BK2: an error of ring.Walk.
func TestPollNoWalk(t *testing.T) {
	for _, kind := range []uint32{0, 1, 4, 9} {
		refused(t, fmt.Sprint("beyond memory, of kind ", kind), func(x *bench) { x.ask(kind, 0, to(base+8*page-512, 513)...) })
		refused(t, fmt.Sprint("below memory, of kind ", kind), func(x *bench) { x.ask(kind, 0, to(base-1, 513)...) })
		refused(t, fmt.Sprint("read behind what is written, of kind ", kind), func(x *bench) {
			x.offer(to(dataAt, 513)[0], from(x.head(kind, 0), 16))
		})
		refused(t, fmt.Sprint("round and round, of kind ", kind), func(x *bench) {
			h := x.ask(kind, 0, to(dataAt, 512, 1)...)
			x.lay(base+uint32(16*(h+2))+12, slices.Concat(little(3, 2), little(uint64(h+1), 2)))
		})
	}
}

// BK2: fewer than 16 bytes are read, or none is written, of each kind, in any parts.
func TestPollTooFew(t *testing.T) {
	for _, kind := range []uint32{0, 1, 2, 4, math.MaxUint32} {
		for _, n := range []int{0, 1, 4, 8, 15} {
			refused(t, fmt.Sprint(n, " bytes are read of kind ", kind), func(x *bench) {
				x.offer(append([]ring.Seg{from(x.head(kind, 0), n)}, to(dataAt, 513)...)...)
			})
			refused(t, fmt.Sprint(n, " bytes are read in two parts of kind ", kind), func(x *bench) {
				at := x.head(kind, 0)
				x.offer(from(at, n/2), from(at, 0), from(at, n-n/2), to(dataAt, 513)[0])
			})
		}
		refused(t, fmt.Sprint("nothing is read of kind ", kind), func(x *bench) { x.offer(to(dataAt, 513)...) })
		for _, n := range []int{16, 17, 528} {
			refused(t, fmt.Sprint("nothing is written of kind ", kind), func(x *bench) { x.offer(from(x.head(kind, 0), n)) })
			refused(t, fmt.Sprint("no bytes are written of kind ", kind), func(x *bench) {
				x.offer(append([]ring.Seg{from(x.head(kind, 0), n)}, to(dataAt, 0, 0)...)...)
			})
		}
	}
}

// BK2: of the kind 0 just 16 bytes are read, and one more than a multiple of 512, that is not 0, is written.
func TestPollReadSizes(t *testing.T) {
	for _, sector := range []uint64{3, 100, math.MaxUint64} {
		for _, n := range []int{1, 2, 511, 512, 514, 1023, 1024, 1026, 1536} {
			refused(t, fmt.Sprint(n, " bytes are written, at ", sector), func(x *bench) { x.ask(0, sector, to(dataAt, n)...) })
		}
		for _, n := range []int{17, 18, 32, 512, 528, 1040} {
			refused(t, fmt.Sprint(n, " bytes are read, at ", sector), func(x *bench) {
				x.offer(append([]ring.Seg{from(x.head(0, sector), n)}, to(dataAt, 513)...)...)
			})
		}
	}
	for _, n := range []int{512, 1024, 1536, 4096} {
		x := newBench(t, 8)
		l := to(dataAt, n+1)
		head := x.ask(0, 5, l...)
		x.poll(entered(8, blk.Req{ID: 7, Head: head, Sector: 5, N: n, L: l}), blk.Ask{ID: 7, Sector: 5, N: n})
	}
}

// BK2: of the kind 1 what is read is 16 more than a multiple of 512 that is not 0; of what is written anything will do.
func TestPollWriteSizes(t *testing.T) {
	for _, sector := range []uint64{3, 100, math.MaxUint64} {
		for _, n := range []int{0, 1, 2, 15, 16, 496, 511, 513, 528, 1023, 1025} {
			refused(t, fmt.Sprint(n, " bytes of data, at ", sector), func(x *bench) {
				x.offer(append([]ring.Seg{from(x.head(1, sector), 16), from(dataAt, n)}, to(dataAt+page, 1)...)...)
			})
		}
	}
	for _, n := range []int{512, 1024, 1536, 4096} {
		for _, room := range []int{1, 2, 511, 512, 513, 1025} {
			x := newBench(t, 8)
			l := to(dataAt+2*page, room)
			head := x.ask(1, 5, append([]ring.Seg{from(dataAt, n)}, l...)...)
			data := row(8 * page)[3*page:][:n]
			x.poll(entered(8, blk.Req{ID: 7, Head: head, Write: true, Sector: 5, N: n, L: l}), blk.Ask{ID: 7, Write: true, Sector: 5, N: n, Data: data})
		}
	}
}

// BK2: the greatest chains that there are.
func TestPollGreatest(t *testing.T) {
	x := newBench(t, 300)
	x.s.Sectors = 2047
	n := most - 1024
	h0 := x.ask(0, 0, to(dataAt, n+1)...)
	h1 := x.ask(1, 0, from(dataAt, n), to(dataAt+uint32(n), most-16-n)[0])
	x.poll(entered(9, blk.Req{ID: 7, Head: h0, N: n, L: to(dataAt, n+1)}, blk.Req{ID: 8, Head: h1, Write: true, N: n, L: to(dataAt+uint32(n), most-16-n)}),
		blk.Ask{ID: 7, N: n}, blk.Ask{ID: 8, Write: true, N: n, Data: row(300 * page)[3*page:][:n]})
	x = newBench(t, 300)
	x.s.Sectors = 4096
	x.ask(0, 0, to(dataAt, most-16+1)...)
	x.poll(fails)
}

// BK2: a head, data and room in parts of all sizes, over the borders of pages, and of no bytes; L has all parts that are
// written.
func TestPollParts(t *testing.T) {
	for cut := range 17 {
		x := newBench(t, 8)
		at := x.head(0, 0x0d)
		l := slices.Concat(to(dataAt+page-7, 0, 9), to(0, 0), to(base+7*page, 500, 4, 0))
		head := x.offer(slices.Concat([]ring.Seg{from(at, cut), from(0, 0), from(at+uint32(cut), 16-cut)}, l)...)
		x.poll(entered(8, blk.Req{ID: 7, Head: head, Sector: 13, N: 512, L: l}), blk.Ask{ID: 7, Sector: 13, N: 512})

		// Of a Write the head's last bytes, and the first ones of the data, stand in one part.
		x = newBench(t, 8)
		first, second := dataAt+page-uint32(cut), uint32(base+6*page-100)
		b := slices.Concat(little(1, 4), little(9, 4), little(77, 8), bytes.Repeat([]byte{0xee}, 300))
		x.lay(first, b[:cut])
		x.lay(second, b[cut:])
		l = slices.Concat(to(math.MaxUint32, 0), to(base+7*page, 1, 0, 2))
		head = x.offer(slices.Concat([]ring.Seg{from(first, cut), from(second, 316-cut), from(math.MaxUint32, 0), from(base+8*page-212, 212)}, l)...)
		data := slices.Concat(b[16:], row(8 * page)[8*page-212:])
		x.poll(entered(8, blk.Req{ID: 7, Head: head, Write: true, Sector: 77, N: 512, L: l}), blk.Ask{ID: 7, Write: true, Sector: 77, N: 512, Data: data})
	}
	// Byte by byte.
	x := newBench(t, 8)
	at := x.head(0, 0x0102030405060708>>56)
	var parts []ring.Seg
	for i := range 16 {
		parts = append(parts, from(at+uint32(i), 1))
	}
	head := x.offer(slices.Concat(parts, to(dataAt, 513))...)
	x.poll(entered(8, blk.Req{ID: 7, Head: head, Sector: 1, N: 512, L: to(dataAt, 513)}), blk.Ask{ID: 7, Sector: 1, N: 512})
}

// BK2: the sectors lie within Sectors; else the status is 1, at once.
func TestPollSectors(t *testing.T) {
	for _, sectors := range []uint32{0, 1, 2, 3, 100, 1 << 20, 1 << 31, math.MaxUint32} {
		top := uint64(sectors)
		for _, sector := range []uint64{0, 1, 2, top - 4, top - 3, top - 2, top - 1, top, top + 1, 1 << 31, math.MaxUint32, 1 << 32, 1<<32 + 1, 1<<32 + 50, 1 << 40, 1 << 63, math.MaxUint64 - 2, math.MaxUint64 - 1, math.MaxUint64} {
			for n := 1; n <= 3; n++ {
				fits := true
				for i := range uint64(n) {
					fits = fits && sector < top && sector+i < top
				}
				for kind := range uint32(2) {
					x := newBench(t, 8)
					x.s.Sectors = sectors
					l := to(dataAt, 512*n+1)
					parts, data := l, []byte(nil)
					if kind == 1 {
						parts, data = append([]ring.Seg{from(base+6*page, 512*n)}, l...), row(8 * page)[6*page:][:512*n]
					}
					head := x.ask(kind, sector, parts...)
					if fits {
						x.poll(entered(8, blk.Req{ID: 7, Head: head, Write: kind == 1, Sector: uint32(sector), N: 512 * n, L: l}), blk.Ask{ID: 7, Write: kind == 1, Sector: uint32(sector), N: 512 * n, Data: data})
					} else {
						x.answered(0, head, dataAt+uint32(512*n), 1)
						x.poll(gave(1))
					}
				}
			}
		}
	}
}

// BK2: the kind 4 is right, and any other kind not known, at once, whatever is read and written, and whatever the sector.
func TestPollKinds(t *testing.T) {
	for _, kind := range []uint32{2, 3, 4, 5, 6, 7, 8, 255, 256, 257, 260, 1 << 16, 1<<16 + 1, 1 << 24, 1<<24 + 4, 1 << 31, math.MaxUint32} {
		status := byte(2)
		if kind == 4 {
			status = 0
		}
		for _, sector := range []uint64{0, 100, math.MaxUint64} {
			for _, read := range []int{16, 17, 528} {
				for _, written := range []int{1, 2, 512, 513, 1025} {
					x := newBench(t, 8)
					head := x.offer(from(x.head(kind, sector), read), to(dataAt, written)[0])
					x.answered(0, head, dataAt+uint32(written)-1, status)
					x.poll(gave(1))
				}
			}
		}
	}
}

// BK2: the ID is Next, which is one more then; behind 2^32 - 1 comes 0, and those that are In are passed over.
func TestPollIDs(t *testing.T) {
	for _, c := range []struct {
		next uint32
		in   []uint32
		ids  []uint32
		then uint32
	}{
		{0, nil, []uint32{0}, 1},
		{0, nil, []uint32{0, 1, 2}, 3},
		{math.MaxUint32, nil, []uint32{math.MaxUint32}, 0},
		{math.MaxUint32 - 1, nil, []uint32{math.MaxUint32 - 1, math.MaxUint32, 0, 1}, 2},
		{5, []uint32{6}, []uint32{5}, 7},
		{5, []uint32{6}, []uint32{5, 7}, 8},
		{5, []uint32{7, 6}, []uint32{5, 8}, 9},
		{5, []uint32{6, 8, 9, 11}, []uint32{5, 7, 10, 12}, 13},
		{math.MaxUint32, []uint32{0, 1, 2}, []uint32{math.MaxUint32, 3}, 4},
		{math.MaxUint32 - 1, []uint32{math.MaxUint32, 0, 1, 2, 3, 4, 5}, []uint32{math.MaxUint32 - 1}, 6},
		{5, []uint32{4, 3, 2}, []uint32{5, 6}, 7},
		{5, []uint32{12, 11, 10, 9, 8, 7, 6}, []uint32{5}, 13},
	} {
		for _, write := range []bool{false, true} {
			x := newBench(t, 8)
			x.s.In, x.s.Next = many(len(c.in)).In, c.next
			for i, id := range c.in {
				x.s.In[i].ID = id
			}
			var in []blk.Req
			var asks []blk.Ask
			for i, id := range c.ids {
				l := to(dataAt+uint32(600*i), 513)
				r := blk.Req{ID: id, Write: write, Sector: uint32(i), N: 512, L: l}
				a := blk.Ask{ID: id, Write: write, Sector: uint32(i), N: 512}
				if write {
					r.Head = x.ask(1, uint64(i), append([]ring.Seg{from(base+7*page, 512)}, l...)...)
					a.Data = row(8 * page)[7*page:][:512]
				} else {
					r.Head = x.ask(0, uint64(i), l...)
				}
				in, asks = append(in, r), append(asks, a)
			}
			x.poll(func(s *blk.State) {
				entered(c.then, in...)(s)
				s.Bell = len(s.In) >= 8
			}, asks...)
		}
	}
}

// BK2: chains that are answered at once take no ID.
func TestPollNoID(t *testing.T) {
	x := newBench(t, 8)
	var heads []int
	for i, kind := range []uint32{4, 9, 0} {
		heads = append(heads, x.ask(kind, 100, to(dataAt+uint32(i), 513)...))
	}
	for i, status := range []byte{0, 2, 1} {
		x.answered(uint16(i), heads[i], dataAt+uint32(i)+512, status)
	}
	x.poll(gave(3))
}

// BK2: the Data of each Write is its own, and what stood in memory then.
func TestPollData(t *testing.T) {
	x := newBench(t, 8)
	var in []blk.Req
	var asks []blk.Ask
	for i := range 4 {
		l := to(base+7*page+uint32(i), 1)
		data := bytes.Repeat([]byte{byte(i + 1)}, 512*(i+1))
		x.lay(dataAt+uint32(2048*i), data)
		head := x.ask(1, uint64(i), from(dataAt+uint32(2048*i), len(data)), l[0])
		in = append(in, blk.Req{ID: uint32(7 + i), Head: head, Write: true, Sector: uint32(i), N: len(data), L: l})
		asks = append(asks, blk.Ask{ID: uint32(7 + i), Write: true, Sector: uint32(i), N: len(data), Data: data})
	}
	s, l := blk.Poll(x.s, x.m)
	for i := range l { // what is written to one shows in no other one, nor in memory
		for _, b := range l[i].Data[:cap(l[i].Data)] {
			if b != byte(i+1) && b != 0 {
				t.Errorf("the data of %d: %d", i, b)
			}
		}
		clear(l[i].Data[:cap(l[i].Data)])
	}
	if told(s.In) != told(in) {
		t.Errorf("%+v, not %+v", s.In, in)
	}
	x.memory()
	x.poll(entered(11, in...), asks...)
}

// BK3: the status stands in the last byte that is written, whatever parts of no bytes stand behind it.
func TestAnswerAtOnce(t *testing.T) {
	for _, c := range []struct {
		l  []ring.Seg
		at uint32
	}{
		{to(dataAt, 1), dataAt},
		{to(dataAt, 2), dataAt + 1},
		{to(dataAt, 513), dataAt + 512},
		{to(dataAt, 512, 1), dataAt + 512},
		{to(dataAt, 1, 512), dataAt + 512},
		{to(dataAt, 0, 1, 0, 0), dataAt},
		{slices.Concat(to(dataAt, 5), to(dataAt+100, 0)), dataAt + 4},
		{slices.Concat(to(dataAt+100, 5), to(dataAt, 5)), dataAt + 4},
		{slices.Concat(to(dataAt, 5), to(0, 0), to(math.MaxUint32, 0)), dataAt + 4},
		{to(dataAt-5, 10), dataAt + 4},
		{to(dataAt+page-1, 1), dataAt + page - 1},
		{to(dataAt+page-1, 2), dataAt + page},
		{to(base+8*page-1, 1), base + 8*page - 1},
		{to(base, 8*page), base + 8*page - 1},
	} {
		for kind, status := range map[uint32]byte{4: 0, 7: 2} {
			x := newBench(t, 8)
			head := x.ask(kind, 0, c.l...)
			x.answered(0, head, c.at, status)
			x.poll(gave(1))
		}
	}
}

// BK3: P tells what was given back by the bit 1, beside what it told ahead.
func TestAnswerIrq(t *testing.T) {
	for irq := range uint32(4) {
		x := newBench(t, 8)
		x.s.P.Irq = irq
		head := x.ask(4, 0, to(dataAt, 1)...)
		x.answered(0, head, dataAt, 0)
		x.poll(func(s *blk.State) {
			gave(1)(s)
			s.P.Irq = irq | 1
		})
		// What is In is told by nothing.
		x = newBench(t, 8)
		x.s.P.Irq = irq
		head = x.ask(0, 0, to(dataAt, 513)...)
		x.poll(entered(8, blk.Req{ID: 7, Head: head, N: 512, L: to(dataAt, 513)}), blk.Ask{ID: 7, N: 512})
	}
}

// BK3: a chain that can't be given back: P fails; the chain was taken, and those behind it are, too.
func TestAnswerNoMemory(t *testing.T) {
	for _, used := range []uint32{base + 8*page, 0, base + 8*page - 4, base - 64, math.MaxUint32 - 3} {
		x := newBench(t, 8)
		x.s.P.Q[0].R.Used = used
		x.ask(4, 0, to(dataAt, 1)...)
		must(t, x.want.Write(dataAt-base, []byte{0}))
		x.poll(func(s *blk.State) {
			s.Bell = false
			s.P.Q[0].R.Last = 1
			fails(s)
		})
	}
	x := newBench(t, 8)
	x.s.P.Q[0].R.Used = 0
	x.ask(9, 0, to(dataAt, 1)...)
	head := x.ask(0, 3, to(dataAt+600, 513)...)
	x.ask(0, 100, to(dataAt+1200, 513)...)
	must(t, x.want.Write(dataAt-base, []byte{2}))
	must(t, x.want.Write(dataAt-base+1712, []byte{1}))
	x.poll(func(s *blk.State) {
		entered(8, blk.Req{ID: 7, Head: head, Sector: 3, N: 512, L: to(dataAt+600, 513)})(s)
		s.P.Q[0].R.Last = 3
		fails(s)
	}, blk.Ask{ID: 7, Sector: 3, N: 512})
}

// BK5: a Poll ends, also where its answers are written over the count of what is offered, so that there is always one
// more; the bell stays.
func TestPollEnds(t *testing.T) {
	x := newBench(t, 8)
	r := &x.s.P.Q[0].R
	r.Size, r.Used, r.Put = 2, r.Avail, 1
	x.ask(4, 0, to(dataAt, 1)...)
	x.lay(r.Avail+4, little(0, 4))
	s, l := blk.Poll(x.s, x.m)
	if len(l) > 0 || !s.Bell || len(s.In) > 0 || s.P.Status != 15 || s.P.Q[0].R.Put-s.P.Q[0].R.Last != 1 {
		t.Errorf("%+v, %v", s, l)
	}
	checks(t, "what was polled", s, 8, true)
	// As soon as the driver takes its chain away, there is none more.
	must(t, x.m.Store(r.Avail+2-base, 2, uint32(s.P.Q[0].R.Last)))
	if s, _ = blk.Poll(s, x.m); s.Bell || s.P.Status != 15 {
		t.Errorf("%+v", s)
	}
}

// Poll of states that may not be ends, and makes no request too many.
func TestPollOddStates(t *testing.T) {
	for i, change := range []func(*blk.State){
		func(s *blk.State) { s.In = many(9).In },
		func(s *blk.State) { s.In = many(30).In },
		func(s *blk.State) { s.In = slices.Repeat(many(1).In, 8) },
	} {
		x := newBench(t, 8)
		x.ask(0, 3, to(dataAt, 513)...)
		change(&x.s)
		t.Run(fmt.Sprint(i), func(*testing.T) { x.poll(nothing) })
	}
	for _, p := range []virtio.State{oddP(), {Status: 12}, {Status: 12, Q: [2]virtio.Queue{{Ready: true}}}, {Status: math.MaxUint32 &^ 64, Q: [2]virtio.Queue{{Ready: true, R: ring.Ring{Size: -4}}}}} {
		x := newBench(t, 8)
		x.ask(0, 3, to(dataAt, 513)...)
		x.s.P = p
		if s, l := blk.Poll(x.s, x.m); len(s.In) > 1 || len(l) > 1 {
			t.Errorf("%+v: %+v, %v", p, s, l)
		}
	}
}
