package blk_test

import (
	"bytes"
	"fmt"
	"math"
	"slices"
	"testing"

	"pinnace/api"
	"pinnace/blk"
	"pinnace/mem"
	"pinnace/ring"
)

// finish lets the disk answer, and fails the test, if that does not make just that state, or what was handed in is changed.
func (x *bench) finish(id uint32, ok bool, data []byte, change func(*blk.State)) {
	x.t.Helper()
	want, was, wasData := with(x.s, change), told(x.s), slices.Clone(data[:cap(data)])
	got, err := blk.Finish(x.s, x.m, id, ok, data)
	if err != nil || told(got) != told(want) {
		x.t.Fatalf("Finish of %d, %v, %d bytes, of %s: %+v, %v; not %+v", id, ok, len(data), was, got, err, want)
	}
	if blk.Check(x.s, x.m.Pages()) == nil {
		checks(x.t, "what was answered", got, x.m.Pages(), true)
	}
	kept := copyOf(got)
	spoil(got)
	if told(x.s) != was || !bytes.Equal(data[:cap(data)], wasData) {
		x.t.Fatalf("Finish changed what was handed in: %+v, not %s", x.s, was)
	}
	x.s = kept
	x.memory()
}

// refuses fails the test, if Finish does not answer an error alone, and leaves all as it is.
func (x *bench) refuses(m *mem.Ram, id uint32, ok bool, data []byte, want api.Errno) {
	x.t.Helper()
	was := told(x.s)
	got, err := blk.Finish(x.s, m, id, ok, data)
	if told(got) != told(blk.State{}) || errno(err) != want {
		x.t.Errorf("Finish of %d, %v, %d bytes: %+v, %v; not error %d", id, ok, len(data), got, err, want)
	}
	if told(x.s) != was {
		x.t.Errorf("Finish changed what was handed in: %+v, not %s", x.s, was)
	}
	x.memory()
}

// waitingBench is a bench in whose state a read (ID 5) and a Write (ID 8) wait.
func waitingBench(t *testing.T) *bench {
	t.Helper()
	x := newBench(t, 8)
	s := waiting()
	s.P = x.s.P
	x.s = s
	return x
}

// over is the change of a request that is answered, and not In any more.
func over(at int) func(*blk.State) {
	return func(s *blk.State) {
		s.In = slices.Delete(s.In, at, at+1)
		s.P.Irq |= 1
		s.P.Q[0].R.Put++
	}
}

// lost is the change of a request that could not be answered.
func lost(at int) func(*blk.State) {
	return func(s *blk.State) {
		s.In = slices.Delete(s.In, at, at+1)
		fails(s)
	}
}

// BK4: without memory it is ErrArg, whatever else is wrong.
func TestFinishNoMemory(t *testing.T) {
	x := waitingBench(t)
	for _, id := range []uint32{5, 8, 9, 0, math.MaxUint32} {
		for _, n := range []int{0, 1, 1023, 1024, 1025} {
			x.refuses(nil, id, true, row(n), api.ErrArg)
			x.refuses(nil, id, false, row(n), api.ErrArg)
		}
	}
	x.s = blk.State{P: oddP()}
	x.refuses(nil, 0, true, nil, api.ErrArg)
}

// BK4: no request of an ID is In: ErrNone, also where data is too long.
func TestFinishNone(t *testing.T) {
	x := waitingBench(t)
	for _, id := range []uint32{0, 1, 3, 4, 6, 7, 9, 10, 255, 1<<16 + 5, 1 << 31, 1<<31 + 8, math.MaxUint32} {
		for _, n := range []int{0, 1, 512, 1023, 1024, 1025} {
			x.refuses(x.m, id, true, row(n), api.ErrNone)
			x.refuses(x.m, id, false, row(n), api.ErrNone)
		}
	}
	x.s.In = nil
	x.refuses(x.m, 5, true, row(1024), api.ErrNone)
	x.s = blk.State{}
	x.refuses(x.m, 0, true, nil, api.ErrNone)
	x.refuses(x.m, 0, false, nil, api.ErrNone)
}

// BK4: of what is ok data has just N bytes, and of a Write none.
func TestFinishLong(t *testing.T) {
	x := waitingBench(t)
	for _, n := range []int{0, 1, 511, 512, 513, 1000, 1022, 1023, 1025, 1026, 2048, most} {
		x.refuses(x.m, 5, true, row(n), api.ErrLong)
	}
	for _, n := range []int{1, 2, 511, 512, 513, 1024} {
		x.refuses(x.m, 8, true, row(n), api.ErrLong)
	}
}

// BK4, BK3: a read that is right: the data, from the first byte on, and 0 behind it; N + 1 bytes were written.
func TestFinishRead(t *testing.T) {
	x := waitingBench(t)
	must(t, x.want.Write(2*page, append(row(1024), 0)))
	x.given(0, 3, 1025)
	x.finish(5, true, row(2000)[:1024], over(0)) // what stands behind the data is not touched
	x.refuses(x.m, 5, true, row(1024), api.ErrNone)
	x.refuses(x.m, 5, false, nil, api.ErrNone)
}

// BK4, BK3: a read that is not right: the status 1 alone, in the last byte, whatever data there is; the rest stays.
func TestFinishReadNotDone(t *testing.T) {
	for _, n := range []int{0, 1, 512, 1023, 1024, 1025, 5000} {
		x := waitingBench(t)
		x.answered(0, 3, base+2*page+1024, 1)
		x.finish(5, false, row(n), over(0))
		x.refuses(x.m, 5, true, row(1024), api.ErrNone)
	}
}

// BK4, BK3: a Write: the status alone, in the last byte; 1 byte was written.
func TestFinishWrite(t *testing.T) {
	for _, room := range []int{1, 2, 512, 513, 600} {
		x := waitingBench(t)
		x.s.In[1].Head, x.s.In[1].L = 63, to(base+4*page, room)
		x.answered(0, 63, base+4*page+uint32(room)-1, 0)
		x.finish(8, true, nil, over(1))
		x.refuses(x.m, 8, true, nil, api.ErrNone)

		for _, n := range []int{0, 1, 512, 513} {
			x = waitingBench(t)
			x.s.In[1].Head, x.s.In[1].L = 63, to(base+4*page, room)
			x.answered(0, 63, base+4*page+uint32(room)-1, 1)
			x.finish(8, false, row(n), over(1))
		}
	}
}

// BK3: an answer in parts of all sizes, over the borders of pages, and of no bytes.
func TestFinishParts(t *testing.T) {
	for _, l := range [][]ring.Seg{
		to(dataAt, 513),
		to(dataAt, 512, 1),
		to(dataAt, 1, 512),
		to(dataAt, 0, 100, 0, 412, 0, 1, 0),
		to(dataAt+page-3, 513),
		to(dataAt+page-512, 512, 1),
		slices.Concat(to(base+7*page, 100), to(dataAt, 412), to(base+6*page, 1)),
		slices.Concat(to(0, 0), to(dataAt, 513), to(math.MaxUint32, 0), to(base+8*page, 0)),
		slices.Concat(to(dataAt, 200), to(dataAt+100, 313)), // one over the other
		slices.Concat(to(dataAt, 512), to(dataAt, 1)),       // the status over the first byte
		to(base+8*page-513, 513),
		slices.Concat(slices.Repeat(to(dataAt, 2), 255), to(dataAt, 3)), // so many as there may be
	} {
		for _, ok := range []bool{true, false} {
			x := newBench(t, 8)
			x.s.In = []blk.Req{{ID: 1, Head: 7, Sector: 2, N: 512, L: l}}
			checks(t, "the parts", x.s, 8, true)
			b := append(row(512), 0)
			for _, p := range l {
				if ok {
					must(t, x.want.Write(p.At-base, b[:p.N]))
					b = b[p.N:]
				}
			}
			if ok {
				x.given(0, 7, 513)
			} else {
				last := ring.Seg{}
				for _, p := range l {
					if p.N > 0 {
						last = p
					}
				}
				x.answered(0, 7, last.At+uint32(last.N)-1, 1)
			}
			x.finish(1, ok, row(512), over(0))
		}
	}
}

// BK4: of 8 each one is answered, in any order; the others stay as they are, and in their order, and so do the bell, Next
// and what was taken.
func TestFinishOrder(t *testing.T) {
	for _, bell := range []bool{true, false} {
		for step := 1; step < 8; step += 2 {
			x := newBench(t, 8)
			s := many(8)
			s.P, s.Bell = x.s.P, bell
			s.P.Q[0].R.Last, s.P.Q[0].R.Put, s.P.Irq = 8, 65533, 2
			x.s = s
			for i := range 8 {
				id := uint32(i * step % 8)
				at := slices.IndexFunc(x.s.In, func(r blk.Req) bool { return r.ID == id })
				must(t, x.want.Write(2*page+600*id, append(bytes.Repeat([]byte{byte(id + 50)}, 512), 0)))
				x.given(uint16(65533+i), int(id), 513)
				x.finish(id, true, bytes.Repeat([]byte{byte(id + 50)}, 512), over(at))
			}
			if len(x.s.In) > 0 || x.s.Bell != bell || x.s.Next != 8 || x.s.P.Irq != 3 || x.s.P.Q[0].R.Last != 8 || x.s.P.Q[0].R.Put != 5 {
				t.Errorf("%+v", x.s)
			}
		}
	}
}

// BK3: an answer whose memory is not there, or that can't be given back: P fails, and it is not In any more.
func TestFinishNoPlace(t *testing.T) {
	small, err := mem.New(2)
	must(t, err)
	for _, id := range []uint32{5, 8} {
		for _, ok := range []bool{true, false} {
			data := row(1024)
			if id == 8 {
				data = nil
			}
			at := int(id-5) / 3
			x := waitingBench(t)
			x.m, x.want = small.Clone(), small.Clone()
			x.finish(id, ok, data, lost(at))
			x.refuses(x.m, id, ok, data, api.ErrNone)
		}
	}
	// Of a read the first bytes are not there: nothing is written, though the last one is. Its status alone is.
	x := newBench(t, 8)
	x.s.In = []blk.Req{{ID: 1, Head: 7, N: 512, L: slices.Concat(to(base+8*page-100, 512), to(dataAt, 1))}}
	x.finish(1, true, row(512), lost(0))
	x.s.In = []blk.Req{{ID: 1, Head: 7, N: 512, L: slices.Concat(to(base+8*page-100, 512), to(dataAt, 1))}}
	x.answered(0, 7, dataAt, 1)
	x.finish(1, false, row(512), over(0))
	// A head that the ring has not: the status stands, and no more.
	for _, head := range []int{64, 255} {
		for _, ok := range []bool{true, false} {
			x := waitingBench(t)
			x.s.In[0].Head = head
			if ok {
				must(t, x.want.Write(2*page, append(row(1024), 0)))
			} else {
				must(t, x.want.Write(2*page+1024, []byte{1}))
			}
			x.finish(5, ok, row(1024), lost(0))
		}
	}
	// No place for what is given back, and no ring.
	for name, change := range map[string]func(*ring.Ring){
		"behind memory": func(r *ring.Ring) { r.Used = base + 8*page },
		"below memory":  func(r *ring.Ring) { r.Used = 0 },
		"no ring":       func(r *ring.Ring) { *r = ring.Ring{} },
		"an odd size":   func(r *ring.Ring) { r.Size = 3 },
	} {
		t.Run(name, func(t *testing.T) {
			x := waitingBench(t)
			change(&x.s.P.Q[0].R)
			must(t, x.want.Write(2*page, append(row(1024), 0)))
			x.finish(5, true, row(1024), lost(0))
		})
	}
}

// BK4: a request is answered, whatever P has become since, as long as it is In.
func TestFinishLate(t *testing.T) {
	for name, change := range map[string]func(*blk.State){
		"failed":    func(s *blk.State) { s.P.Status |= 64 },
		"gave up":   func(s *blk.State) { s.P.Status |= 128 },
		"not Ready": func(s *blk.State) { s.P.Q[0].Ready = false },
		"no bell":   func(s *blk.State) { s.Bell = false },
	} {
		t.Run(name, func(t *testing.T) {
			x := waitingBench(t)
			change(&x.s)
			x.answered(0, 3, base+2*page+1024, 1)
			x.finish(5, false, nil, over(0))
		})
	}
	// Not behind a reset.
	x := waitingBench(t)
	s, err := blk.Write(x.s, 0x70, 0)
	must(t, err)
	x.s = s
	x.refuses(x.m, 5, true, row(1024), api.ErrNone)
	x.refuses(x.m, 8, false, nil, api.ErrNone)
}

// BK2, BK3, BK4: what was taken is answered: what the disk had stands in memory, and all is given back.
func TestThere(t *testing.T) {
	x := newBench(t, 8)
	h0 := x.ask(0, 3, to(dataAt, 513)...)
	h1 := x.ask(1, 4, from(dataAt+1024, 512), to(dataAt+2048, 1)[0])
	b := row(8 * page)[3*page+1024:][:512]
	x.poll(entered(9, blk.Req{ID: 7, Head: h0, Sector: 3, N: 512, L: to(dataAt, 513)}, blk.Req{ID: 8, Head: h1, Write: true, Sector: 4, N: 512, L: to(dataAt+2048, 1)}),
		blk.Ask{ID: 7, Sector: 3, N: 512}, blk.Ask{ID: 8, Write: true, Sector: 4, N: 512, Data: b})
	x.answered(0, h1, dataAt+2048, 0)
	x.finish(8, true, nil, over(1))
	must(t, x.want.Write(3*page, append(b, 0)))
	x.given(1, h0, 513)
	x.finish(7, true, b, over(0))
	x.poll(nothing)
}

// Finish of states that may not be ends: by its rule, or P fails.
func TestFinishOddStates(t *testing.T) {
	for i, r := range []blk.Req{
		{ID: 1},
		{ID: 1, N: 512},
		{ID: 1, N: -512, L: to(dataAt, 513)},
		{ID: 1, N: math.MinInt, L: to(dataAt, 513)},
		{ID: 1, N: math.MaxInt, L: to(dataAt, 513)},
		{ID: 1, Head: -1, N: 512, L: to(dataAt, 513)},
		{ID: 1, Head: math.MaxInt, N: 512, L: to(dataAt, 513)},
		{ID: 1, N: 512, L: to(dataAt, 512)},
		{ID: 1, N: 512, L: to(dataAt, 0)},
		{ID: 1, N: 512, L: []ring.Seg{{At: dataAt, N: -513, Write: true}}},
		{ID: 1, N: 512, L: []ring.Seg{{At: dataAt, N: math.MinInt, Write: true}}},
		{ID: 1, N: 512, L: []ring.Seg{{At: dataAt, N: math.MaxInt, Write: true}}},
		{ID: 1, N: 512, L: []ring.Seg{{At: dataAt, N: 1<<32 + 1, Write: true}}},
		{ID: 1, N: 512, L: []ring.Seg{{At: 1<<32 - 1, N: 1<<31 + 2, Write: true}}},
		{ID: 1, N: 512, L: []ring.Seg{{At: dataAt, N: 513}}},
	} {
		for _, write := range []bool{false, true} {
			for _, n := range []int{0, 512} {
				for _, ok := range []bool{false, true} {
					x := newBench(t, 8)
					r.Write = write
					x.s.In = []blk.Req{r}
					s, err := blk.Finish(x.s, x.m, 1, ok, row(n))
					name := fmt.Sprint(i, write, n, ok)
					switch right := r.N; {
					case ok && (write && n > 0 || !write && n != right):
						if errno(err) != api.ErrLong || told(s) != told(blk.State{}) {
							t.Errorf("%s: %+v, %v", name, s, err)
						}
					case err != nil || len(s.In) > 0 || s.P.Irq == 0:
						t.Errorf("%s: %+v, %v", name, s, err)
					}
				}
			}
		}
	}
	// Where the last byte would stand is no place: nothing is written elsewhere.
	for _, p := range []ring.Seg{{At: dataAt, N: 1<<32 + 1, Write: true}, {At: 1<<32 - 1, N: 1<<31 + 2, Write: true}} {
		x := newBench(t, 8)
		x.s.In = []blk.Req{{ID: 1, Head: 7, N: 512, L: []ring.Seg{p}}}
		x.finish(1, false, nil, lost(0))
	}
	// Nor where the device only reads.
	x := newBench(t, 8)
	x.s.In = []blk.Req{{ID: 1, Head: 7, N: 512, L: []ring.Seg{from(dataAt, 513)}}}
	x.finish(1, false, nil, lost(0))
	x.s.In = []blk.Req{{ID: 1, Head: 7, N: 512, L: append(to(dataAt, 513), from(dataAt+600, 1))}}
	x.answered(0, 7, dataAt+512, 1)
	x.finish(1, false, nil, over(0))
}
