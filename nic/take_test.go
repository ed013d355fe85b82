package nic_test

import (
	"bytes"
	"fmt"
	"math"
	"slices"
	"testing"

	"pinnace/api"
	"pinnace/mem"
	"pinnace/nic"
	"pinnace/ring"
	"pinnace/virtio"
)

// head are the bytes ahead of a frame that comes, by hand.
var head = []byte{0, 0, 0, 0, 0, 0, 0, 0, 0, 0, 1, 0}

// take lets a frame come, and fails the test, if that does not make just that state and answer, or the frame is changed.
func (x *bench) take(frame []byte, is bool, change func(*nic.State)) {
	x.t.Helper()
	want, was := with(x.s, change), slices.Clone(frame[:cap(frame)])
	got, ok, err := nic.Take(x.s, x.m, frame)
	if got != want || ok != is || err != nil {
		x.t.Fatalf("Take of %d bytes by %+v: %+v, %v, %v; not %+v, %v", len(frame), x.s, got, ok, err, want, is)
	}
	if !bytes.Equal(frame[:cap(frame)], was) {
		x.t.Fatalf("Take changed the frame of %d bytes", len(frame))
	}
	if nic.Check(x.s) == nil {
		checks(x.t, "what took a frame", got, true)
	}
	x.s = got
	clear(frame[:cap(frame)]) // which is not kept, and not in memory
	x.memory()
}

// frame is a frame of so many bytes, with room behind it.
func frame(n int) []byte {
	return append(bytes.Repeat([]byte{1}, 7), row(n+9)...)[7 : 7+n]
}

// refuses fails the test, if Take does not answer an error alone, and leaves all as it is.
func (x *bench) refuses(m *mem.Ram, frame []byte, want api.Errno) {
	x.t.Helper()
	if got, is, err := nic.Take(x.s, m, frame); got != (nic.State{}) || is || errno(err) != want {
		x.t.Errorf("Take of %d bytes by %+v: %+v, %v, %v; not error %d", len(frame), x.s, got, is, err, want)
	}
	x.memory()
}

// loses is the change of one more frame that is lost.
func loses(s *nic.State) { s.Lost++ }

// took is the change of chains of the queue 0 that were taken and given back.
func took(n uint16) func(*nic.State) { return gave(0, n) }

// laid lays what bytes, one behind the other in the parts that are written, must make of memory.
func (x *bench) laid(l []ring.Seg, b []byte) {
	x.t.Helper()
	for _, p := range l {
		if p.Write {
			n := min(p.N, len(b))
			must(x.t, x.want.Write(p.At-base, b[:n]))
			b = b[n:]
		}
	}
	if len(b) > 0 {
		x.t.Fatalf("%d bytes have no room", len(b))
	}
}

// NC3: without memory it is ErrArg, also where the frame is none; nothing is lost by it.
func TestTakeNoMemory(t *testing.T) {
	for _, n := range []int{0, 1, 60, 1514, 1515, 1 << 20} {
		for _, s := range []nic.State{{}, {P: live(), Lost: 7}, {P: oddP()}} {
			x := newBench(t)
			x.offer(0, to(dataAt, 2000)...)
			x.s = s
			x.refuses(nil, make([]byte, n), api.ErrArg)
		}
	}
	newBench(t).refuses(nil, nil, api.ErrArg)
}

// NC3: what is no frame is ErrLong, whatever the state; nothing is lost by it.
func TestTakeLong(t *testing.T) {
	for _, s := range []nic.State{{}, {P: live(), Lost: 7}, {P: live(), Lost: math.MaxUint32}, {P: oddP()}, {P: virtio.State{Status: 15, Drv: [2]uint32{0, 1}}}} {
		x := newBench(t)
		x.offer(0, to(dataAt, 4000)...)
		x.s = s
		x.refuses(x.m, nil, api.ErrLong)
		for _, n := range []int{0, 1515, 1516, 1526, 1527, 2000, 4096, 1 << 16, 1<<16 + 1, 1 << 20} {
			x.refuses(x.m, make([]byte, n), api.ErrLong)
		}
	}
	// Nor is it one where the queue can't be walked.
	x := newBench(t)
	x.offer(0, to(0, 5)...)
	x.refuses(x.m, nil, api.ErrLong)
	x.refuses(x.m, make([]byte, 1515), api.ErrLong)
}

// NC3: of 0, 1, 1,514 and 1,515 bytes.
func TestTakeHowLong(t *testing.T) {
	for n, want := range map[int]api.Errno{0: api.ErrLong, 1: 0, 2: 0, 59: 0, 60: 0, 1513: 0, 1514: 0, 1515: api.ErrLong} {
		x := newBench(t)
		l := to(dataAt, 2000)
		h := x.offer(0, l...)
		if want != 0 {
			x.refuses(x.m, make([]byte, n), want)
			continue
		}
		f := frame(n)
		x.laid(l, slices.Concat(head, f))
		x.given(0, 0, h, 12+n)
		x.take(f, true, took(1))
	}
}

// NC3: P is not Live, or the queue 0 not Ready, or offers nothing: one more is Lost, modulo 2^32; all else stays.
func TestTakeNothing(t *testing.T) {
	reasons := idle(0)
	reasons["nothing is offered"] = func(s *nic.State) { s.P.Q[0].R.Last = 1 }
	for name, change := range reasons {
		t.Run(name, func(t *testing.T) {
			for _, lost := range []uint32{0, 5, 1 << 31, math.MaxUint32} {
				for _, n := range []int{1, 1514} {
					for _, bell := range []bool{false, true} {
						x := newBench(t)
						x.offer(0, to(dataAt, 2000)...)
						change(&x.s)
						x.s.Lost, x.s.Bell = lost, bell
						x.take(frame(n), false, func(s *nic.State) { s.Lost = lost + 1 })
						x.take(frame(n), false, func(s *nic.State) { s.Lost = lost + 2 })
					}
				}
			}
		})
	}
	// Nor does anything fail, where the queue is not looked at.
	for name, change := range idle(0) {
		t.Run(name, func(t *testing.T) {
			x := newBench(t)
			x.offer(0, to(0, 2000)...)
			change(&x.s)
			x.take(frame(5), false, loses)
		})
	}
}

// NC3: of bits of the status that are not asked for, of the bell, and of the queue 1, nothing hangs, nor do they change.
func TestTakeSomething(t *testing.T) {
	for _, status := range []uint32{12, 13, 15, 140, 143} {
		for _, q := range []virtio.Queue{{}, live().Q[1], {R: live().Q[1].R}} {
			for _, bell := range []bool{false, true} {
				x := newBench(t)
				x.s.P.Status, x.s.P.Q[1], x.s.Bell = status, q, bell
				l, f := to(dataAt, 100), frame(60)
				h := x.offer(0, l...)
				x.laid(l, slices.Concat(head, f))
				x.given(0, 0, h, 72)
				x.take(f, true, took(1))
				x.take(frame(1), false, loses)
			}
		}
	}
	x := newBench(t)
	x.offer(1, to(dataAt, 100)...)
	x.take(frame(1), false, loses)
}

// takeFails fails the test, if a chain is not one at which P fails, and a frame is lost, the ring as it was: at first, and
// behind another one.
func takeFails(t *testing.T, name string, offer func(*bench)) {
	t.Helper()
	t.Run(name, func(t *testing.T) {
		for _, lost := range []uint32{0, 5, math.MaxUint32} {
			for _, n := range []int{1, 60, 1514} {
				x := newBench(t)
				offer(x)
				x.offer(0, to(dataAt, 2000)...)
				x.s.Lost = lost
				x.take(frame(n), false, all(fails, loses))
				x.take(frame(n), false, loses)
			}
		}
		x := newBench(t)
		l := to(dataAt, 13)
		h := x.offer(0, l...)
		offer(x)
		x.laid(l, slices.Concat(head, []byte{3}))
		x.given(0, 0, h, 13)
		x.take(frame(1), true, took(1))
		x.take(frame(1), false, all(fails, loses))
	})
}

// NC3: an error of ring.Next: P fails, one more is Lost, and the ring is as it was.
func TestTakeNoNext(t *testing.T) {
	for _, count := range noCount(0) {
		x := newBench(t)
		x.offer(0, to(dataAt, 2000)...)
		x.lay(x.s.P.Q[0].R.Avail+2, little(count, 2))
		x.take(frame(1), false, all(fails, loses))
		x.take(frame(1), false, loses)
	}
	for _, h := range noHead(0) {
		takeFails(t, fmt.Sprint("the head ", h), func(x *bench) {
			at := x.s.P.Q[0].R.Avail + 4 + 2*uint32(x.offered[0])
			x.offer(0, to(dataAt, 100)...)
			x.lay(at, little(h, 2))
		})
	}
	for name, change := range noRing(0) {
		t.Run(name, func(t *testing.T) {
			for _, lost := range []uint32{5, math.MaxUint32} {
				x := newBench(t)
				x.offer(0, to(dataAt, 2000)...)
				change(&x.s.P.Q[0].R)
				x.s.Lost = lost
				x.take(frame(1), false, all(fails, loses))
			}
		})
	}
}

// NC3: an error of ring.Walk: P fails, one more is Lost, and the ring is as it was.
func TestTakeNoWalk(t *testing.T) {
	for name, offer := range noWalk(0) {
		takeFails(t, name, offer)
	}
	for _, desc := range []uint32{base + 8*page, base - 16, 0} {
		x := newBench(t)
		x.offer(0, to(dataAt, 2000)...)
		x.s.P.Q[0].R.Desc = desc
		x.take(frame(1), false, all(fails, loses))
	}
}

// rooms offers a chain, and fails the test, if a frame of n bytes is not laid into it just where it has room.
func rooms(t *testing.T, n int, l []ring.Seg, lost uint32) {
	t.Helper()
	room := 0
	for _, p := range l {
		if p.Write {
			room += p.N
		}
	}
	x := newBench(t)
	x.s.Lost = lost
	f, h := frame(n), x.offer(0, l...)
	if room < n+12 {
		x.given(0, 0, h, 0)
		x.take(f, false, all(took(1), loses))
		return
	}
	x.laid(l, slices.Concat(head, f))
	x.given(0, 0, h, n+12)
	x.take(f, true, took(1))
}

// NC3: chains with just room for the head and the frame, with less, and with more, in one part and in several, whatever
// is read ahead of them. Where there is no room all is given back as it was, and one more is Lost.
func TestTakeRoom(t *testing.T) {
	for _, n := range []int{1, 2, 12, 60, 1513, 1514} {
		for _, room := range []int{0, 1, 11, 12, 13, n - 1, n, n + 1, n + 10, n + 11, n + 12, n + 13, n + 24, 1525, 1526, 1527, 4096, 3 * page} {
			for _, cut := range cuts(room) {
				for i, ahead := range [][]ring.Seg{nil, from(dataAt+4*page, 1), from(dataAt, 0), from(base, 12, 0, 2000)} {
					lost := []uint32{5, math.MaxUint32}[i%2]
					rooms(t, n, slices.Concat(ahead, to(dataAt+5, cut...)), lost)
				}
			}
		}
	}
	for room := range 100 {
		rooms(t, 30, to(dataAt, room), 7)
	}
	// What is read is no room.
	rooms(t, 5, from(dataAt, 2000), 7)
	rooms(t, 5, append(from(dataAt, 2000), to(dataAt, 16)...), 7)
}

// NC3: parts may stand apart, and over the border of a page; as many parts as the queue has.
func TestTakeParts(t *testing.T) {
	for _, l := range [][]ring.Seg{
		slices.Concat(to(dataAt+100, 12), to(dataAt, 20)),
		slices.Concat(to(dataAt+100, 5), to(dataAt+200, 8), to(dataAt, 1, 0, 9), to(dataAt+50, 9)),
		to(dataAt+page-1, 32),
		to(dataAt+page-13, 32),
		to(base+8*page-32, 32),
		to(base+8*page-32, 11, 1, 20),
		slices.Concat(to(0, 0), to(dataAt, 32), to(math.MaxUint32, 0)),
	} {
		rooms(t, 20, l, 7)
	}
	var l []ring.Seg
	for i := range 16 {
		l = append(l, to(dataAt+uint32(7*i), 2)...)
	}
	rooms(t, 20, l, 7)
	rooms(t, 21, l, 7)
}

// NC3: the bytes that stand in memory then, by hand: the head, the frame, and behind them what was there.
func TestTakeByHand(t *testing.T) {
	x := newBench(t)
	h := x.offer(0, to(dataAt, 20)...)
	x.lay(dataAt, bytes.Repeat([]byte{0xa5}, 24))
	must(t, x.want.Write(dataAt-base, []byte{0, 0, 0, 0, 0, 0, 0, 0, 0, 0, 1, 0, 7, 8, 9}))
	x.given(0, 0, h, 15)
	x.take([]byte{7, 8, 9}, true, took(1))
	want := []byte{0, 0, 0, 0, 0, 0, 0, 0, 0, 0, 1, 0, 7, 8, 9, 0xa5, 0xa5, 0xa5, 0xa5, 0xa5, 0xa5, 0xa5, 0xa5, 0xa5}
	if got := x.read(dataAt, 24); !bytes.Equal(got, want) {
		t.Errorf("%v, not %v", got, want)
	}
	if got, want := x.read(x.s.P.Q[0].R.Used+2, 10), []byte{1, 0, 0, 0, 0, 0, 15, 0, 0, 0}; !bytes.Equal(got, want) {
		t.Errorf("given back: %v, not %v", got, want)
	}
	if x.s.P.Irq != 1 || x.s.Lost != 5 || x.s.P.Q[0].R.Last != 1 || x.s.P.Q[0].R.Put != 1 {
		t.Errorf("%+v", x.s)
	}
}

// NC3: frames take what is offered in order, at any counts, over their end, too; one that has no room takes a chain, too.
func TestTakeInOrder(t *testing.T) {
	for _, last := range []uint16{0, 14, 65534, 65535} {
		for _, put := range []uint16{0, 15, 65533, 65535} {
			x := newBench(t)
			x.begin(0, last, put)
			for i, c := range []struct{ room, n int }{{13, 1}, {100, 88}, {100, 89}, {0, 1}, {1526, 1514}, {12, 1}, {50, 2}} {
				l, f := to(dataAt+uint32(2000*i), c.room), frame(c.n)
				h := x.offer(0, l...)
				if c.room < c.n+12 {
					x.given(0, put+uint16(i), h, 0)
					x.take(f, false, all(took(1), loses))
					continue
				}
				x.laid(l, slices.Concat(head, f))
				x.given(0, put+uint16(i), h, c.n+12)
				x.take(f, true, took(1))
			}
			x.take(frame(1), false, loses)
			if x.s.Lost != 5+4 || x.s.P.Q[0].R.Last != last+7 || x.s.P.Q[0].R.Put != put+7 {
				t.Errorf("%+v", x.s)
			}
		}
	}
	// Offered all at once: each frame takes one alone.
	x := newBench(t)
	var heads []int
	for i := range 5 {
		heads = append(heads, x.offer(0, to(dataAt+uint32(100*i), 50)...))
	}
	for i, h := range heads {
		f := frame(i + 1)
		x.laid(to(dataAt+uint32(100*i), 50), slices.Concat(head, f))
		x.given(0, uint16(i), h, 13+i)
		x.take(f, true, took(1))
	}
	x.take(frame(1), false, loses)
}

// NC3: P tells what was given back by the bit 1, beside what it told ahead, also where there was no room.
func TestTakeTells(t *testing.T) {
	for irq := range uint32(4) {
		for room, is := range map[int]bool{17: true, 16: false} {
			x := newBench(t)
			x.s.P.Irq = irq
			l, f := to(dataAt, room), frame(5)
			h := x.offer(0, l...)
			if is {
				x.laid(l, slices.Concat(head, f))
				x.given(0, 0, h, 17)
			} else {
				x.given(0, 0, h, 0)
			}
			x.take(f, is, func(s *nic.State) {
				s.P.Irq, s.P.Q[0].R.Last, s.P.Q[0].R.Put = irq|1, 1, 1
				if !is {
					s.Lost++
				}
			})
		}
		// What is lost for want of a chain is told by nothing.
		x := newBench(t)
		x.s.P.Irq = irq
		x.take(frame(5), false, loses)
	}
}

// NC3: an answer whose memory is not there: P fails. The chain was taken, and the frame stands in memory, if there was
// room: that is what is answered.
func TestTakeNoUsed(t *testing.T) {
	for _, used := range noUsed() {
		for _, lost := range []uint32{5, math.MaxUint32} {
			x := newBench(t)
			x.s.P.Q[0].R.Used, x.s.Lost = used, lost
			l, f := to(dataAt, 17), frame(5)
			x.offer(0, l...)
			x.laid(l, slices.Concat(head, f))
			x.take(f, true, all(fails, func(s *nic.State) { s.P.Q[0].R.Last = 1 }))
			x.take(frame(5), false, loses)

			x = newBench(t)
			x.s.P.Q[0].R.Used, x.s.Lost = used, lost
			x.offer(0, to(dataAt, 16)...)
			x.take(frame(5), false, all(fails, loses, func(s *nic.State) { s.P.Q[0].R.Last = 1 }))
		}
	}
}

// NC3: the frame is written first, and then the chain given back, where both stand over one another.
func TestTakeOver(t *testing.T) {
	x := newBench(t)
	used := x.s.P.Q[0].R.Used
	l, f := to(used-8, 32), frame(20)
	h := x.offer(0, l...)
	x.laid(l, slices.Concat(head, f))
	x.given(0, 0, h, 32)
	x.take(f, true, took(1))
}

// Take by states that may not be: what is lost is counted, and no more is done.
func TestTakeOddStates(t *testing.T) {
	for _, p := range []virtio.State{{Status: 12}, {Status: 12, Q: [2]virtio.Queue{{Ready: true}}}, {Status: math.MaxUint32 &^ 64, Q: [2]virtio.Queue{{Ready: true, R: ring.Ring{Size: -4}}}}} {
		x := newBench(t)
		x.s.P = p
		if p.Q[0].Ready {
			x.take(frame(5), false, all(fails, loses))
		} else {
			x.take(frame(5), false, loses)
		}
	}
}

// NC4: a frame that came, laid out again behind a head, goes out as it was, however it is cut: where it stands, and
// elsewhere behind a head of any bytes.
func TestThereAndBack(t *testing.T) {
	for _, n := range []int{1, 2, 13, 60, 511, 1500, 1514} {
		for i, in := range cuts(n + 12) {
			for _, out := range cuts(n + 12) {
				x := newBench(t)
				f := frame(n)
				want := slices.Clone(f)
				l := to(dataAt+3, in...)
				h := x.offer(0, l...)
				x.laid(l, slices.Concat(head, f))
				x.given(0, 0, h, n+12)
				x.take(f, true, took(1))

				at := uint32(dataAt + 3)
				if i%2 == 1 {
					at = dataAt + page
					x.lay(at, slices.Concat(row(12), x.read(dataAt+3+12, n)))
				}
				h = x.offer(1, from(at, out...)...)
				x.given(1, 0, h, 0)
				x.send(all(sent(1), silent), want)
			}
		}
	}
}

// NC4: what goes out is what stood in memory, and stands there still, also what is to be written behind it.
func TestSentStays(t *testing.T) {
	x := newBench(t)
	b := slices.Concat([]byte{9, 8, 7, 6, 5, 4, 3, 2, 1, 0, 255, 254}, []byte("a frame"), []byte("no frame"))
	x.lay(dataAt, b)
	x.offer(1, append(from(dataAt, 19), to(dataAt+19, 8)...)...)
	s, l := nic.Send(x.s, x.m)
	if len(l) != 1 || string(l[0]) != "a frame" {
		t.Fatalf("%+v, %s", s, brief(l))
	}
	if got := x.read(dataAt, len(b)); !bytes.Equal(got, b) {
		t.Errorf("%v, not %v", got, b)
	}
	// What goes out later is what stands there later.
	x.s = s
	x.s.Bell = true
	x.lay(dataAt+12, []byte("another"))
	x.offer(1, from(dataAt, 19)...)
	if _, l = nic.Send(x.s, x.m); len(l) != 1 || string(l[0]) != "another" {
		t.Errorf("%s", brief(l))
	}
}
