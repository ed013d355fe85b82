package nic_test

import (
	"bytes"
	"fmt"
	"slices"
	"testing"

	"pinnace/mem"
	"pinnace/nic"
	"pinnace/ring"
	"pinnace/virtio"
)

// send sends, and fails the test, if that does not make just that state and these frames.
func (x *bench) send(change func(*nic.State), frames ...[]byte) {
	x.t.Helper()
	want := with(x.s, change)
	got, l := nic.Send(x.s, x.m)
	if got != want || !slices.EqualFunc(l, frames, bytes.Equal) {
		x.t.Fatalf("Send of %+v: %+v, %s; not %+v, %s", x.s, got, brief(l), want, brief(frames))
	}
	if nic.Check(x.s) == nil {
		checks(x.t, "what was sent", got, true)
	}
	x.s = got
	// What is written to one frame shows in no other one, nor in memory.
	for i, b := range l {
		copy(b[:cap(b)], bytes.Repeat([]byte{2}, cap(b)))
		for j := i + 1; j < len(l); j++ {
			if !bytes.Equal(l[j], frames[j]) {
				x.t.Fatalf("the frames %d and %d share bytes", i, j)
			}
		}
	}
	x.memory()
}

// brief tells frames, of each how many bytes, and the first ones.
func brief(l [][]byte) string {
	out := fmt.Sprint(len(l), " frames:")
	for _, b := range l {
		out += fmt.Sprintf(" %d bytes %v", len(b), b[:min(len(b), 16)])
	}
	return out
}

// sent is the change of frames of the queue 1 that went out.
func sent(n uint16) func(*nic.State) { return gave(1, n) }

// frames offers so many chains, each of another length; what goes out of them, and their heads.
func (x *bench) frames(n int) ([][]byte, []int) {
	x.t.Helper()
	var frames [][]byte
	var heads []int
	for i := range n {
		at := uint32(dataAt + 100*i)
		heads = append(heads, x.offer(1, from(at, 13+i)...))
		frames = append(frames, x.read(at+12, 1+i))
	}
	return frames, heads
}

// The chapter's example, and all that it makes.
func TestSendExample(t *testing.T) {
	x := newBench(t)
	x.lay(dataAt+12, []byte{7})
	head := x.offer(1, from(dataAt, 13)...)
	x.given(1, 0, head, 0)
	x.send(all(sent(1), silent), []byte{7})
	x.send(nothing)
}

// NC2: nothing is done, if there is no memory, the bell has not rung, P is not Live, or the queue 1 not Ready; the bell
// stays.
func TestSendNothing(t *testing.T) {
	reasons := idle(1)
	reasons["no bell"] = func(s *nic.State) { s.Bell = false }
	reasons["no bell, not Ready"] = func(s *nic.State) { s.P.Q[1].Ready, s.Bell = false, false }
	reasons["no bell, not Live"] = func(s *nic.State) { s.P.Status, s.Bell = 11, false }
	for name, change := range reasons {
		t.Run(name, func(t *testing.T) {
			x := newBench(t)
			x.frames(3)
			change(&x.s)
			x.send(nothing)
			// Nor where the queue offers nothing, or can't be walked.
			x = newBench(t)
			change(&x.s)
			x.send(nothing)
			x = newBench(t)
			x.offer(1, to(0, 5)...)
			change(&x.s)
			x.send(nothing)
		})
	}
	for _, s := range []nic.State{{}, {Bell: true}, {P: live()}, {P: live(), Bell: true, Lost: 7}, {P: oddP(), Bell: true}} {
		if got, l := nic.Send(s, nil); got != s || len(l) > 0 {
			t.Errorf("without memory: %+v, %v, not %+v", got, l, s)
		}
	}
}

// NC2: of bits of the status that are not asked for, and of the queue 0, nothing hangs.
func TestSendSomething(t *testing.T) {
	for _, status := range []uint32{12, 13, 15, 140, 143} {
		for _, q := range []virtio.Queue{{}, live().Q[0], {R: live().Q[0].R}} {
			x := newBench(t)
			x.s.P.Status, x.s.P.Q[0] = status, q
			frames, heads := x.frames(1)
			x.given(1, 0, heads[0], 0)
			x.send(all(sent(1), silent), frames...)
		}
	}
}

// NC2: if there is no chain, the bell has rung no more; what the queue 0 offers is nothing to it.
func TestSendNone(t *testing.T) {
	x := newBench(t)
	x.send(silent)
	x = newBench(t)
	x.offer(0, from(dataAt, 13)...)
	x.send(silent)
	x = newBench(t)
	x.begin(1, 65535, 3)
	x.send(silent)
}

// NC2: chains are taken in order, at most four in a call; the bell is silent as soon as there is none more to be taken,
// which is behind four not looked at.
func TestSendHowMany(t *testing.T) {
	for n := range 12 {
		x := newBench(t)
		frames, heads := x.frames(n)
		for done := 0; x.s.Bell; {
			now := min(n-done, 4)
			for i := range now {
				x.given(1, uint16(done+i), heads[done+i], 0)
			}
			change := all(sent(uint16(now)), silent)
			if now == 4 {
				change = sent(4)
			} else if now == 0 {
				change = silent
			}
			x.send(change, frames[done:done+now]...)
			done += now
		}
		if got := x.s.P.Q[1].R.Last; int(got) != n {
			t.Errorf("%d of %d were taken", got, n)
		}
		x.send(nothing)
	}
}

// NC2: one, four and five chains, and the bell then, by hand.
func TestSendBell(t *testing.T) {
	for _, c := range []struct {
		n, first int
		bell     bool
	}{{0, 0, false}, {1, 1, false}, {3, 3, false}, {4, 4, true}, {5, 4, true}, {32, 4, true}} {
		x := newBench(t)
		x.frames(c.n)
		if s, l := nic.Send(x.s, x.m); len(l) != c.first || s.Bell != c.bell || s.P.Q[1].R.Last != uint16(c.first) {
			t.Errorf("of %d: %d went out, %+v", c.n, len(l), s)
		}
	}
}

// NC2: what goes out is offered and given back at any counts, over their end, too.
func TestSendCounts(t *testing.T) {
	for _, last := range []uint16{0, 1, 30, 31, 65533, 65535} {
		for _, put := range []uint16{0, 2, 29, 31, 65534, 65535} {
			x := newBench(t)
			x.begin(1, last, put)
			frames, heads := x.frames(3)
			for i, head := range heads {
				x.given(1, put+uint16(i), head, 0)
			}
			x.send(all(sent(3), silent), frames...)
		}
	}
}

// sendFails fails the test, if a chain is not one at which P fails, the ring as it was: at first, and behind others.
func sendFails(t *testing.T, name string, offer func(*bench)) {
	t.Helper()
	t.Run(name, func(t *testing.T) {
		for n := range 4 {
			x := newBench(t)
			frames, heads := x.frames(n)
			offer(x)
			x.frames(1)
			for i, head := range heads {
				x.given(1, uint16(i), head, 0)
			}
			change := fails
			if n > 0 {
				change = all(sent(uint16(n)), fails)
			}
			x.send(change, frames...)
			x.send(nothing)
		}
		// Of a fifth one nothing is known yet.
		x := newBench(t)
		frames, heads := x.frames(4)
		offer(x)
		for i, head := range heads {
			x.given(1, uint16(i), head, 0)
		}
		x.send(sent(4), frames...)
		x.send(fails)
	})
}

// NC2: an error of ring.Next: P fails, and the ring is as it was; the bell stays.
func TestSendNoNext(t *testing.T) {
	for _, count := range noCount(1) {
		x := newBench(t)
		x.frames(3)
		x.lay(x.s.P.Q[1].R.Avail+2, little(count, 2))
		x.send(fails)
		x.send(nothing)
	}
	for _, head := range noHead(1) {
		sendFails(t, fmt.Sprint("the head ", head), func(x *bench) {
			at := x.s.P.Q[1].R.Avail + 4 + 2*uint32(x.offered[1])
			x.frames(1)
			x.lay(at, little(head, 2))
		})
	}
	for name, change := range noRing(1) {
		t.Run(name, func(t *testing.T) {
			x := newBench(t)
			x.frames(1)
			change(&x.s.P.Q[1].R)
			x.send(fails)
			x.send(nothing)
		})
	}
}

// NC2: an error of ring.Walk: P fails, and the ring is as it was.
func TestSendNoWalk(t *testing.T) {
	for name, offer := range noWalk(1) {
		sendFails(t, name, offer)
	}
	for _, desc := range []uint32{base + 8*page, base - 16, 0} {
		x := newBench(t)
		x.frames(1)
		x.s.P.Q[1].R.Desc = desc
		x.send(fails)
	}
}

// cuts are some ways to cut so many bytes into parts.
func cuts(n int) [][]int {
	out := [][]int{{n}, {0, n}, {n, 0}, {n / 2, n - n/2}, {n / 3, 0, n / 3, n - n/3*2}}
	for _, first := range []int{1, 11, 12, 13} {
		if n > first {
			out = append(out, []int{first, n - first}, []int{1, first - 1, n - first - 1, 1})
		}
	}
	return out
}

// NC2: what is read has from 13 to 1,526 bytes, in however many parts, whatever is written behind.
func TestSendBytes(t *testing.T) {
	behind := map[string][]ring.Seg{"nothing": nil, "one": to(dataAt+3*page, 1), "none": to(dataAt, 0), "many": to(dataAt, 5, 2000, 0, 13)}
	for _, n := range []int{0, 1, 11, 12, 13, 14, 60, 512, 1513, 1514, 1515, 1525, 1526, 1527, 1528, 2000, 4096, 3 * page} {
		for name, written := range behind {
			for _, cut := range cuts(n) {
				l := slices.Concat(from(dataAt+5, cut...), written)
				if n < 13 || n > 1526 {
					sendFails(t, fmt.Sprint(cut, ", and written ", name), func(x *bench) { x.offer(1, l...) })
					continue
				}
				x := newBench(t)
				head := x.offer(1, l...)
				x.given(1, 0, head, 0)
				x.send(all(sent(1), silent), x.read(dataAt+5+12, n-12))
			}
		}
	}
	// Nothing that is read.
	for _, n := range []int{0, 1, 13, 100, 1526} {
		sendFails(t, fmt.Sprint("just written ", n), func(x *bench) { x.offer(1, to(dataAt, n)...) })
	}
	// All other numbers, in one part.
	for n := range 1700 {
		x := newBench(t)
		x.offer(1, from(dataAt, n)...)
		s, l := nic.Send(x.s, x.m)
		if may := n >= 13 && n <= 1526; may != (len(l) == 1) || may == (s.P.Status == 79) || may && len(l[0]) != n-12 {
			t.Errorf("%d bytes: %+v, %s", n, s, brief(l))
		}
	}
	// A great many, as many as may be walked: P fails, and memory is not gone over.
	m, err := mem.New(300)
	must(t, err)
	x := newBench(t)
	x.m = m
	x.s.P.Q[0] = virtio.Queue{}
	x.offer(1, from(base, 1<<20)...)
	x.send(fails)
}

// NC2: of the head nothing hangs, and it does not go out; parts may stand apart, over one another, and in any order.
func TestSendParts(t *testing.T) {
	for i, c := range []struct {
		l    []ring.Seg
		want []byte
	}{
		{slices.Concat(from(dataAt+100, 12), from(dataAt, 3)), []byte{1, 2, 3}},
		{slices.Concat(from(dataAt+100, 5), from(dataAt+200, 7), from(dataAt+2, 1), from(dataAt, 2)), []byte{3, 1, 2}},
		{slices.Concat(from(dataAt+100, 11), from(dataAt, 4)), []byte{2, 3, 4}},
		{slices.Concat(from(dataAt+100, 13), from(dataAt, 2)), []byte{9, 1, 2}},
		{slices.Concat(from(dataAt, 4), from(dataAt, 4), from(dataAt, 4), from(dataAt, 4)), []byte{1, 2, 3, 4}},
		{from(dataAt-10, 13), []byte{3}},
		{from(dataAt+page-5, 20), []byte{0, 0, 0, 0, 0, 0, 0, 0}},
	} {
		t.Run(fmt.Sprint(i), func(t *testing.T) {
			x := newBench(t)
			x.lay(dataAt, []byte{1, 2, 3, 4})
			x.lay(dataAt+112, []byte{9})
			x.lay(dataAt+page-5, make([]byte, 20))
			head := x.offer(1, c.l...)
			x.given(1, 0, head, 0)
			x.send(all(sent(1), silent), c.want)
		})
	}
	for _, b := range []byte{0, 1, 255} {
		x := newBench(t)
		x.lay(dataAt, append(bytes.Repeat([]byte{b}, 12), 7, 8))
		head := x.offer(1, from(dataAt, 14)...)
		x.given(1, 0, head, 0)
		x.send(all(sent(1), silent), []byte{7, 8})
	}
	// As many parts as the queue has.
	x := newBench(t)
	var l []ring.Seg
	for i := range 32 {
		l = append(l, from(dataAt+uint32(7*i), 1)...)
	}
	var want []byte
	for i := 12; i < 32; i++ {
		want = append(want, x.read(dataAt+uint32(7*i), 1)...)
	}
	head := x.offer(1, l...)
	x.given(1, 0, head, 0)
	x.send(all(sent(1), silent), want)
}

// NC2: P tells what was given back by the bit 1, beside what it told ahead, and 0 bytes are told as written.
func TestSendTells(t *testing.T) {
	for irq := range uint32(4) {
		x := newBench(t)
		x.s.P.Irq = irq
		r := x.s.P.Q[1].R
		x.lay(r.Used, bytes.Repeat([]byte{0xa5}, 4+8*32))
		x.s.P.Q[1].R.Put = 6
		frames, heads := x.frames(2)
		x.given(1, 6, heads[0], 0)
		x.given(1, 7, heads[1], 0)
		x.send(func(s *nic.State) {
			s.Bell, s.P.Irq = false, irq|1
			s.P.Q[1].R.Last, s.P.Q[1].R.Put = 2, 8
		}, frames...)
		want := slices.Concat([]byte{0xa5, 0xa5}, little(8, 2))
		want = append(want, bytes.Repeat([]byte{0xa5}, 48)...)
		want = slices.Concat(want, little(0, 4), little(0, 4), little(1, 4), little(0, 4), bytes.Repeat([]byte{0xa5}, 8*24))
		if got := x.read(r.Used, 4+8*32); !bytes.Equal(got, want) {
			t.Errorf("given back: %v, not %v", got, want)
		}
		// What was told by none stays so.
		x = newBench(t)
		x.s.P.Irq = irq
		x.send(silent)
	}
}

// NC2: a chain that can't be given back: P fails, and it ends; the frame has gone, and the chain was taken.
func TestSendNoUsed(t *testing.T) {
	for _, used := range noUsed() {
		for _, n := range []int{1, 2, 5} {
			x := newBench(t)
			x.s.P.Q[1].R.Used = used
			frames, _ := x.frames(n)
			x.send(all(fails, func(s *nic.State) { s.P.Q[1].R.Last = 1 }), frames[0])
			x.send(nothing)
		}
	}
	// Those ahead of it are given back: of the last four places in memory the first two are there.
	x := newBench(t)
	x.s.P.Q[1].R.Used = base + 8*page - 20
	frames, heads := x.frames(3)
	x.given(1, 0, heads[0], 0)
	x.given(1, 1, heads[1], 0)
	x.send(all(fails, func(s *nic.State) {
		s.P.Irq |= 1
		s.P.Q[1].R.Last, s.P.Q[1].R.Put = 3, 2
	}), frames...)
}

// NC2: chains are gone over one by one: what is given back may stand over a frame, its own or a later one.
func TestSendOver(t *testing.T) {
	x := newBench(t)
	r := x.s.P.Q[1].R
	first := x.offer(1, from(r.Used-8, 40)...)
	second := x.offer(1, from(r.Used-8, 40)...)
	want := x.read(r.Used+4, 28)
	x.given(1, 0, first, 0)
	b, err := x.want.Read(r.Used+4-base, 28)
	must(t, err)
	x.given(1, 1, second, 0)
	x.send(all(sent(2), silent), want, b)
	if bytes.Equal(want, b) {
		t.Error("both frames are the same")
	}
	// What is given back offers one more, at each time: four go out.
	x = newBench(t)
	q := &x.s.P.Q[1].R
	q.Size, q.Used, q.Put = 2, q.Avail, 1
	x.offer(1, from(dataAt, 15)...)
	x.lay(q.Avail+4, little(0, 4))
	s, l := nic.Send(x.s, x.m)
	if len(l) != 4 || !s.Bell || s.P.Status != 15 || s.P.Q[1].R.Last != 4 || s.P.Q[1].R.Put != 5 {
		t.Errorf("%+v, %s", s, brief(l))
	}
}

// NC2: Lost, and the queue 0, are nothing to what goes out; states that may not be fail, and do no more.
func TestSendOddStates(t *testing.T) {
	for _, p := range []virtio.State{oddP(), {Status: 12}, {Status: 12, Q: [2]virtio.Queue{{}, {Ready: true}}}, {Status: 1<<32 - 1 - 64, Q: [2]virtio.Queue{{}, {Ready: true, R: ring.Ring{Size: -4}}}}} {
		x := newBench(t)
		x.frames(1)
		x.s.P = p
		s, l := nic.Send(x.s, x.m)
		if len(l) > 1 || len(l) == 0 && p.Q[1].Ready && s.P.Status != p.Status|64 || s.Lost != 5 {
			t.Errorf("%+v: %+v, %s", p, s, brief(l))
		}
	}
}
