package soc_test

import (
	"bytes"
	"slices"
	"testing"

	"pinnace/blk"
	"pinnace/bus"
	"pinnace/dma"
	"pinnace/ring"
	"pinnace/soc"
	"pinnace/uart"
)

// data is where the bytes of the drivers' chains stand in memory.
const data = 3 * page

// driver is what a driver lays into memory, by place in it.
type driver map[uint32][]byte

// row are so many bytes, each another one than its neighbours.
func row(n int) []byte {
	b := make([]byte, n)
	for i := range b {
		b[i] = byte(i%251 + 3)
	}
	return b
}

// offer lays a chain, as the n-th that is offered in a queue, whose descriptors stand from one of them on.
func (d driver) offer(r ring.Ring, n, first int, parts []ring.Seg) {
	for i, p := range parts {
		marks, next := 1, first+i+1
		if i == len(parts)-1 {
			marks, next = 0, 0
		}
		if p.Write {
			marks += 2
		}
		d[r.Desc-base+uint32(16*(first+i))] = slices.Concat(little(uint64(p.At), 8), little(uint64(p.N), 4), little(uint64(marks), 2), little(uint64(next), 2))
	}
	d[r.Avail-base+4+2*uint32(n)] = little(uint64(first), 2)
	d[r.Avail-base+2] = little(uint64(n+1), 2)
}

// ask lays a disk's request whose head stands at a place of memory; what is written of it stands at another place.
func (d driver) ask(n, first int, head uint32, kind, sector uint64, in []byte, to uint32, out int) {
	d[head] = slices.Concat(little(kind, 8), little(sector, 8), in)
	d.offer(live(1).Q[0].R, n, first, []ring.Seg{{At: base + head, N: 16 + len(in)}, {At: base + to, N: out, Write: true}})
}

// send lays a frame that goes out, behind its head at a place of memory.
func (d driver) send(n, first int, place uint32, frame []byte) {
	d[place] = slices.Concat(make([]byte, 12), frame)
	d.offer(live(2).Q[1].R, n, first, []ring.Seg{{At: base + place, N: 12 + len(frame)}})
}

// SO2: all that goes out in a tick, in its order, each with the same Tick.
func TestGoesOut(t *testing.T) {
	d := driver{}
	d.ask(0, 0, data, 1, 9, row(512), data+600, 1)
	d.ask(1, 2, data+700, 0, 8, nil, data+800, 513)
	d.send(0, 0, data+2000, []byte{7, 8})
	d.send(1, 1, data+2100, []byte{9})
	nic := live(2).Q[1].R
	scene{name: "all", text: "wfi", lay: d, set: func(s *soc.State) {
		s.U.Tx, s.U.Wait = uart.Fifo{B: [16]byte{'a', 'b'}, N: 2}, 3
		s.B.P, s.B.Bell, s.B.Next = live(1), true, 70
		s.N.P, s.N.Bell = live(2), true
	}, want: func(s *soc.State) {
		s.H.Wait = true
		goes(s)
		s.U.Tx, s.U.Wait = uart.Fifo{B: [16]byte{'b'}, N: 1}, 0
		s.B.Bell, s.B.Next, s.B.P.Q[0].R.Last = false, 72, 2
		s.B.In = []blk.Req{
			{ID: 70, Head: 0, Write: true, Sector: 9, N: 512, L: []ring.Seg{{At: base + data + 600, N: 1, Write: true}}},
			{ID: 71, Head: 2, Sector: 8, N: 512, L: []ring.Seg{{At: base + data + 800, N: 513, Write: true}}},
		}
		s.N.Bell, s.N.P.Irq, s.N.P.Q[1].R.Last, s.N.P.Q[1].R.Put = false, 1, 2, 2
	}, mem: map[uint32][]byte{
		nic.Used - base + 2: slices.Concat(little(2, 2), little(0, 4), little(0, 4), little(1, 4), little(0, 4)),
	}, out: []soc.Out{
		{Tick: 1001, Kind: soc.Byte, Data: []byte{'a'}},
		{Tick: 1001, Kind: soc.Disk, Ask: blk.Ask{ID: 70, Write: true, Sector: 9, N: 512, Data: row(512)}},
		{Tick: 1001, Kind: soc.Disk, Ask: blk.Ask{ID: 71, Sector: 8, N: 512}},
		{Tick: 1001, Kind: soc.Frame, Data: []byte{7, 8}},
		{Tick: 1001, Kind: soc.Frame, Data: []byte{9}},
	}}.play(t)
}

// SO2: what goes out is numbered from 1 on.
func TestKinds(t *testing.T) {
	if soc.Byte != 1 || soc.Frame != 2 || soc.Disk != 3 {
		t.Errorf("Byte %d, Frame %d, Disk %d", soc.Byte, soc.Frame, soc.Disk)
	}
}

// SO2: the devices work behind the write that is done in the tick: a byte waits its first tick, the engine takes its first
// order, the disk and the net device look at their queues.
func TestWorkBehindWrite(t *testing.T) {
	asked, sent := driver{}, driver{}
	asked.ask(0, 0, data, 0, 5, nil, data+800, 513)
	sent.send(0, 0, data, []byte{7})
	list := map[uint32][]byte{data: slices.Concat(little(base, 4), little(base+64, 4), little(4, 4), little(0, 4))}
	nic := live(2).Q[1].R
	playAll(t, []scene{
		{name: "the port", text: "sb x6, 0(x5)", set: func(s *soc.State) {
			s.H.X[5], s.H.X[6] = 0x10000000, 'a'
		}, want: func(s *soc.State) {
			goes(s)
			s.U.Tx, s.U.Wait = uart.Fifo{B: [16]byte{'a'}, N: 1}, 1
		}},
		{name: "the engine", text: "sw x6, 0(x5)", lay: list, set: func(s *soc.State) {
			s.H.X[5], s.H.X[6], s.D.Head = 0x10010000, 1, base+data
		}, want: func(s *soc.State) {
			goes(s)
			s.D = dma.State{Code: dma.Busy, Head: base + data, At: base + data, Steps: 1, Have: true, From: base, To: base + 64, Left: 4}
		}},
		{name: "the disk", text: "sw x6, 80(x5)", lay: asked, set: func(s *soc.State) {
			s.H.X[5], s.B.P = 0x10020000, live(1)
		}, want: func(s *soc.State) {
			goes(s)
			s.B.Next, s.B.P.Q[0].R.Last = 1, 1
			s.B.In = []blk.Req{{Sector: 5, N: 512, L: []ring.Seg{{At: base + data + 800, N: 513, Write: true}}}}
		}, out: []soc.Out{{Tick: 1001, Kind: soc.Disk, Ask: blk.Ask{Sector: 5, N: 512}}}},
		{name: "the net device", text: "sw x6, 80(x5)", lay: sent, set: func(s *soc.State) {
			s.H.X[5], s.H.X[6], s.N.P = 0x10030000, 1, live(2)
		}, want: func(s *soc.State) {
			goes(s)
			s.N.P.Irq, s.N.P.Q[1].R.Last, s.N.P.Q[1].R.Put = 1, 1, 1
		}, mem: map[uint32][]byte{nic.Used - base + 2: slices.Concat(little(1, 2), make([]byte, 8))},
			out: []soc.Out{{Tick: 1001, Kind: soc.Frame, Data: []byte{7}}}},
	})
}

// SO2: the engine works ahead of the disk, and this one ahead of the net device: what each writes to memory the later one
// finds there.
func TestWorkInOrder(t *testing.T) {
	d, order := driver{}, driver{}
	d.ask(0, 0, data, 0, 5, nil, data+800, 513)
	count := live(1).Q[0].R.Avail + 2
	d[count-base] = little(0, 2)
	d[data+100] = little(1, 2)
	scene{name: "the engine lays the count of what is offered to the disk", text: "", lay: d, set: func(s *soc.State) {
		s.H.Wait = true
		s.D = dma.State{Code: dma.Busy, Have: true, From: base + data + 100, To: count, Left: 2}
		s.B.P, s.B.Bell = live(1), true
	}, want: func(s *soc.State) {
		s.D = dma.State{Code: dma.Done, Moved: 2, Asks: true}
		s.B.Bell, s.B.Next, s.B.P.Q[0].R.Last = false, 1, 1
		s.B.In = []blk.Req{{Sector: 5, N: 512, L: []ring.Seg{{At: base + data + 800, N: 513, Write: true}}}}
	}, mem: map[uint32][]byte{count - base: little(1, 2)}, out: []soc.Out{{Tick: 1001, Kind: soc.Disk, Ask: blk.Ask{Sector: 5, N: 512}}}}.play(t)

	// The status of a flush is 0: it takes a byte away from a count that would be too great.
	q, used := live(2).Q[1].R, live(1).Q[0].R.Used
	order.send(0, 0, data+200, []byte{7})
	order[q.Avail-base+2] = little(0x101, 2)
	order.ask(0, 0, data, 4, 0, nil, q.Avail-base+3, 1)
	scene{name: "the disk's status is laid into the count of frames", text: "", lay: order, set: func(s *soc.State) {
		s.H.Wait = true
		s.B.P, s.B.Bell = live(1), true
		s.N.P, s.N.Bell = live(2), true
	}, want: func(s *soc.State) {
		s.B.Bell, s.B.P.Irq, s.B.P.Q[0].R.Last, s.B.P.Q[0].R.Put = false, 1, 1, 1
		s.N.Bell, s.N.P.Irq, s.N.P.Q[1].R.Last, s.N.P.Q[1].R.Put = false, 1, 1, 1
	}, mem: map[uint32][]byte{
		q.Avail - base + 3: {0}, used - base + 2: slices.Concat(little(1, 2), little(0, 4), little(1, 4)),
		q.Used - base + 2: slices.Concat(little(1, 2), make([]byte, 8)),
	}, out: []soc.Out{{Tick: 1001, Kind: soc.Frame, Data: []byte{7}}}}.play(t)
}

// SO2: the hart's store to memory is there for the devices of the same tick, and what they lay there only for the next one.
func TestWorkBehindHart(t *testing.T) {
	set := func(s *soc.State) {
		s.H.X[5], s.H.X[6] = base+data, 0x0a0b0c0d
		s.D = dma.State{Code: dma.Busy, Have: true, From: base + data, To: base + data + 8, Left: 4}
	}
	ended := dma.State{Code: dma.Done, Moved: 4, Asks: true}
	scene{name: "a store", text: "sw x6, 0(x5)", set: set, want: func(s *soc.State) {
		goes(s)
		s.D = ended
	}, mem: map[uint32][]byte{data: {0x0d, 0x0c, 0x0b, 0x0a}, data + 8: {0x0d, 0x0c, 0x0b, 0x0a}}}.play(t)
	scene{name: "a load", text: "lw x1, 8(x5)", lay: map[uint32][]byte{data: {1, 2, 3, 4}}, set: set, want: func(s *soc.State) {
		s.H.X[1] = 0
		goes(s)
		s.D = ended
	}, mem: map[uint32][]byte{data + 8: {1, 2, 3, 4}}}.play(t)
}

// SO2: in a tick four frames go out at most, and as many requests as may wait; the next ones go out later.
func TestMostOut(t *testing.T) {
	d := driver{}
	for i := range 6 {
		d.send(i, i, uint32(data+20*i), []byte{byte(i)})
		d.ask(i, 2*i, uint32(data+1000+20*i), 0, uint64(i), nil, data+1200, 513)
	}
	m := ram(t, laid.Pages)
	for place, b := range d {
		must(t, m.Write(place, b))
	}
	s := calm()
	s.H.Wait = true
	s.N.P, s.N.Bell, s.B.P, s.B.Bell, s.B.Next = live(2), true, live(1), true, 100
	for i := range 4 {
		s.B.In = append(s.B.In, request(uint32(i)))
	}
	x, err := soc.Load(laid, s, m)
	must(t, err)
	for i, want := range [][2]int{{4, 4}, {2, 0}, {0, 0}} {
		asks, frames := 0, 0
		for _, o := range x.Tick() {
			if o.Tick != uint64(1001+i) || o.Kind == soc.Byte || o.Kind == soc.Disk && o.Data != nil {
				t.Errorf("out goes %+v", o)
			}
			if o.Kind == soc.Disk {
				asks++
			} else {
				frames++
			}
		}
		if got := [2]int{frames, asks}; got != want {
			t.Errorf("tick %d: frames and requests %v, not %v", i, got, want)
		}
	}
	must(t, x.Finish(2, false, nil))
	if l := x.Tick(); len(l) != 1 || l[0].Ask.ID != 104 || l[0].Ask.Sector != 4 {
		t.Errorf("behind an answer out goes %s", outs(l))
	}
}

// The chapter's example: a byte that is stored goes out some ticks later: the one in which it is told to the port is the
// first of four.
func TestExample(t *testing.T) {
	x, err := soc.New(soc.Config{Pages: 1}, words(t, "lui x5, 65536\naddi x6, x0, 97\nsb x6, 0(x5)\nwfi"))
	must(t, err)
	for tick := uint64(1); tick < 20; tick++ {
		var want []soc.Out
		if tick == 6 {
			want = []soc.Out{{Tick: 6, Kind: soc.Byte, Data: []byte("a")}}
		}
		if got := x.Tick(); outs(got) != outs(want) {
			t.Errorf("tick %d: %s, not %s", tick, outs(got), outs(want))
		}
	}
}

// A program that claims, takes and answers bytes by interrupts, from beginning to end.
func TestEcho(t *testing.T) {
	x, err := soc.New(laid, words(t, `
lui x5, 65536      # the port
lui x6, 49152      # the plic
lui x7, 49154      # its Enable
lui x8, 49664      # its threshold, and what it serves
addi x9, x0, 1
sw x9, 4(x6)
addi x10, x0, 2
sw x10, 0(x7)
sb x9, 1(x5)
auipc x11, 0
addi x11, x11, 36
csrrw x0, 773, x11
addi x12, x0, 1
slli x12, x12, 11
csrrw x0, 772, x12
csrrsi x0, 768, 8
loop:
wfi
jal x0, loop
lw x13, 4(x8)      # the vector
lbu x14, 0(x5)
addi x14, x14, 1
sb x14, 0(x5)
sw x13, 4(x8)
mret`))
	must(t, err)
	var got []byte
	for tick := range 600 {
		if tick%40 == 39 && tick/40 < 10 {
			must(t, x.Put(byte('a'+tick/40)))
		}
		for _, o := range x.Tick() {
			if o.Kind != soc.Byte || o.Tick != uint64(tick+1) {
				t.Fatalf("out goes %+v", o)
			}
			got = append(got, o.Data...)
		}
	}
	if !bytes.Equal(got, []byte("bcdefghijk")) {
		t.Errorf("out went %q", got)
	}
	if s := x.State(); s.P.Busy != 0 || s.P.Pending != 0 || !s.H.Wait || !x.Waits() {
		t.Errorf("at the end: %+v", s)
	}
}

// SO2: lists of what goes out are nobody else's.
func TestOutIsNew(t *testing.T) {
	d := driver{}
	d.ask(0, 0, data, 1, 9, row(512), data+600, 1)
	d.send(0, 0, data+2000, []byte{7, 8})
	m := ram(t, laid.Pages)
	for place, b := range d {
		must(t, m.Write(place, b))
	}
	s := calm()
	s.H.Wait = true
	s.U.Tx, s.U.Wait = uart.Fifo{B: [16]byte{'a', 'b'}, N: 2}, 3
	s.Q.L = []bus.Post{{Dev: bus.Dma, At: 8, N: 4, Value: 1}, {Dev: bus.Dma, At: 8, N: 4, Value: 2}}
	s.B.P, s.B.Bell, s.N.P, s.N.Bell = live(1), true, live(2), true
	x, err := soc.Load(laid, s, m)
	must(t, err)
	out := x.Tick()
	state, bytesThen := told(x.State()), all(t, m)
	for _, o := range out {
		for _, b := range [][]byte{o.Data, o.Ask.Data} {
			b = b[:cap(b)]
			for i := range b {
				b[i] ^= 0xff
			}
		}
	}
	if len(out) != 3 || told(x.State()) != state || !bytes.Equal(all(t, m), bytesThen) {
		t.Errorf("what went out is still the machine's: %s", outs(out))
	}
}
