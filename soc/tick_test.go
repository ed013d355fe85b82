package soc_test

import (
	"bytes"
	"math"
	"slices"
	"testing"

	"pinnace/bus"
	"pinnace/clint"
	"pinnace/csr"
	"pinnace/dma"
	"pinnace/hart"
	"pinnace/plic"
	"pinnace/soc"
	"pinnace/uart"
)

// at is where traps go on, in the tests' states.
const at = 0x800

// calm is a state in which nothing goes on, and no line asks; the program stands at memory's first place.
func calm() soc.State {
	s := atFirst(laid)
	s.Ticks = 1000
	s.H.C = csr.State{Vector: base + at, Count: 70}
	s.C = clint.State{Time: 500, Cmp: never}
	return s
}

// goes is what becomes of a hart that goes on to its next instruction.
func goes(s *soc.State) {
	s.H.Pc += 4
	s.H.C.Count++
}

// trap is what becomes of a hart that traps, in a state whose Status is 0 or 8.
func trap(s *soc.State, cause, value uint32) {
	s.H.C.Epc, s.H.C.Cause, s.H.C.Value = s.H.Pc, cause, value
	s.H.C.Status *= 16
	s.H.Pc = base + at
}

// scene is a tick: what there is ahead of it, and what becomes of it. Time and Ticks go on in each.
type scene struct {
	name string
	text string            // the program
	lay  map[uint32][]byte // beside it, by place in memory
	set  func(s *soc.State)
	want func(s *soc.State)
	mem  map[uint32][]byte // what memory becomes
	out  []soc.Out
}

// play plays a scene.
func (e scene) play(t *testing.T) {
	t.Helper()
	m := ram(t, laid.Pages)
	must(t, m.Write(0, code(t, e.text)))
	must(t, m.Write(at, code(t, "addi x31, x0, 31")))
	for place, b := range e.lay {
		must(t, m.Write(place, b))
	}
	m.Harvest()
	s := calm()
	if e.set != nil {
		e.set(&s)
	}
	want, bytesThen, dirty := s, all(t, m), []int(nil)
	x, err := soc.Load(laid, s, m)
	must(t, err)
	got := x.Tick()
	want.Ticks++
	want.C.Time++
	e.want(&want)
	for place, b := range e.mem {
		copy(bytesThen[place:], b)
		for i := range b {
			dirty = append(dirty, (int(place)+i)/page)
		}
	}
	slices.Sort(dirty)
	isState(t, e.name, x, want)
	if outs(got) != outs(e.out) {
		t.Errorf("%s: out goes %s, not %s", e.name, outs(got), outs(e.out))
	}
	if b := all(t, m); !bytes.Equal(b, bytesThen) || !slices.Equal(m.Dirty(), slices.Compact(dirty)) {
		t.Errorf("%s: memory is not as it must be; dirty are %v, not %v", e.name, m.Dirty(), slices.Compact(dirty))
	}
	must(t, soc.Check(laid, x.State()))
}

// playAll plays scenes, one by one.
func playAll(t *testing.T, l []scene) {
	t.Helper()
	for _, e := range l {
		e.play(t)
	}
}

// SO2: the timer's tick comes first, and the lines are looked at behind it.
func TestTimer(t *testing.T) {
	timer := func(cmp uint64) func(s *soc.State) {
		return func(s *soc.State) {
			s.C.Cmp, s.H.C.Enable, s.H.C.Status = cmp, 0x80, 8
		}
	}
	handled := func(s *soc.State) {
		trap(s, 0x80000007, 0)
		s.H.X[31] = 31
		goes(s)
	}
	first := func(s *soc.State) {
		s.H.X[1] = 7
		goes(s)
	}
	playAll(t, []scene{
		{name: "Cmp is the time behind the tick", text: "addi x1, x0, 7", set: timer(501), want: handled},
		{name: "Cmp is the time ahead of the tick", text: "addi x1, x0, 7", set: timer(500), want: handled},
		{name: "Cmp is a tick later", text: "addi x1, x0, 7", set: timer(502), want: first},
		{name: "the timer is not enabled", text: "addi x1, x0, 7", set: func(s *soc.State) {
			s.C.Cmp, s.H.C.Enable, s.H.C.Status = 0, 0x808, 8
		}, want: first},
		{name: "interrupts are off", text: "addi x1, x0, 7", set: func(s *soc.State) {
			s.C.Cmp, s.H.C.Enable = 0, 0x80
		}, want: first},
		{name: "Time turns round", text: "addi x1, x0, 7", set: func(s *soc.State) {
			s.C.Time, s.C.Cmp, s.H.C.Enable, s.H.C.Status = math.MaxUint64, 1, 0x80, 8
		}, want: first},
		{name: "Time is read", text: "lw x1, 0(x5)", set: func(s *soc.State) {
			s.H.X[5] = 0x0200bff8
		}, want: func(s *soc.State) {
			s.H.X[1] = 501
			goes(s)
		}},
	})
}

// asking are the sources, what lets each of them ask, and its bit.
var asking = []struct {
	name string
	set  func(s *soc.State)
	bit  uint32
}{
	{"none", func(s *soc.State) {}, 0},
	{"a byte in the port", func(s *soc.State) { s.U.Rx, s.U.Ier = uart.Fifo{B: [16]byte{9}, N: 1}, 1 }, 2},
	{"a byte in the port, of which it does not tell", func(s *soc.State) { s.U.Rx = uart.Fifo{B: [16]byte{9}, N: 1} }, 0},
	{"room in the port", func(s *soc.State) { s.U.Ier = 2 }, 2},
	{"a byte of the port that was lost", func(s *soc.State) { s.U.Over, s.U.Ier = true, 4 }, 2},
	{"the engine", func(s *soc.State) { s.D.Code, s.D.Asks = dma.Failed, true }, 4},
	{"an engine that asks no more", func(s *soc.State) { s.D.Code = dma.Done }, 0},
	{"the disk", func(s *soc.State) { s.B.P.Irq = 1 }, 8},
	{"a disk that failed", func(s *soc.State) { s.B.P.Irq = 2 }, 8},
	{"the net device", func(s *soc.State) { s.N.P.Irq = 1 }, 16},
	{"a net device that failed", func(s *soc.State) { s.N.P.Irq = 2 }, 16},
	{"both", func(s *soc.State) { s.B.P.Irq, s.N.P.Irq = 3, 3 }, 24},
	{"all", func(s *soc.State) { s.U.Ier, s.D.Code, s.D.Asks, s.B.P.Irq, s.N.P.Irq = 2, dma.Done, true, 1, 2 }, 30},
}

// SO2: each source has its bit, ahead of the hart's step: what plic.Best is then is a line of that very tick.
func TestSources(t *testing.T) {
	for _, e := range asking {
		for _, enabled := range []uint32{0, 0xfe} {
			set := func(s *soc.State) {
				e.set(s)
				s.P.Priority = [8]uint32{0, 1, 1, 1, 1, 1, 1, 1}
				s.P.Enable, s.H.C.Enable = enabled, 0x800
			}
			line := uint32(0)
			if e.bit&enabled != 0 {
				line = 0x800
			}
			scene{name: e.name + ": the lines are read", text: "csrrs x1, 836, x0", set: set, want: func(s *soc.State) {
				s.P.Pending = e.bit
				s.H.X[1] = line
				goes(s)
			}}.play(t)
			scene{name: e.name + ": interrupts are on", text: "csrrs x1, 836, x0", set: func(s *soc.State) {
				set(s)
				s.H.C.Status = 8
			}, want: func(s *soc.State) {
				s.P.Pending = e.bit
				if line != 0 {
					trap(s, 0x8000000b, 0)
					s.H.X[31] = 31
				}
				goes(s)
			}}.play(t)
		}
	}
}

// SO2: the sources' bits are plic.Level's: who is served does not wait again, and what waits goes on waiting.
func TestLevel(t *testing.T) {
	nop := func(pending uint32) func(s *soc.State) {
		return func(s *soc.State) {
			s.P.Pending = pending
			goes(s)
		}
	}
	playAll(t, []scene{
		{name: "one that is served asks", text: "addi x0, x0, 0", set: func(s *soc.State) {
			s.B.P.Irq, s.D.Code, s.D.Asks, s.P.Busy = 1, dma.Done, true, 8
		}, want: nop(4)},
		{name: "one that waits asks no more", text: "addi x0, x0, 0", set: func(s *soc.State) { s.P.Pending = 0x90 }, want: nop(0x90)},
		{name: "one below the threshold", text: "csrrs x1, 836, x0", set: func(s *soc.State) {
			s.P = plic.State{Priority: [8]uint32{4: 3}, Enable: 16, Pending: 16, Threshold: 3}
		}, want: nop(16)},
		{name: "the engine ends behind the hart's step", text: "csrrs x1, 836, x0", set: func(s *soc.State) {
			s.P = plic.State{Priority: [8]uint32{2: 1}, Enable: 4}
			s.D = dma.State{Code: dma.Busy, At: 3}
		}, want: func(s *soc.State) {
			s.D = dma.State{Code: dma.Failed, At: 3, Asks: true}
			goes(s)
		}},
		{name: "a byte is taken behind plic.Level", text: "lbu x1, 0(x5)", set: func(s *soc.State) {
			s.U.Rx, s.U.Ier, s.H.X[5] = uart.Fifo{B: [16]byte{9}, N: 1}, 1, 0x10000000
		}, want: func(s *soc.State) {
			s.U.Rx, s.H.X[1], s.P.Pending = uart.Fifo{}, 9, 2
			goes(s)
		}},
		{name: "software asks behind the hart's step", text: "csrrs x1, 836, x0", set: func(s *soc.State) {
			s.Q.L = []bus.Post{{Dev: bus.Clint, N: 4, Value: 1}}
		}, want: func(s *soc.State) {
			s.Q.L, s.C.Soft = nil, 1
			goes(s)
		}},
	})
}

// three lets all three lines ask.
func three(s *soc.State) {
	s.C.Soft, s.C.Cmp = 1, 0
	s.P.Priority[1], s.P.Enable, s.P.Pending = 1, 2, 2
}

// SO2: all three lines together; the hart is handed them in Begin and in Do.
func TestLines(t *testing.T) {
	seen := func(v uint32) func(s *soc.State) {
		return func(s *soc.State) {
			s.H.X[1] = v
			goes(s)
		}
	}
	taken := func(cause uint32) func(s *soc.State) {
		return func(s *soc.State) {
			trap(s, cause, 0)
			s.H.X[31] = 31
			goes(s)
		}
	}
	playAll(t, []scene{
		{name: "none", text: "csrrs x1, 836, x0", want: seen(0)},
		{name: "software", text: "csrrs x1, 836, x0", set: func(s *soc.State) { s.C.Soft = 1 }, want: seen(8)},
		{name: "all", text: "csrrs x1, 836, x0", set: three, want: seen(0x888)},
		{name: "all, and two enabled", text: "csrrs x1, 836, x0", set: func(s *soc.State) {
			three(s)
			s.H.C.Enable, s.H.C.Status = 0x88, 8
		}, want: taken(0x80000003)},
		{name: "all, and all enabled", text: "csrrs x1, 836, x0", set: func(s *soc.State) {
			three(s)
			s.H.C.Enable, s.H.C.Status = 0x888, 8
		}, want: taken(0x8000000b)},
		{name: "a hart that waits", text: "addi x1, x0, 7", set: func(s *soc.State) {
			s.H.Wait = true
			three(s)
		}, want: func(s *soc.State) {}},
		{name: "a hart that waits for one of them", text: "addi x1, x0, 7", set: func(s *soc.State) {
			s.H.Wait, s.H.C.Enable = true, 0x800
			three(s)
		}, want: func(s *soc.State) {
			s.H.Wait, s.H.X[1] = false, 7
			goes(s)
		}},
		{name: "a hart that begins to wait", text: "wfi", want: func(s *soc.State) {
			s.H.Wait = true
			goes(s)
		}},
	})
}

// SO2: the word at Pc is four bytes of memory, and of nothing else.
func TestFetch(t *testing.T) {
	for _, pc := range []uint32{base, base + 4, base + page - 4, base + page, base + 4*page - 4} {
		scene{name: "in memory", text: "", lay: map[uint32][]byte{pc - base: code(t, "addi x1, x0, 7")}, set: func(s *soc.State) {
			s.H.Pc = pc
		}, want: func(s *soc.State) {
			s.H.X[1] = 7
			goes(s)
		}}.play(t)
	}
	for _, pc := range []uint32{0, 4, 0x02000000, 0x02004000, 0x0c000004, 0x10000000, 0x10000004, 0x10010000, 0x10020100, 0x10030000, 0x7ffffffc, base + 4*page, base + 5*page, 0xfffffffc} {
		scene{name: "not in memory", text: "", set: func(s *soc.State) {
			s.H.Pc = pc
		}, want: func(s *soc.State) {
			trap(s, 1, pc)
		}}.play(t)
	}
	playAll(t, []scene{
		{name: "no instruction", text: ".word 0", want: func(s *soc.State) { trap(s, 2, 0) }},
		{name: "a device has the vector", text: "addi x1, x0, 7", set: func(s *soc.State) {
			s.H.C = csr.State{Status: 8, Enable: 8, Vector: 0x02004000}
			s.C.Soft = 1
		}, want: func(s *soc.State) {
			s.H.C = csr.State{Enable: 8, Vector: 0x02004000, Epc: 0x02004000, Cause: 1, Value: 0x02004000}
			s.H.Pc = 0x02004000
		}},
		{name: "a device is not asked by a fetch", text: "", set: func(s *soc.State) {
			s.H.Pc = 0x0c200004
			s.P = plic.State{Priority: [8]uint32{3: 1}, Enable: 8, Pending: 8}
			s.Q.L = []bus.Post{{Dev: bus.Dma, At: 8, N: 4, Value: 1}, {Dev: bus.Dma, At: 8, N: 4, Value: 2}}
		}, want: func(s *soc.State) {
			s.Q.L, s.D.Head = s.Q.L[1:], 1
			trap(s, 1, 0x0c200004)
		}},
	})
}

// SO2: Ticks is one more in each tick, and that is the Tick of what goes out; it turns round.
func TestTicks(t *testing.T) {
	for _, ticks := range []uint64{0, 1, 1<<32 - 1, math.MaxUint64 - 1, math.MaxUint64} {
		s := calm()
		s.Ticks, s.H.Wait = ticks, true
		s.U.Tx, s.U.Wait = uart.Fifo{B: [16]byte{'a', 'b'}, N: 2}, 3
		x, err := soc.Load(laid, s, ram(t, laid.Pages))
		must(t, err)
		for i := range uint64(8) {
			var want []soc.Out
			if i == 0 {
				want = []soc.Out{{Tick: ticks + 1, Kind: soc.Byte, Data: []byte{'a'}}}
			}
			if i == 4 {
				want = []soc.Out{{Tick: ticks + 5, Kind: soc.Byte, Data: []byte{'b'}}}
			}
			if got := x.Tick(); outs(got) != outs(want) {
				t.Errorf("tick %d behind %d: %s, not %s", i, ticks, outs(got), outs(want))
			}
			if got := x.State().Ticks; got != ticks+i+1 {
				t.Errorf("Ticks is %d, not %d", got, ticks+i+1)
			}
		}
	}
}

// joined is the number of two halves.
func joined(high, low uint64) uint64 { return high<<32 + low }

// hartAt is a hart of which a register is a place; the others tell themselves apart.
func hartAt(s *soc.State, r int, place uint32) {
	for i := 1; i < 32; i++ {
		s.H.X[i] = 0xa1b2c300 + uint32(i)*0x01010101
	}
	s.H.X[r] = place
}

// SO2: a load of memory, of each width, at its edges.
func TestLoadMemory(t *testing.T) {
	lay := map[uint32][]byte{page - 4: {1, 2, 3, 0x84}, page: {0xf5, 6, 7, 8}, 4*page - 4: {9, 10, 0xfb, 0xfc}}
	for _, e := range []struct {
		text  string
		place uint32
		v     uint32
	}{
		{"lw x1, 0(x5)", base + page - 4, 0x84030201}, {"lw x1, -4(x5)", base + page + 4, 0x080706f5},
		{"lb x1, 0(x5)", base + page, 0xfffffff5}, {"lbu x1, 0(x5)", base + page, 0xf5}, {"lb x1, 1(x5)", base + page, 6},
		{"lh x1, 2(x5)", base + page - 4, 0xffff8403}, {"lhu x1, 2(x5)", base + page - 4, 0x8403}, {"lh x1, 0(x5)", base + page - 4, 0x201},
		{"lb x1, 3(x5)", base + 4*page - 4, 0xfffffffc}, {"lhu x1, 2(x5)", base + 4*page - 4, 0xfcfb}, {"lw x1, 0(x5)", base + 4*page - 4, 0xfcfb0a09},
	} {
		scene{name: e.text, text: e.text, lay: lay, set: func(s *soc.State) {
			hartAt(s, 5, e.place)
			s.Q.L = []bus.Post{{Dev: bus.Dma, At: 8, N: 4, Value: 1}, {Dev: bus.Dma, At: 8, N: 4, Value: 2}}
		}, want: func(s *soc.State) {
			// Of memory none of the writes need be done; the oldest is, behind the load.
			s.Q.L, s.D.Head = s.Q.L[1:], 1
			s.H.X[1] = e.v
			goes(s)
		}}.play(t)
	}
}

// SO2: places that nobody answers, or not by so many bytes, trap; no write is done ahead of that but the oldest, behind it.
func TestLoadNobody(t *testing.T) {
	for _, e := range []struct {
		text  string
		place uint32
	}{
		{"lw x1, 0(x5)", 0}, {"lb x1, 0(x5)", 0}, {"lw x1, 0(x5)", base - 4}, {"lb x1, 0(x5)", base - 1},
		{"lw x1, 0(x5)", base + 4*page}, {"lb x1, 0(x5)", base + 4*page}, {"lhu x1, 0(x5)", base + 4*page}, {"lw x1, 0(x5)", 0xfffffffc},
		{"lw x1, 0(x5)", 0x02010000}, {"lw x1, 0(x5)", 0x0c400000}, {"lb x1, 0(x5)", 0x10000008}, {"lw x1, 0(x5)", 0x10010100},
		{"lw x1, 0(x5)", 0x10020200}, {"lw x1, 0(x5)", 0x10030200}, {"lw x1, 0(x5)", 0x10000000}, {"lh x1, 0(x5)", 0x10000002},
		{"lb x1, 0(x5)", 0x02000000}, {"lhu x1, 0(x5)", 0x0c200004}, {"lbu x1, 0(x5)", 0x0c200004}, {"lh x1, 0(x5)", 0x10010008},
		{"lb x1, 0(x5)", 0x10020100}, {"lbu x1, 0(x5)", 0x10030100},
	} {
		scene{name: e.text, text: e.text, set: func(s *soc.State) {
			hartAt(s, 5, e.place)
			s.P = plic.State{Priority: [8]uint32{3: 1}, Enable: 8, Pending: 8}
			s.Q.L = []bus.Post{{Dev: bus.Dma, At: 8, N: 4, Value: 1}, {Dev: bus.Dma, At: 8, N: 4, Value: 2}}
		}, want: func(s *soc.State) {
			s.Q.L, s.D.Head = s.Q.L[1:], 1
			trap(s, 5, e.place)
		}}.play(t)
	}
	scene{name: "a place that is no multiple", text: "lw x1, 0(x5)", set: func(s *soc.State) { hartAt(s, 5, 2) }, want: func(s *soc.State) { trap(s, 4, 2) }}.play(t)
}

// full is a state in which each device has something to tell.
func full(s *soc.State) {
	s.C = clint.State{Soft: 1, Time: joined(3, 500), Cmp: joined(never>>32, 7)}
	s.P = plic.State{Priority: [8]uint32{0, 1, 2, 3, 4, 5, 6, 7}, Enable: 0x42, Threshold: 4, Pending: 0x62, Busy: 4}
	s.U = uart.State{Rx: uart.Fifo{B: [16]byte{0x85, 9}, N: 2}, Ier: 5, Lcr: 3, Mcr: 17, Scr: 0xfe}
	s.D = dma.State{Code: dma.Failed, Head: 0x1234, Moved: 99, Steps: 3}
	s.B.P.Irq, s.N.P.Irq, s.N.Lost = 3, 2, 12
	s.P.Pending |= 0x18 // what the devices ask for, so that plic.Level changes nothing
}

// SO2: each device tells what its Read does, as it is then.
func TestLoadDevices(t *testing.T) {
	for _, e := range []struct {
		text  string
		place uint32
		v     uint32
		want  func(s *soc.State)
	}{
		{"lw x1, 0(x5)", 0x02000000, 1, nil}, {"lw x1, 0(x5)", 0x02004000, 7, nil}, {"lw x1, 4(x5)", 0x02004000, never >> 32, nil},
		{"lw x1, 0(x5)", 0x0200bff8, 501, nil}, {"lw x1, 4(x5)", 0x0200bff8, 3, nil},
		{"lw x1, 28(x5)", 0x0c000000, 7, nil}, {"lw x1, 0(x5)", 0x0c001000, 0x7a, nil}, {"lw x1, 0(x5)", 0x0c002000, 0x42, nil},
		{"lw x1, 0(x5)", 0x0c200000, 4, nil}, {"lw x1, 4(x5)", 0x0c200000, 6, func(s *soc.State) { s.P.Pending, s.P.Busy = 0x3a, 0x44 }},
		{"lb x1, 0(x5)", 0x10000000, 0xffffff85, func(s *soc.State) { s.U.Rx = uart.Fifo{B: [16]byte{9}, N: 1} }},
		{"lbu x1, 0(x5)", 0x10000000, 0x85, func(s *soc.State) { s.U.Rx = uart.Fifo{B: [16]byte{9}, N: 1} }},
		{"lbu x1, 1(x5)", 0x10000000, 5, nil}, {"lbu x1, 2(x5)", 0x10000000, 196, nil}, {"lb x1, 7(x5)", 0x10000000, 0xfffffffe, nil},
		{"lw x1, 4(x5)", 0x10010000, 3, nil}, {"lw x1, 8(x5)", 0x10010000, 0x1234, nil}, {"lw x1, 12(x5)", 0x10010000, 99, nil}, {"lw x1, 252(x5)", 0x10010000, 0, nil},
		{"lw x1, 0(x5)", 0x10020000, 0x74726976, nil}, {"lw x1, 8(x5)", 0x10020000, 2, nil}, {"lw x1, 96(x5)", 0x10020000, 3, nil}, {"lw x1, 256(x5)", 0x10020000, 100, nil},
		{"lw x1, 8(x5)", 0x10030000, 1, nil}, {"lw x1, 96(x5)", 0x10030000, 2, nil}, {"lw x1, 256(x5)", 0x10030000, 12, nil},
	} {
		scene{name: e.text, text: e.text, set: func(s *soc.State) {
			full(s)
			hartAt(s, 5, e.place)
		}, want: func(s *soc.State) {
			s.P.Pending |= 2 // the port asks
			s.H.X[1] = e.v
			if e.want != nil {
				e.want(s)
			}
			goes(s)
		}}.play(t)
	}
}

// SO2: ahead of a device's load all writes that wait are done, one behind the other, to whichever device; an error of the
// load is a trap, behind these.
func TestLoadBehindWrites(t *testing.T) {
	waiting := []bus.Post{
		{Dev: bus.Dma, At: 8, N: 4, Value: 1}, {Dev: bus.Uart, At: 7, N: 1, Value: 5}, {Dev: bus.Clint, At: 0x4000, N: 4, Value: 9},
		{Dev: bus.Plic, At: 12, N: 4, Value: 4}, {Dev: bus.Dma, At: 8, N: 4, Value: 2}, {Dev: bus.Uart, At: 0, N: 1, Value: 'z'},
		{Dev: bus.Blk, At: 0x30, N: 4, Value: 6}, {Dev: bus.Nic, At: 0x30, N: 4, Value: 8},
	}
	done := func(s *soc.State) {
		s.Q.L, s.D.Head, s.C.Cmp, s.P.Priority[3] = nil, 2, joined(never>>32, 9), 4
		s.U.Scr, s.U.Tx, s.U.Wait = 5, uart.Fifo{B: [16]byte{'z'}, N: 1}, 1
		s.B.P.Sel, s.N.P.Sel = 6, 8
	}
	for _, e := range []struct {
		text  string
		place uint32
		v     uint32
	}{
		{"lw x1, 8(x5)", 0x10010000, 2}, {"lbu x1, 7(x5)", 0x10000000, 5}, {"lbu x1, 5(x5)", 0x10000000, 0}, {"lw x1, 0(x5)", 0x02004000, 9},
		{"lw x1, 12(x5)", 0x0c000000, 4}, {"lw x1, 256(x5)", 0x10020000, 100}, {"lw x1, 256(x5)", 0x10030000, 0},
	} {
		scene{name: e.text, text: e.text, set: func(s *soc.State) {
			hartAt(s, 5, e.place)
			s.Q.L = waiting
		}, want: func(s *soc.State) {
			done(s)
			s.H.X[1] = e.v
			goes(s)
		}}.play(t)
	}
	for _, place := range []uint32{0x02000004, 0x0200c000, 0x0c000020, 0x0c200008} {
		scene{name: "no register", text: "lw x1, 0(x5)", set: func(s *soc.State) {
			hartAt(s, 5, place)
			s.Q.L = waiting
		}, want: func(s *soc.State) {
			done(s)
			trap(s, 5, place)
		}}.play(t)
	}
}

// SO2: a store of memory is done at once, by each width, ahead of what waits.
func TestStoreMemory(t *testing.T) {
	for _, e := range []struct {
		text  string
		place uint32
		at    uint32
		b     []byte
	}{
		{"sw x6, 0(x5)", base + page - 4, page - 4, []byte{6, 0xc9, 0xb8, 0xa7}}, {"sh x6, 2(x5)", base + page, page + 2, []byte{6, 0xc9}},
		{"sb x6, 3(x5)", base + 2*page, 2*page + 3, []byte{6}}, {"sw x6, -4(x5)", base + 4*page, 4*page - 4, []byte{6, 0xc9, 0xb8, 0xa7}},
		{"sh x6, -2(x5)", base + 4*page, 4*page - 2, []byte{6, 0xc9}}, {"sb x6, -1(x5)", base + 4*page, 4*page - 1, []byte{6}},
		{"sw x0, 16(x5)", base, 16, []byte{0, 0, 0, 0}},
	} {
		scene{name: e.text, text: e.text, set: func(s *soc.State) {
			hartAt(s, 5, e.place)
			s.H.X[6] = 0xa7b8c906
			s.Q.L = slices.Repeat([]bus.Post{{Dev: bus.Dma, At: 8, N: 4, Value: 1}}, 8)
		}, want: func(s *soc.State) {
			s.Q.L, s.D.Head = s.Q.L[1:], 1
			goes(s)
		}, mem: map[uint32][]byte{e.at: e.b}}.play(t)
	}
}

// SO2: a store that nobody takes, or not by so many bytes, traps, and does not wait.
func TestStoreNobody(t *testing.T) {
	for _, e := range []struct {
		text  string
		place uint32
	}{
		{"sw x6, 0(x5)", 0}, {"sb x6, 0(x5)", base - 1}, {"sw x6, 0(x5)", base + 4*page}, {"sb x6, 0(x5)", base + 4*page},
		{"sw x6, 0(x5)", 0x02010000}, {"sw x6, 0(x5)", 0x10000000}, {"sh x6, 0(x5)", 0x10000002}, {"sb x6, 0(x5)", 0x10000008},
		{"sb x6, 0(x5)", 0x02000000}, {"sh x6, 0(x5)", 0x0c000004}, {"sb x6, 0(x5)", 0x10010008}, {"sh x6, 0(x5)", 0x10020030},
		{"sw x6, 0(x5)", 0x10030200}, {"sw x6, 0(x5)", 0xfffffffc},
	} {
		for _, n := range []int{0, 1, 8} {
			scene{name: e.text, text: e.text, set: func(s *soc.State) {
				hartAt(s, 5, e.place)
				s.Q.L = slices.Repeat([]bus.Post{{Dev: bus.Dma, At: 8, N: 4, Value: 1}}, n)
			}, want: func(s *soc.State) {
				if n > 0 {
					s.Q.L, s.D.Head = s.Q.L[1:], 1
				}
				trap(s, 7, e.place)
			}}.play(t)
		}
	}
	scene{name: "a place that is no multiple", text: "sh x6, 0(x5)", set: func(s *soc.State) { hartAt(s, 5, 0x10000001) }, want: func(s *soc.State) { trap(s, 6, 0x10000001) }}.play(t)
}

// SO2: a store to a device waits behind the others; where eight wait, all of them are done ahead. The oldest one is done
// behind the hart's step.
func TestStoreWaits(t *testing.T) {
	heads := func(n int) []bus.Post {
		var l []bus.Post
		for i := range n {
			l = append(l, bus.Post{Dev: bus.Dma, At: 8, N: 4, Value: uint32(i + 1)})
		}
		return l
	}
	stored := bus.Post{Dev: bus.Plic, At: 0x2000, N: 4, Value: 0xa7b8c9d6}
	for n := range 8 {
		scene{name: "fewer than eight", text: "sw x6, 0(x5)", set: func(s *soc.State) {
			hartAt(s, 5, 0x0c002000)
			s.H.X[6] = 0xa7b8c9d6
			s.Q.L = heads(n)
		}, want: func(s *soc.State) {
			goes(s)
			if n == 0 {
				s.P.Enable = 0xd6
				return
			}
			s.D.Head = 1
			s.Q.L = append(heads(n)[1:], stored)
		}}.play(t)
	}
	scene{name: "eight", text: "sw x6, 0(x5)", set: func(s *soc.State) {
		hartAt(s, 5, 0x0c002000)
		s.H.X[6] = 0xa7b8c9d6
		s.Q.L = heads(8)
	}, want: func(s *soc.State) {
		goes(s)
		s.Q.L, s.D.Head, s.P.Enable = nil, 8, 0xd6
	}}.play(t)
	scene{name: "eight, of which it is the last that counts", text: "sw x6, 0(x5)", set: func(s *soc.State) {
		hartAt(s, 5, 0x10010008)
		s.Q.L = heads(8)
	}, want: func(s *soc.State) {
		goes(s)
		s.Q.L, s.D.Head = nil, s.H.X[6]
	}}.play(t)
}

// SO2: what waits is the value's lowest bytes, by the place in the device.
func TestStoreValue(t *testing.T) {
	for _, e := range []struct {
		text  string
		place uint32
		p     bus.Post
	}{
		{"sb x6, 3(x5)", 0x10000000, bus.Post{Dev: bus.Uart, At: 3, N: 1, Value: 0xd6}},
		{"sw x6, 4(x5)", 0x02004000, bus.Post{Dev: bus.Clint, At: 0x4004, N: 4, Value: 0xa7b8c9d6}},
		{"sw x6, 4(x5)", 0x0c200000, bus.Post{Dev: bus.Plic, At: 0x200004, N: 4, Value: 0xa7b8c9d6}},
		{"sw x6, 252(x5)", 0x10010000, bus.Post{Dev: bus.Dma, At: 252, N: 4, Value: 0xa7b8c9d6}},
		{"sw x6, 508(x5)", 0x10020000, bus.Post{Dev: bus.Blk, At: 508, N: 4, Value: 0xa7b8c9d6}},
		{"sw x6, 80(x5)", 0x10030000, bus.Post{Dev: bus.Nic, At: 80, N: 4, Value: 0xa7b8c9d6}},
	} {
		scene{name: e.text, text: e.text, set: func(s *soc.State) {
			hartAt(s, 5, e.place)
			s.H.X[6] = 0xa7b8c9d6
			s.Q.L = []bus.Post{{Dev: bus.Dma, At: 8, N: 4, Value: 1}}
		}, want: func(s *soc.State) {
			goes(s)
			s.Q.L, s.D.Head = []bus.Post{e.p}, 1
		}}.play(t)
	}
}

// SO2: the oldest write is done in each tick, also while the hart waits, or traps; an error of it is nothing.
func TestOldest(t *testing.T) {
	last := bus.Post{Dev: bus.Clint, At: 0, N: 4, Value: 1}
	for _, e := range []struct {
		name string
		p    bus.Post
		want func(s *soc.State)
	}{
		{"Soft", bus.Post{Dev: bus.Clint, At: 0, N: 4, Value: 3}, func(s *soc.State) { s.C.Soft = 1 }},
		{"Time", bus.Post{Dev: bus.Clint, At: 0xbff8, N: 4, Value: 3}, func(s *soc.State) { s.C.Time = 3 }},
		{"a priority", bus.Post{Dev: bus.Plic, At: 4, N: 4, Value: 15}, func(s *soc.State) { s.P.Priority[1] = 7 }},
		{"the port", bus.Post{Dev: bus.Uart, At: 7, N: 1, Value: 0x1234}, func(s *soc.State) { s.U.Scr = 0x34 }},
		{"the engine", bus.Post{Dev: bus.Dma, At: 8, N: 4, Value: 0x1234}, func(s *soc.State) { s.D.Head = 0x1234 }},
		{"the disk", bus.Post{Dev: bus.Blk, At: 0x70, N: 4, Value: 3}, func(s *soc.State) { s.B.P.Status = 3 }},
		{"the net device", bus.Post{Dev: bus.Nic, At: 0x70, N: 4, Value: 3}, func(s *soc.State) { s.N.P.Status = 3 }},
		{"no register of the timer", bus.Post{Dev: bus.Clint, At: 4, N: 4, Value: 3}, nil},
		{"no register of the plic", bus.Post{Dev: bus.Plic, At: 0x3000, N: 4, Value: 3}, nil},
		{"a register of the engine that is nothing", bus.Post{Dev: bus.Dma, At: 20, N: 4, Value: 3}, nil},
		{"a register of the disk that is nothing", bus.Post{Dev: bus.Blk, At: 0x100, N: 4, Value: 3}, nil},
		{"a register of the net device that is nothing", bus.Post{Dev: bus.Nic, At: 0x100, N: 4, Value: 3}, nil},
	} {
		for _, wait := range []bool{true, false} {
			scene{name: e.name, text: ".word 0", set: func(s *soc.State) {
				s.H.Wait = wait
				s.Q.L = []bus.Post{e.p, last}
			}, want: func(s *soc.State) {
				s.Q.L = []bus.Post{last}
				if e.want != nil {
					e.want(s)
				}
				if !wait {
					trap(s, 2, 0)
				}
			}}.play(t)
		}
	}
}

// SO2: eight stores one behind the other, each of which is done in its own tick, and a load of what they made.
func TestStoresInTurn(t *testing.T) {
	x, err := soc.New(laid, words(t, "lui x5, 65552\naddi x6, x0, 9\nsw x6, 8(x5)\nlw x7, 8(x5)\naddi x6, x0, 11\nsw x6, 8(x5)\nlw x8, 8(x5)"))
	must(t, err)
	for range 7 {
		x.Tick()
		if l := x.State().Q.L; len(l) != 0 {
			t.Errorf("a write waits: %v", l)
		}
	}
	want := hart.State{Pc: base + 28, C: csr.State{Count: 7}}
	want.X[5], want.X[6], want.X[7], want.X[8] = 0x10010000, 11, 9, 11
	if got := x.State(); got.H != want || got.D.Head != 11 {
		t.Errorf("%+v, %d, not %+v, 11", got.H, got.D.Head, want)
	}
}
