package soc_test

import (
	"bytes"
	"slices"
	"testing"

	"pinnace/api"
	"pinnace/blk"
	"pinnace/bus"
	"pinnace/clint"
	"pinnace/dma"
	"pinnace/mem"
	"pinnace/plic"
	"pinnace/ring"
	"pinnace/soc"
	"pinnace/uart"
)

// loaded is a machine of a state, with what a driver laid.
func loaded(t *testing.T, s soc.State, d driver) *soc.Machine {
	t.Helper()
	m := ram(t, laid.Pages)
	for place, b := range d {
		must(t, m.Write(place, b))
	}
	m.Harvest()
	x, err := soc.Load(laid, s, m)
	must(t, err)
	return x
}

// SO3: a byte that comes waits in the port; behind sixteen it is lost, which is no error.
func TestPut(t *testing.T) {
	x := loaded(t, busy(), nil)
	want := busy()
	for i := range byte(18) {
		must(t, x.Put(100+i))
		if i < 14 {
			want.U.Rx.B[2+i] = 100 + i
			want.U.Rx.N++
		}
		want.U.Over = true
		isState(t, "a byte came", x, want)
	}
	x = loaded(t, calm(), nil)
	for i := range 17 {
		must(t, x.Put('a'))
		if got := x.State().U; got.Over != (i == 16) || got.Rx.N != min(i+1, 16) {
			t.Errorf("behind %d bytes: %+v", i+1, got)
		}
	}
}

// SO3: a frame that comes is laid into memory, if there is room, and else lost; what can be no frame is an error, and
// changes nothing.
func TestFrame(t *testing.T) {
	q := live(2).Q[0].R
	d := driver{}
	d.offer(q, 0, 5, []ring.Seg{{At: base + data, N: 100, Write: true}})
	s := busy()
	s.N.P.Irq, s.N.P.Sel = 0, 9
	x := loaded(t, s, d)
	want := s
	for _, b := range [][]byte{nil, {}, row(1515), row(5000)} {
		is, err := x.Frame(b)
		refused(t, "no frame", err, api.ErrLong)
		isState(t, "no frame", x, want)
		if is {
			t.Errorf("a frame of %d bytes was taken", len(b))
		}
	}
	frame := []byte{7, 8, 9}
	is, err := x.Frame(frame)
	must(t, err)
	want.N.P.Q[0].R.Last, want.N.P.Q[0].R.Put, want.N.P.Irq = 1, 1, 1
	isState(t, "taken", x, want)
	frame[0] = 1
	got, err := x.Mem().Read(data, 16)
	must(t, err)
	if !is || !bytes.Equal(got, []byte{0, 0, 0, 0, 0, 0, 0, 0, 0, 0, 1, 0, 7, 8, 9, 0}) || frame[1] != 8 {
		t.Errorf("%v, and in memory stands %v", is, got)
	}
	is, err = x.Frame(row(1514))
	must(t, err)
	want.N.Lost++
	isState(t, "lost", x, want)
	if is {
		t.Error("a frame was taken, for which there is no room")
	}
	y := loaded(t, calm(), nil)
	if is, err := y.Frame([]byte{1}); is || err != nil || y.State().N.Lost != 1 {
		t.Errorf("a device that does not work: %v, %v, %d lost", is, err, y.State().N.Lost)
	}
}

// asked is a machine of which two requests wait for the disk: 4, that reads, and 6, that writes.
func asked(t *testing.T) (*soc.Machine, soc.State) {
	t.Helper()
	s := busy()
	s.B.In = []blk.Req{request(4), {ID: 6, Head: 8, Write: true, Sector: 1, N: 1024, L: []ring.Seg{{At: base + data + 700, N: 1, Write: true}}}}
	return loaded(t, s, driver{data + 700: {9}}), s
}

// SO3: the disk's answer ends a request; which error it is, and that it changes nothing.
func TestFinish(t *testing.T) {
	x, want := asked(t)
	used := live(1).Q[0].R.Used - base
	bytesThen := all(t, x.Mem())
	for _, e := range []struct {
		name string
		id   uint32
		ok   bool
		data []byte
		err  api.Errno
	}{
		{"no such request", 5, true, make([]byte, 512), api.ErrNone},
		{"no such request that failed", 5, false, nil, api.ErrNone},
		{"no such request, and too many bytes", 9, true, make([]byte, 5000), api.ErrNone},
		{"too few bytes", 4, true, make([]byte, 511), api.ErrLong},
		{"too many bytes", 4, true, make([]byte, 513), api.ErrLong},
		{"no bytes", 4, true, nil, api.ErrLong},
		{"bytes of a write", 6, true, make([]byte, 1024), api.ErrLong},
	} {
		refused(t, e.name, x.Finish(e.id, e.ok, e.data), e.err)
		isState(t, e.name, x, want)
		if !bytes.Equal(all(t, x.Mem()), bytesThen) {
			t.Errorf("%s: memory was written", e.name)
		}
	}
	b := row(512)
	must(t, x.Finish(4, true, b))
	b[0] ^= 0xff
	want.B.In = want.B.In[1:]
	want.B.P.Irq, want.B.P.Q[0].R.Put = 1, 1
	copy(bytesThen[data:], append(row(512), 0))
	copy(bytesThen[used+2:], slices.Concat(little(1, 2), little(3, 4), little(513, 4)))
	isState(t, "a read", x, want)
	must(t, x.Finish(6, true, nil))
	want.B.In, want.B.P.Q[0].R.Put = nil, 2
	copy(bytesThen[data+700:], []byte{0})
	copy(bytesThen[used+2:], little(2, 2))
	copy(bytesThen[used+12:], slices.Concat(little(8, 4), little(1, 4)))
	isState(t, "a write", x, want)
	if !bytes.Equal(all(t, x.Mem()), bytesThen) || b[0] == row(1)[0] {
		t.Error("memory is not as the answers let it")
	}
	refused(t, "it was answered", x.Finish(6, true, nil), api.ErrNone)
	x, want = asked(t)
	must(t, x.Finish(4, false, row(3)))
	want.B.In = want.B.In[1:]
	want.B.P.Irq, want.B.P.Q[0].R.Put = 1, 1
	isState(t, "it failed", x, want)
	if c, err := x.Mem().Load(data+512, 1); c != 1 || err != nil {
		t.Errorf("the status is %d, %v, not 1", c, err)
	}
}

// SO3: State's answer is new, and so is what it was made of.
func TestState(t *testing.T) {
	x := loaded(t, busy(), nil)
	s := x.State()
	s.Q.L[0].Value, s.B.In[0].ID, s.B.In[1].L[0].N = 1, 1, 1
	s.Q.L = append(s.Q.L[:1], bus.Post{}, bus.Post{}, bus.Post{})
	s.B.In = append(s.B.In[:1], blk.Req{})
	s.B.In[0].L = append(s.B.In[0].L, ring.Seg{})
	s.Ticks, s.H.X[1] = 0, 0
	isState(t, "the answer was changed", x, busy())
	y := loaded(t, busy(), nil)
	s = y.State()
	y.Tick()
	must(t, y.Finish(2, false, nil))
	if told(s) != told(busy()) {
		t.Errorf("the answer became %s", told(s))
	}
}

// SO3: a clone is the same, and goes its own way: its state, its lists, its memory; so does the machine that it is of.
func TestClone(t *testing.T) {
	for _, swap := range []bool{false, true} {
		x := loaded(t, busy(), driver{data: {1}})
		must(t, x.Mem().Write(page, []byte{5}))
		must(t, x.Mem().Write(3*page, []byte{6}))
		y := x.Clone()
		if !soc.Same(x, y) || y.Config() != laid || y.Mem() == x.Mem() || !slices.Equal(y.Mem().Dirty(), []int{1, 3}) || y.Mem().Writes() != x.Mem().Writes() {
			t.Errorf("the clone is another one: %+v, dirty are %v", y.Config(), y.Mem().Dirty())
		}
		isState(t, "the clone", y, busy())
		if swap {
			x, y = y, x
		}
		before := all(t, x.Mem())
		for range 20 {
			y.Tick()
		}
		must(t, y.Put('q'))
		must(t, y.Finish(4, true, row(512)))
		y.Mem().Harvest()
		must(t, y.Mem().Write(2*page, row(10)))
		isState(t, "the other one went on", x, busy())
		if !bytes.Equal(all(t, x.Mem()), before) || !slices.Equal(x.Mem().Dirty(), []int{1, 3}) || soc.Same(x, y) {
			t.Errorf("its memory went along: dirty are %v", x.Mem().Dirty())
		}
	}
}

// differences are what makes another state of a busy one, each in one place.
var differences = []struct {
	name  string
	other func(s *soc.State)
}{
	{"Ticks", func(s *soc.State) { s.Ticks++ }},
	{"Pc", func(s *soc.State) { s.H.Pc += 4 }},
	{"a register", func(s *soc.State) { s.H.X[31]++ }},
	{"Wait", func(s *soc.State) { s.H.Wait = false }},
	{"Scratch", func(s *soc.State) { s.H.C.Scratch++ }},
	{"Count", func(s *soc.State) { s.H.C.Count++ }},
	{"a write's value", func(s *soc.State) { s.Q.L[1].Value++ }},
	{"a write's place", func(s *soc.State) { s.Q.L[0].At = 12 }},
	{"a write's device", func(s *soc.State) { s.Q.L[0].Dev = bus.Blk }},
	{"a write more", func(s *soc.State) { s.Q.L = append(s.Q.L, s.Q.L[0]) }},
	{"a write less", func(s *soc.State) { s.Q.L = s.Q.L[:1] }},
	{"no write", func(s *soc.State) { s.Q.L = nil }},
	{"the writes' order", func(s *soc.State) { slices.Reverse(s.Q.L) }},
	{"Soft", func(s *soc.State) { s.C.Soft = 0 }},
	{"Time", func(s *soc.State) { s.C.Time++ }},
	{"Cmp", func(s *soc.State) { s.C.Cmp++ }},
	{"a priority", func(s *soc.State) { s.P.Priority[3]++ }},
	{"Pending", func(s *soc.State) { s.P.Pending = 0 }},
	{"Busy", func(s *soc.State) { s.P.Busy = 0 }},
	{"Rx", func(s *soc.State) { s.U.Rx.B[0]++ }},
	{"Tx", func(s *soc.State) { s.U.Tx.N++ }},
	{"Scr", func(s *soc.State) { s.U.Scr++ }},
	{"Over", func(s *soc.State) { s.U.Over = false }},
	{"Moved", func(s *soc.State) { s.D.Moved++ }},
	{"Left", func(s *soc.State) { s.D.Left++ }},
	{"the disk's setting", func(s *soc.State) { s.B.P.Irq = 1 }},
	{"the disk's ring", func(s *soc.State) { s.B.P.Q[0].R.Last++ }},
	{"the disk's bell", func(s *soc.State) { s.B.Bell = false }},
	{"Next", func(s *soc.State) { s.B.Next++ }},
	{"a request's ID", func(s *soc.State) { s.B.In[0].ID++ }},
	{"a request's head", func(s *soc.State) { s.B.In[0].Head++ }},
	{"a request's kind", func(s *soc.State) { s.B.In[0].Write = true }},
	{"a request's sector", func(s *soc.State) { s.B.In[1].Sector++ }},
	{"a request's bytes", func(s *soc.State) { s.B.In[1].N, s.B.In[1].L[0].N = 1024, 1025 }},
	{"a write's bytes", func(s *soc.State) { s.B.In[0].Write, s.B.In[0].N = true, 1024 }},
	{"a request's part", func(s *soc.State) { s.B.In[1].L[0].At++ }},
	{"a request of a part more", func(s *soc.State) { s.B.In[0].L = append(s.B.In[0].L, ring.Seg{At: base, Write: true}) }},
	{"a request less", func(s *soc.State) { s.B.In = s.B.In[1:] }},
	{"no request", func(s *soc.State) { s.B.In = nil }},
	{"the requests' order", func(s *soc.State) { slices.Reverse(s.B.In) }},
	{"the net device's setting", func(s *soc.State) { s.N.P.Sel++ }},
	{"the net device's bell", func(s *soc.State) { s.N.Bell = false }},
	{"Lost", func(s *soc.State) { s.N.Lost++ }},
}

// SO3: what is the same is: configs, states, all bytes of memory; dirty pages alone are nothing.
func TestSame(t *testing.T) {
	isSame := func(what string, x, y *soc.Machine, want bool) {
		t.Helper()
		if soc.Same(x, y) != want || soc.Same(y, x) != want {
			t.Errorf("%s: %v and %v, not %v", what, soc.Same(x, y), soc.Same(y, x), want)
		}
	}
	x := loaded(t, busy(), driver{data: {1}})
	isSame("itself", x, x, true)
	isSame("another one", x, loaded(t, busy(), driver{data: {1}}), true)
	for _, e := range differences {
		s := busy()
		e.other(&s)
		isSame(e.name, x, loaded(t, s, driver{data: {1}}), false)
		isSame(e.name+", of both", loaded(t, s, nil), loaded(t, s, nil), true)
	}
	for _, place := range []uint32{0, page, data + 1, 4*page - 1} {
		isSame("a byte of memory", x, loaded(t, busy(), driver{data: {1}, place: {1}}), false)
	}
	isSame("a byte less", x, loaded(t, busy(), nil), false)
	y := loaded(t, busy(), driver{data: {1}})
	must(t, y.Mem().Write(data, []byte{1}))
	must(t, y.Mem().Write(page, []byte{0}))
	isSame("dirty pages", x, y, true)
	writes := [2]soc.State{busy(), busy()}
	for i := range writes {
		writes[i].B.In[0].Write, writes[i].B.In[0].N = true, 512*(i+1)
	}
	isSame("the bytes of a request that writes", loaded(t, writes[0], nil), loaded(t, writes[1], nil), false)
	var more [3]*soc.Machine
	for i, c := range []soc.Config{{Pages: 4, Sectors: 5}, {Pages: 5, Sectors: 5}, {Pages: 4, Sectors: 6}} {
		var err error
		more[i], err = soc.New(c, nil)
		must(t, err)
	}
	isSame("more pages", more[0], more[1], false)
	isSame("more sectors", more[0], more[2], false)
	isSame("one that is not there", x, nil, false)
	isSame("none that is there", nil, nil, false)
}

// Nil and the empty list are the same.
func TestSameOfNothing(t *testing.T) {
	s, o := calm(), calm()
	s.Q.L, s.B.In = []bus.Post{}, []blk.Req{}
	if x, y := loaded(t, s, nil), loaded(t, o, nil); !soc.Same(x, y) || !soc.Same(y, x) {
		t.Error("lists of nothing are not the same")
	}
	s.B.P, s.B.Next = live(1), 1
	o.B.P, o.B.Next = live(1), 1
	l := []ring.Seg{{At: base, N: 513, Write: true}}
	s.B.In, o.B.In = []blk.Req{{N: 512, L: append(l, ring.Seg{Write: true})}}, []blk.Req{{N: 512, L: slices.Clone(l)}}
	if soc.Same(loaded(t, s, nil), loaded(t, o, nil)) {
		t.Error("a part of no bytes is nothing")
	}
}

// idle is a state that waits, though much of it is not as at first: a disk that is full, a line that is not enabled.
func idle() soc.State {
	s := busy()
	s.Q.L = nil
	s.C.Soft, s.C.Cmp = 1, 0
	s.H.C.Enable = 0x800
	s.P = plic.State{Priority: [8]uint32{1: 1}, Enable: 2, Pending: 4}
	s.U.Tx, s.U.Wait = uart.Fifo{}, 0
	s.D = dma.State{Code: dma.Done, Asks: true}
	s.B.In = nil
	for i := range uint32(8) {
		s.B.In = append(s.B.In, request(20+i))
	}
	s.N.Bell = false
	return s
}

// SO3: when a machine waits, and each reason for which it does not.
func TestWaits(t *testing.T) {
	for _, e := range []struct {
		name  string
		set   func(s *soc.State)
		waits bool
	}{
		{"idle", func(s *soc.State) {}, true},
		{"at first, but for Wait", func(s *soc.State) {
			*s = atFirst(laid)
			s.H.Wait = true
		}, true},
		{"the hart does not wait", func(s *soc.State) { s.H.Wait = false }, false},
		{"the hart does not wait, and nothing asks", func(s *soc.State) { *s = calm() }, false},
		{"the timer is enabled", func(s *soc.State) { s.H.C.Enable = 0x80 }, false},
		{"software is enabled", func(s *soc.State) { s.H.C.Enable = 8 }, false},
		{"all are enabled", func(s *soc.State) { s.H.C.Enable = 0x888 }, false},
		{"they are, and interrupts are off", func(s *soc.State) { s.H.C.Enable, s.H.C.Status = 0x88, 0 }, false},
		{"they are, and ask no more", func(s *soc.State) { s.H.C.Enable, s.C = 0x888, clint.State{Cmp: never} }, true},
		{"a source waits that is enabled", func(s *soc.State) { s.P.Pending = 2 }, false},
		{"a source waits below the threshold", func(s *soc.State) { s.P.Pending, s.P.Threshold = 2, 1 }, true},
		{"a source waits, and the line is not enabled", func(s *soc.State) { s.P.Pending, s.H.C.Enable = 2, 0 }, true},
		{"a source will wait", func(s *soc.State) { s.U.Ier = 1 }, true},
		{"a write waits", func(s *soc.State) { s.Q.L = busy().Q.L[:1] }, false},
		{"a byte goes out", func(s *soc.State) { s.U.Tx = uart.Fifo{B: [16]byte{1}, N: 1} }, false},
		{"a byte of nought goes out", func(s *soc.State) { s.U.Tx.N = 1 }, false},
		{"a byte came", func(s *soc.State) { s.U.Rx = uart.Fifo{B: [16]byte{1}, N: 1} }, true},
		{"the engine works", func(s *soc.State) { s.D = dma.State{Code: dma.Busy} }, false},
		{"the engine failed", func(s *soc.State) { s.D = dma.State{Code: dma.Failed} }, true},
		{"the engine is idle", func(s *soc.State) { s.D = dma.State{} }, true},
		{"the disk's bell, and seven wait", func(s *soc.State) { s.B.In = s.B.In[1:] }, false},
		{"the disk's bell, and none waits", func(s *soc.State) { s.B.In = nil }, false},
		{"no bell, and seven wait", func(s *soc.State) { s.B.In, s.B.Bell = s.B.In[1:], false }, true},
		{"no bell, and eight wait", func(s *soc.State) { s.B.Bell = false }, true},
		{"no bell, and none waits", func(s *soc.State) { s.B.In, s.B.Bell = nil, false }, true},
		{"the net device's bell", func(s *soc.State) { s.N.Bell = true }, false},
		{"the net device's bell, though it does not work", func(s *soc.State) { s.N.Bell, s.N.P.Status = true, 0 }, false},
	} {
		s := idle()
		e.set(&s)
		x := loaded(t, s, nil)
		if got := x.Waits(); got != e.waits {
			t.Errorf("%s: %v, not %v", e.name, got, e.waits)
		}
		isState(t, e.name, x, s)
	}
}

// While a machine waits, a tick that wakes nobody changes Time and Ticks, and what plic.Level makes of the sources, alone.
func TestWaitingTick(t *testing.T) {
	s := idle()
	s.U.Ier, s.B.P.Irq = 0, 1
	x := loaded(t, s, nil)
	for range 10 {
		if out := x.Tick(); len(out) != 0 || !x.Waits() {
			t.Errorf("out goes %s, and Waits is %v", outs(out), x.Waits())
		}
		s.Ticks++
		s.C.Time++
		s.P.Pending = 12
		isState(t, "a tick", x, s)
	}
}

// SO3: a machine that is not there is ErrArg, and nothing.
func TestNil(t *testing.T) {
	var x *soc.Machine
	is, err := x.Frame([]byte{1})
	refused(t, "Frame", err, api.ErrArg)
	is2, err := x.Frame(nil)
	refused(t, "Frame of nothing", err, api.ErrArg)
	refused(t, "Put", x.Put(1), api.ErrArg)
	refused(t, "Finish", x.Finish(0, true, nil), api.ErrArg)
	refused(t, "Finish of too many bytes", x.Finish(7, true, row(9)), api.ErrArg)
	if is || is2 || x.Tick() != nil || told(x.State()) != told(soc.State{}) || x.Mem() != (*mem.Ram)(nil) || x.Config() != (soc.Config{}) || x.Clone() != nil || x.Waits() || soc.Same(x, x) {
		t.Error("a machine that is not there answers something")
	}
}
