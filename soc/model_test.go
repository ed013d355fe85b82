package soc_test

import (
	"fmt"
	"math/rand"
	"reflect"
	"slices"
	"testing"

	"pinnace/blk"
	"pinnace/bus"
	"pinnace/clint"
	"pinnace/csr"
	"pinnace/dma"
	"pinnace/hart"
	"pinnace/inst"
	"pinnace/mem"
	"pinnace/nic"
	"pinnace/plic"
	"pinnace/ring"
	"pinnace/soc"
	"pinnace/uart"
)

// second is a machine after the chapter's words: it knows by itself where the devices lie, which sources and lines ask,
// and keeps the writes that wait in a list.
type second struct {
	s     soc.State
	m     *mem.Ram
	posts []bus.Post
	seen  map[string]int
}

// lies is where devices lie: a first place, and the one behind the last.
var lies = [][2]uint64{
	bus.Clint: {0x02000000, 0x02010000}, bus.Plic: {0x0c000000, 0x0c400000}, bus.Uart: {0x10000000, 0x10000008},
	bus.Dma: {0x10010000, 0x10010100}, bus.Blk: {0x10020000, 0x10020200}, bus.Nic: {0x10030000, 0x10030200},
}

// where is the device that a place means, and the place in it; 0: none, or not by so many bytes.
func (x *second) where(at uint32, n int) (int, uint32) {
	place := uint64(at)
	if place >= base && place+uint64(n) <= base+uint64(x.m.Pages()*page) {
		return 7, at - base
	}
	for dev, l := range lies {
		if place >= l[0] && place+uint64(n) <= l[1] && (n == 4) != (dev == 3) && n != 2 {
			return dev, uint32(place - l[0])
		}
	}
	return 0, 0
}

// ask is a device's answer; false: an error.
func (x *second) ask(dev int, at uint32) (uint32, bool) {
	var v uint32
	var c byte
	err := error(nil)
	s := x.s
	switch dev {
	case 1:
		v, err = clint.Read(s.C, at)
	case 2:
		s.P, v, err = plic.Read(s.P, at)
	case 3:
		s.U, c, err = uart.Read(s.U, at)
		v = uint32(c)
	case 4:
		v, err = dma.Read(s.D, at)
	case 5:
		v, err = blk.Read(s.B, at)
	case 6:
		v, err = nic.Read(s.N, at)
	}
	if err != nil {
		x.seen["a device's error"]++
		return 0, false
	}
	x.s = s
	x.seen[fmt.Sprintf("load of %d", dev)]++
	return v, true
}

// tell does the oldest writes that wait, n of them at most.
func (x *second) tell(n int) {
	for ; n > 0 && len(x.posts) > 0; n-- {
		p := x.posts[0]
		x.posts = x.posts[1:]
		s := x.s
		err := error(nil)
		switch p.Dev {
		case 1:
			s.C, err = clint.Write(s.C, p.At, p.Value)
		case 2:
			s.P, err = plic.Write(s.P, p.At, p.Value)
		case 3:
			s.U, err = uart.Write(s.U, p.At, byte(p.Value%256))
		case 4:
			s.D, err = dma.Write(s.D, p.At, p.Value)
		case 5:
			s.B, err = blk.Write(s.B, p.At, p.Value)
		case 6:
			s.N, err = nic.Write(s.N, p.At, p.Value)
		}
		x.seen[fmt.Sprintf("write to %d", p.Dev)]++
		if err == nil {
			x.s = s
		}
	}
}

// lines are the hart's lines.
func (x *second) lines() uint32 {
	lines := x.s.C.Soft % 2 * 8
	if x.s.C.Time >= x.s.C.Cmp {
		lines += 128
	}
	for n := range 8 {
		if x.s.P.Pending>>n%2 == 1 && x.s.P.Enable>>n%2 == 1 && x.s.P.Priority[n] > x.s.P.Threshold {
			return lines + 2048
		}
	}
	return lines
}

// instruct is what becomes of a hart that fetches.
func (x *second) instruct(h hart.State, lines uint32) hart.State {
	var b []byte
	if dev, at := x.where(h.Pc, 4); dev == 7 {
		b, _ = x.m.Read(at, 4)
	}
	if b == nil {
		x.seen["no fetch"]++
		return hart.Fault(h, hart.Access{})
	}
	h, a := hart.Do(h, uint32(b[0])+uint32(b[1])<<8+uint32(b[2])<<16+uint32(b[3])<<24, lines)
	if a.Kind == hart.Nothing {
		return h
	}
	dev, at := x.where(a.At, a.N)
	if dev == 0 {
		x.seen["nobody"]++
		return hart.Fault(h, a)
	}
	if a.Kind == hart.Store && dev == 7 {
		if x.m.Write(at, little(uint64(a.Value), a.N)) != nil {
			panic("a store to memory")
		}
		return hart.Done(h, a, 0)
	}
	if a.Kind == hart.Store {
		if len(x.posts) == 8 {
			x.seen["eight wait"]++
			x.tell(8)
		}
		x.posts = append(x.posts, bus.Post{Dev: dev, At: at, N: a.N, Value: uint32(uint64(a.Value) % (1 << (8 * a.N)))})
		return hart.Done(h, a, 0)
	}
	if dev == 7 {
		b, err := x.m.Read(at, a.N)
		if err != nil {
			panic("a load of memory")
		}
		b = append(b, 0, 0, 0)
		return hart.Done(h, a, uint32(b[0])+uint32(b[1])<<8+uint32(b[2])<<16+uint32(b[3])<<24)
	}
	if len(x.posts) > 1 {
		x.seen["a load behind writes"]++
	}
	x.tell(len(x.posts))
	v, is := x.ask(dev, at)
	if !is {
		return hart.Fault(h, a)
	}
	return hart.Done(h, a, v)
}

// tick is what goes out in a tick.
func (x *second) tick() []soc.Out {
	x.s.C.Time++
	for n, is := range map[int]bool{1: uart.Asks(x.s.U), 2: x.s.D.Asks, 3: x.s.B.P.Irq > 0, 4: x.s.N.P.Irq > 0} {
		if is && x.s.P.Busy>>n%2 == 0 {
			x.s.P.Pending |= 1 << n
		}
	}
	lines := x.lines()
	h, fetches := hart.Begin(x.s.H, lines)
	if h.C.Cause>>31 == 1 && h.Pc != x.s.H.Pc {
		x.seen[fmt.Sprintf("interrupt %d", h.C.Cause%16)]++
	}
	if fetches {
		h = x.instruct(h, lines)
	}
	x.s.H = h
	x.tell(1)
	x.s.Ticks++
	return x.devices()
}

// devices is what goes out of the devices.
func (x *second) devices() []soc.Out {
	var out []soc.Out
	before := x.s.U.Tx
	if x.s.U, _, _ = uart.Tick(x.s.U); x.s.U.Tx.N < before.N {
		out = append(out, soc.Out{Tick: x.s.Ticks, Kind: 1, Data: []byte{before.B[0]}})
	}
	x.s.D = dma.Tick(x.s.D, x.m)
	disk, asks := blk.Poll(x.s.B, x.m)
	x.s.B = disk
	for _, a := range asks {
		out = append(out, soc.Out{Tick: x.s.Ticks, Kind: 3, Ask: a})
	}
	net, frames := nic.Send(x.s.N, x.m)
	x.s.N = net
	for _, b := range frames {
		out = append(out, soc.Out{Tick: x.s.Ticks, Kind: 2, Data: b})
	}
	for _, o := range out {
		x.seen[fmt.Sprintf("out %d", o.Kind)]++
	}
	return out
}

// waits is whether it waits.
func (x *second) waits() bool {
	asks := x.lines()&x.s.H.C.Enable != 0
	goesOn := len(x.posts) > 0 || x.s.U.Tx.N > 0 || x.s.D.Code == 1 || x.s.N.Bell || x.s.B.Bell && len(x.s.B.In) != 8
	return x.s.H.Wait && !asks && !goesOn
}

// plain is a state of which lists of nothing are nil.
func plain(s soc.State) soc.State {
	if len(s.Q.L) == 0 {
		s.Q.L = nil
	}
	if len(s.B.In) == 0 {
		s.B.In = nil
	}
	return s
}

// world is a program, a driver and an outside by chance, of a machine and the second one, side by side.
type world struct {
	t    *testing.T
	c    *rand.Rand
	x    *soc.Machine
	y    *second
	desc [3]int // the next descriptor of each queue: the disk's, the net device's two
	many [3]uint16
}

// worldLaid is how a world's machines are laid: a page of code, one of the disk's tables, one of the net device's, and data.
var worldLaid = soc.Config{Pages: 6, Sectors: 40}

// bases are what registers from x5 on are places of, and where in them something is found.
var bases = []struct {
	at    uint32
	words []int
}{
	{0x02000000, []int{0, 0, 4}}, {0x02004000, []int{0, 4}}, {0x0200bff8, []int{0, 4}},
	{0x0c000000, []int{4, 8, 12, 16, 28, 32}}, {0x0c002000, []int{0, 0, 4}}, {0x0c200000, []int{0, 4, 4, 4, 8}},
	{0x10000000, []int{0, 0, 0, 1, 2, 3, 4, 5, 6, 7, 8}}, {0x10010000, []int{0, 0, 4, 8, 12, 16, 20}},
	{0x10020000, []int{80, 80, 80, 80, 80, 80, 96, 100, 256, 12}}, {0x10030000, []int{80, 80, 80, 80, 80, 80, 96, 100, 256, 48}},
	{base + 3*page, []int{0, 4, 8, 100, -4, -100, 300}}, {base + 6*page, []int{-4, -8, 0, 4}},
}

// values are what programs write.
var values = []int{0, 0, 1, 1, 1, 2, 3, 3, 7, 8, 15, 16, 97, 127, 255, 1000, -1, -2048}

// one is one of a list.
func one[T any](c *rand.Rand, l []T) T { return l[c.Intn(len(l))] }

// reach is an instruction that reaches for a device, or memory.
func reach(c *rand.Rand) inst.Inst {
	n := c.Intn(len(bases))
	i := inst.Inst{Op: inst.Lw, Rs1: 5 + n, Imm: one(c, bases[n].words)}
	if n == 6 {
		i.Op = one(c, []int{inst.Lb, inst.Lbu})
	}
	if n > 9 && c.Intn(2) == 0 || c.Intn(30) == 0 {
		i.Op = one(c, []int{inst.Lb, inst.Lh, inst.Lw, inst.Lbu, inst.Lhu})
	}
	if c.Intn(2) == 0 {
		i.Op, i.Rs2 = []int{inst.Sb, inst.Sh, inst.Sw, inst.Sb, inst.Sh}[i.Op-inst.Lb], one(c, []int{0, 3, 3, 4, 17, 18, 19})
		if c.Intn(100) == 0 && n > 7 {
			i.Imm = 112 // a device is reset, or told that its driver gave up
		}
		return i
	}
	i.Rd = 20 + c.Intn(12)
	return i
}

// some is an instruction that reaches for nothing.
func some(c *rand.Rand) inst.Inst {
	switch c.Intn(12) {
	case 0:
		return inst.Inst{Op: inst.Jal, Imm: 4 * (c.Intn(40) - 20)}
	case 1, 2:
		return inst.Inst{Op: inst.Beq + c.Intn(6), Rs1: c.Intn(32), Rs2: c.Intn(32), Imm: 4 * (c.Intn(20) - 5)}
	case 3:
		return inst.Inst{Op: one(c, []int{inst.Wfi, inst.Mret, inst.Mret, inst.Ecall, inst.Fence})}
	case 4, 5:
		return inst.Inst{Op: inst.Csrrw + c.Intn(6), Rd: 20 + c.Intn(4), Rs1: one(c, []int{0, 8, 17, 18}), Csr: one(c, []int{0x300, 0x340, 0x342, 0x344, 0xb00})}
	case 6:
		return inst.Inst{Op: inst.Csrrsi, Rs1: 8, Csr: 0x300}
	case 7:
		return inst.Inst{Op: inst.Add + c.Intn(inst.Fence-inst.Add), Rd: 20 + c.Intn(12), Rs1: c.Intn(32), Rs2: c.Intn(32)}
	}
	return inst.Inst{Op: inst.Addi, Rd: 17 + c.Intn(3), Imm: one(c, values)}
}

// program is a page of instructions, a few of them words by chance.
func (w *world) program() []byte {
	w.t.Helper()
	var b []byte
	for len(b) < page {
		i := some(w.c)
		if w.c.Intn(2) == 0 {
			i = reach(w.c)
		}
		v, err := inst.Encode(i)
		must(w.t, err)
		if w.c.Intn(200) == 0 {
			v = w.c.Uint32()
		}
		b = append(b, little(uint64(v), 4)...)
	}
	return b
}

// somePost is a write that may wait.
func somePost(c *rand.Rand) bus.Post {
	dev := 1 + c.Intn(6)
	p := bus.Post{Dev: dev, At: 4 * uint32(c.Intn(8)), N: 4, Value: uint32(one(c, values))}
	switch dev {
	case 3:
		p.At, p.N = uint32(c.Intn(8)), 1
	case 1:
		p.At = one(c, []uint32{0, 4, 0x4000, 0x4004, 0xbff8, 0xbffc})
	}
	return p
}

// someState is a state that may be, of a machine whose devices work.
func someState(c *rand.Rand) soc.State {
	s := soc.State{Ticks: uint64(c.Intn(1000)) - 50, H: hart.State{Pc: base + 4*uint32(c.Intn(1000)), Wait: c.Intn(4) == 0}}
	for i, b := range bases {
		s.H.X[5+i] = b.at
	}
	s.H.X[3], s.H.X[4] = 1, 2
	for i := 17; i < 32; i++ {
		s.H.X[i] = uint32(one(c, values))
	}
	s.H.C = csr.State{Status: one(c, []uint32{0, 8, 0x88}), Enable: c.Uint32() & 0x888, Vector: base + uint32(c.Intn(2)) + 4*uint32(c.Intn(800))}
	for range one(c, []int{0, 0, 1, 2, 5, 7, 8, 8}) {
		s.Q.L = append(s.Q.L, somePost(c))
	}
	s.C = clint.State{Soft: uint32(c.Intn(2)), Time: uint64(c.Intn(1000)), Cmp: uint64(c.Intn(2000))}
	s.P = plic.State{Enable: c.Uint32() & 0xfe, Threshold: uint32(c.Intn(3)), Pending: c.Uint32() & 0xfe, Busy: c.Uint32() & c.Uint32() & 0xfe}
	for i := 1; i < 8; i++ {
		s.P.Priority[i] = uint32(c.Intn(8))
	}
	s.U = uart.State{Ier: byte(c.Intn(8)), Over: c.Intn(2) == 0}
	s.D = dma.State{Head: base + 3*page}
	s.B = blk.State{P: live(1), Sectors: worldLaid.Sectors, Bell: c.Intn(2) == 0, Next: c.Uint32() - c.Uint32()%4}
	s.N = nic.State{P: live(2), Bell: c.Intn(2) == 0}
	return s
}

// newWorld is a world at its beginning.
func newWorld(t *testing.T, c *rand.Rand, seen map[string]int) *world {
	t.Helper()
	w := &world{t: t, c: c}
	s, m := someState(c), ram(t, worldLaid.Pages)
	x, err := soc.Load(worldLaid, s, m)
	must(t, err)
	w.x, w.y = x, &second{s: x.State(), m: m.Clone(), posts: x.State().Q.L, seen: seen}
	w.lay(0, w.program())
	b := make([]byte, 3*page)
	c.Read(b)
	w.lay(3*page, b)
	return w
}

// lay lays bytes into both memories.
func (w *world) lay(at uint32, b []byte) {
	w.t.Helper()
	must(w.t, w.x.Mem().Write(at, b))
	must(w.t, w.y.m.Write(at, b))
}

// orders lays a list for the engine, of which most orders can be done.
func (w *world) orders() {
	w.t.Helper()
	n := w.c.Intn(4) + 1
	for i := range n {
		next := uint32(base + 3*page + 16*(i+1))
		if i == n-1 {
			next = 0
		}
		from, to := uint32(base+w.c.Intn(6*page)), uint32(base+3*page+200+w.c.Intn(2*page))
		if w.c.Intn(10) == 0 {
			to = w.c.Uint32()
		}
		var b []byte
		for _, v := range []uint32{from, to, uint32(w.c.Intn(200)), next} {
			b = append(b, little(uint64(v), 4)...)
		}
		w.lay(3*page+16*uint32(i), b)
	}
}

// rings are the queues' rings: the disk's, and the net device's two.
func rings() [3]ring.Ring {
	return [3]ring.Ring{live(1).Q[0].R, live(2).Q[0].R, live(2).Q[1].R}
}

// parts is a chain for a queue, whose head, if it has one, is laid.
func (w *world) parts(queue int) []ring.Seg {
	w.t.Helper()
	place := func(n int) uint32 { return 4*page + uint32(w.c.Intn(2*page-n)) }
	if queue == 1 {
		return []ring.Seg{{At: base + place(1526), N: one(w.c, []int{1526, 1526, 30}), Write: true}}
	}
	if queue == 2 {
		n := 12 + one(w.c, []int{1, 2, 60, 1514})
		return []ring.Seg{{At: base + place(n), N: n}}
	}
	at, kind, n := place(600), one(w.c, []uint64{0, 0, 1, 1, 4, 8}), 512*one(w.c, []int{1, 1, 2})
	w.lay(at, slices.Concat(little(kind, 8), little(uint64(w.c.Intn(42)), 8)))
	l := []ring.Seg{{At: base + at, N: 16}}
	if kind == 1 {
		l = append(l, ring.Seg{At: base + place(n), N: n})
	}
	if kind == 0 {
		l = append(l, ring.Seg{At: base + place(n), N: n, Write: true})
	}
	return append(l, ring.Seg{At: base + place(1), N: 1, Write: true})
}

// offer offers a chain in a queue, at times one that is spoilt.
func (w *world) offer(queue int) {
	w.t.Helper()
	r, d := rings()[queue], driver{}
	l := w.parts(queue)
	if w.desc[queue]+len(l) > r.Size {
		w.desc[queue] = 0
	}
	d.offer(r, 0, w.desc[queue], l)
	head := d[r.Avail-base+4]
	delete(d, r.Avail-base+4)
	if w.c.Intn(150) == 0 {
		head = little(uint64(w.c.Intn(100)), 2)
	}
	d[r.Avail-base+4+2*uint32(int(w.many[queue])%r.Size)] = head
	w.many[queue]++
	d[r.Avail-base+2] = little(uint64(w.many[queue]), 2)
	for place, b := range d {
		w.lay(place, b)
	}
	w.desc[queue] += len(l)
}

// last is how many chains were taken of a queue.
func (w *world) last(queue int) uint16 {
	return []uint16{w.y.s.B.P.Q[0].R.Last, w.y.s.N.P.Q[0].R.Last, w.y.s.N.P.Q[1].R.Last}[queue]
}

// comes lets something come, for both.
func (w *world) comes() {
	w.t.Helper()
	for queue := range 3 {
		if w.c.Intn(4) == 0 && w.many[queue]-w.last(queue) < 4 {
			w.offer(queue)
		}
	}
	switch w.c.Intn(12) {
	case 0:
		b := byte(w.c.Intn(256))
		must(w.t, w.x.Put(b))
		w.y.s.U = uart.Put(w.y.s.U, b)
	case 1:
		w.frame()
	case 2, 3:
		w.finish()
	case 4:
		w.orders()
	case 5:
		if w.c.Intn(4) == 0 {
			w.lay(0, w.program())
		}
	}
}

// frame lets a frame come.
func (w *world) frame() {
	w.t.Helper()
	b := row(one(w.c, []int{1, 5, 60, 1514, 0, 1515}))
	is, err := w.x.Frame(b)
	net, want, wantErr := nic.Take(w.y.s.N, w.y.m, b)
	if is != want || errno(err) != errno(wantErr) {
		w.t.Fatalf("Frame of %d bytes: %v, %v, not %v, %v", len(b), is, err, want, wantErr)
	}
	if err == nil {
		w.y.s.N = net
	}
	if is {
		w.y.seen["a frame came"]++
	}
}

// finish lets the disk answer.
func (w *world) finish() {
	w.t.Helper()
	id, ok, b := w.c.Uint32(), w.c.Intn(4) > 0, row(one(w.c, []int{0, 512, 1024}))
	if in := w.y.s.B.In; len(in) > 0 && w.c.Intn(5) > 0 {
		r := one(w.c, in)
		id = r.ID
		if !r.Write {
			b = row(r.N)
		} else {
			b = nil
		}
	}
	err := w.x.Finish(id, ok, b)
	disk, wantErr := blk.Finish(w.y.s.B, w.y.m, id, ok, b)
	if errno(err) != errno(wantErr) {
		w.t.Fatalf("Finish of %d: %v, not %v", id, err, wantErr)
	}
	if err == nil {
		w.y.s.B = disk
		w.y.seen["the disk answered"]++
	}
}

// same fails the test, if both are not the same, or the machine can't be.
func (w *world) same(what string) {
	w.t.Helper()
	want := w.y.s
	want.Q.L = w.y.posts
	if got := w.x.State(); !reflect.DeepEqual(plain(got), plain(want)) {
		isState(w.t, what, w.x, want)
		w.t.FailNow()
	}
	if !w.x.Mem().Same(w.y.m) || !slices.Equal(w.x.Mem().Dirty(), w.y.m.Dirty()) {
		w.t.Fatalf("%s: memory is not the same", what)
	}
	must(w.t, soc.Check(worldLaid, w.x.State()))
	if got := w.x.Waits(); got != w.y.waits() {
		w.t.Fatalf("%s: Waits is %v: %s", what, got, told(w.x.State()))
	}
	if w.y.waits() {
		w.y.seen["waits"]++
	}
}

// goesOn lets a world go on for some ticks; what goes out.
func (w *world) goesOn(ticks int) []soc.Out {
	w.t.Helper()
	var out []soc.Out
	for range ticks {
		w.comes()
		w.same("what came")
		got, want := w.x.Tick(), w.y.tick()
		if outs(got) != outs(want) {
			w.t.Fatalf("out goes %s, not %s", outs(got), outs(want))
		}
		w.same("a tick")
		out = append(out, got...)
	}
	return out
}

// SO2 to SO4: whatever stands in memory, and whatever comes, all is as the second machine has it, tick by tick, and may be.
func TestModel(t *testing.T) {
	seen := map[string]int{}
	for seed := range int64(400) {
		newWorld(t, rand.New(rand.NewSource(seed)), seen).goesOn(300)
	}
	// Writes wait at the beginning alone, as in each tick one is done.
	for seed := range int64(1500) {
		newWorld(t, rand.New(rand.NewSource(1000+seed)), seen).goesOn(4)
	}
	for _, name := range []string{
		"load of 1", "load of 2", "load of 3", "load of 4", "load of 5", "load of 6", "a device's error", "a load behind writes", "eight wait",
		"write to 1", "write to 2", "write to 3", "write to 4", "write to 5", "write to 6", "no fetch", "nobody",
		"interrupt 3", "interrupt 7", "interrupt 11", "out 1", "out 2", "out 3", "waits", "a frame came", "the disk answered",
	} {
		if seen[name] < 40 {
			t.Errorf("%s: seen %d times: too few", name, seen[name])
		}
	}
}

// SO4: two that begin alike, and to whom the same comes, go on alike, with the same that goes out, though one of them
// becomes its clone, or is loaded of its state and a clone of its memory, at any ticks.
func TestAlike(t *testing.T) {
	out := 0
	for seed := range int64(120) {
		v := newWorld(t, rand.New(rand.NewSource(seed)), map[string]int{})
		w := newWorld(t, rand.New(rand.NewSource(seed)), map[string]int{})
		for turn := range 6 {
			l := v.goesOn(25)
			if got := outs(w.goesOn(25)); got != outs(l) || !soc.Same(v.x, w.x) {
				t.Fatalf("world %d: out goes %s, not %s; or they are not the same", seed, got, outs(l))
			}
			out += len(l)
			old, before := w.x, told(w.x.State())
			w.x = old.Clone()
			if turn%2 == 1 {
				var err error
				w.x, err = soc.Load(worldLaid, old.State(), old.Mem().Clone())
				must(t, err)
			}
			w.goesOn(5)
			v.goesOn(5)
			if told(old.State()) != before {
				t.Fatalf("world %d: it went along with the one that was made of it", seed)
			}
		}
	}
	if out < 60 {
		t.Errorf("%d went out: too few", out)
	}
}

// event is something that comes, by chance.
func event(c *rand.Rand) func(x *soc.Machine) string {
	v, ok := c.Uint32(), c.Intn(2) == 0
	b := row(one(c, []int{0, 1, 60, 512, 1024, 1515}))
	switch c.Intn(6) {
	case 0:
		return func(x *soc.Machine) string { return fmt.Sprint(x.Put(byte(v))) }
	case 1:
		return func(x *soc.Machine) string { return fmt.Sprint(x.Frame(b)) }
	case 2:
		return func(x *soc.Machine) string {
			id := v
			if in := x.State().B.In; len(in) > 0 {
				id = in[int(v)%len(in)].ID
			}
			return fmt.Sprint(x.Finish(id, ok, b))
		}
	}
	return func(x *soc.Machine) string { return "" }
}

// SO4: whatever bytes stand in memory, and whatever of them stand over code, lists and queues: each part may be, behind
// each tick, and behind all that comes.
func TestAnyBytes(t *testing.T) {
	c := rand.New(rand.NewSource(54))
	for range 400 {
		s := someState(c)
		s.B.P.Q[0].R.Avail, s.N.P.Q[1].R.Used = base+2*uint32(c.Intn(3*page)), base+4*uint32(c.Intn(1536))
		s.D = dma.State{Code: dma.Busy, At: base + 4*uint32(c.Intn(1000))}
		m := ram(t, worldLaid.Pages)
		b := make([]byte, worldLaid.Pages*page)
		for i := range b {
			b[i] = byte(c.Intn(1<<c.Intn(9)) >> c.Intn(5))
		}
		must(t, m.Write(0, b))
		x, err := soc.Load(worldLaid, s, m)
		must(t, err)
		for range 80 {
			event(c)(x)
			must(t, soc.Check(worldLaid, x.State()))
			ticks := x.State().Ticks
			for _, o := range x.Tick() {
				if o.Tick != ticks+1 {
					t.Fatalf("out goes %+v, in the tick %d", o, ticks+1)
				}
			}
			must(t, soc.Check(worldLaid, x.State()))
		}
	}
}
