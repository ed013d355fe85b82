package save_test

import (
	"bytes"
	"fmt"
	"math/rand"
	"slices"
	"strings"
	"testing"

	"pinnace/api"
	"pinnace/asm"
	"pinnace/blk"
	"pinnace/bus"
	"pinnace/csr"
	"pinnace/dma"
	"pinnace/hart"
	"pinnace/plic"
	"pinnace/ring"
	"pinnace/save"
	"pinnace/soc"
	"pinnace/tlv"
	"pinnace/virtio"
)

// driver is a program that keeps all devices busy, over and over again.
const driver = `
loop:
lw x20, 0(x8)        # how many times it went round
addi x20, x20, 1
sw x20, 0(x8)
andi x21, x20, 1
bne x21, x0, nodisk
lhu x22, 2(x13)      # what is offered to the disk, and what it gave back
lhu x23, 514(x13)
sub x23, x22, x23
addi x24, x0, 10
bge x23, x24, nodisk
addi x22, x22, 1
sh x22, 2(x13)
sw x0, 80(x6)
nodisk:
andi x21, x20, 3
bne x21, x0, nonet
lhu x22, 2(x14)      # a frame that goes out
addi x22, x22, 1
sh x22, 2(x14)
addi x23, x0, 1
sw x23, 80(x7)
lhu x22, 2(x15)      # room for one that comes
lhu x23, 514(x15)
sub x23, x22, x23
addi x24, x0, 10
bge x23, x24, nonet
addi x22, x22, 1
sh x22, 2(x15)
nonet:
andi x21, x20, 15
bne x21, x0, noengine
addi x23, x0, 2
sw x23, 0(x9)
addi x23, x0, 1
sw x23, 0(x9)
noengine:
andi x21, x20, 3
bne x21, x0, nobyte
sb x20, 0(x5)
nobyte:
andi x21, x20, 7
bne x21, x0, nowait
wfi
nowait:
jal x0, loop
trap:
csrrs x24, 834, x0
addi x25, x0, 15
and x24, x24, x25
addi x25, x0, 11
beq x24, x25, outside
sw x0, 0(x11)        # the timer, or software: again in a while
lw x25, 0(x16)
addi x25, x25, 90
sw x25, 0(x18)
mret
outside:
lw x28, 4(x12)
lbu x26, 0(x5)
addi x26, x26, 1
sb x26, 0(x5)
lw x27, 96(x6)
sw x27, 100(x6)
lw x27, 96(x7)
sw x27, 100(x7)
addi x27, x0, 1
sw x27, 16(x9)
sw x28, 4(x12)
mret
`

// busyLaid is how machines of the driver are laid: a page of code, one of the disk's tables, one of the net device's, one
// of the engine's list, and data.
var busyLaid = soc.Config{Pages: 6, Sectors: 40}

// live is a setting that is Live, of which both queues are Ready, with their tables in a page.
func live(n uint32) virtio.State {
	at := base + n*page
	s := virtio.State{Status: 15, Drv: [2]uint32{0, 1}}
	s.Q[0] = virtio.Queue{Ready: true, R: ring.Ring{Size: 16, Desc: at, Avail: at + 0x200, Used: at + 0x400}}
	s.Q[1] = virtio.Queue{Ready: true, R: ring.Ring{Size: 16, Desc: at + 0x800, Avail: at + 0xa00, Used: at + 0xc00}}
	return s
}

// chains are the descriptors of chains, one behind the other, and the places of their heads.
func chains(l ...[]ring.Seg) ([]byte, []int) {
	var b []byte
	var heads []int
	n := 0
	for _, parts := range l {
		heads = append(heads, n)
		for i, p := range parts {
			marks := 0
			if i < len(parts)-1 {
				marks = 1
			}
			if p.Write {
				marks |= 2
			}
			n++
			b = slices.Concat(b, little(uint64(p.At), 8), little(uint64(p.N), 4), little(uint64(marks), 2), little(uint64(n), 2))
		}
	}
	return b, heads
}

// offers are the sixteen heads that a ring offers, over and over again.
func offers(heads []int) []byte {
	var b []byte
	for i := range 16 {
		b = append(b, little(uint64(heads[i%len(heads)]), 2)...)
	}
	return b
}

// busyMachine is a machine of the driver, whose requests and frames are by chance.
func busyMachine(t *testing.T, r *rand.Rand) *soc.Machine {
	t.Helper()
	code, _, err := asm.Program(driver)
	must(t, err)
	m := ram(t, busyLaid.Pages)
	for i, w := range code {
		must(t, m.Store(uint32(4*i), 4, w))
	}
	data := make([]byte, 2*page)
	r.Read(data)
	must(t, m.Write(4*page, data))
	lay := func(n uint32, parts ...[]ring.Seg) {
		b, heads := chains(parts...)
		must(t, m.Write(n, b))
		must(t, m.Write(n+0x204, offers(heads)))
	}
	at := func(n int) uint32 { return base + 4*page + 100 + uint32(r.Intn(2*page-100-n)) }
	lay(page,
		[]ring.Seg{{At: base + 4*page, N: 16}, {At: at(500), N: 500, Write: true}, {At: at(13), N: 13, Write: true}},
		[]ring.Seg{{At: base + 4*page + 16, N: 16}, {At: at(1024), N: 1024}, {At: at(3), N: 3, Write: true}},
		[]ring.Seg{{At: base + 4*page + 32, N: 16}, {At: at(1), N: 1, Write: true}})
	lay(2*page, []ring.Seg{{At: at(1526), N: 1526, Write: true}}, []ring.Seg{{At: at(40), N: 40, Write: true}})
	lay(2*page+0x800, []ring.Seg{{At: at(80), N: 12 + 1 + r.Intn(60)}}, []ring.Seg{{At: at(12), N: 12}, {At: at(700), N: 700}})
	for i := range uint64(3) {
		must(t, m.Write(uint32(4*page+16*i), slices.Concat(little([]uint64{0, 1, 4}[i], 8), little(uint64(r.Intn(38)), 8))))
	}
	for i, next := range []uint64{base + 3*page + 16, 0} {
		order := slices.Concat(little(uint64(at(4000)), 4), little(uint64(at(4000)), 4), little(uint64(1+r.Intn(4000)), 4), little(next, 4))
		must(t, m.Write(uint32(3*page+16*i), order))
	}
	return machine(t, busyLaid, busyState(r, uint32(4*slices.Index(code, 0x34202c73))), m)
}

// busyState is the driver's state at its beginning; its traps go on at a place.
func busyState(r *rand.Rand, trap uint32) soc.State {
	s := soc.State{Ticks: r.Uint64(), H: hart.State{Pc: base, C: csr.State{Status: 8, Enable: 0x888, Vector: base + trap}}}
	for i, v := range []uint32{
		0x10000000, 0x10020000, 0x10030000, base + 3*page + 0x100, 0x10010000, 0x0c000000, 0x02000000, 0x0c200000,
		base + page + 0x200, base + 2*page + 0xa00, base + 2*page + 0x200, 0x0200bff8, 0, 0x02004000,
	} {
		s.H.X[5+i] = v
	}
	s.C.Cmp = uint64(r.Intn(300))
	s.P = plic.State{Priority: [8]uint32{0, 1, 2, 3, 4, 0, 0, 0}, Enable: 30}
	s.U.Ier, s.U.Mcr = 1, 3
	s.D.Head = base + 3*page
	s.B = blk.State{P: live(1), Sectors: busyLaid.Sectors, Next: r.Uint32()}
	s.N.P = live(2)
	if r.Intn(2) == 0 {
		s.Q.L = []bus.Post{{Dev: 1, At: 0x4000, N: 4, Value: 60}, {Dev: 3, At: 0, N: 1, Value: 'b'}, {Dev: 2, At: 4, N: 4, Value: 1}, {Dev: 4, At: 0, N: 4, Value: 1}}
	}
	return s
}

// events are what comes between two ticks, by chance, to a machine in some state.
func events(r *rand.Rand, s soc.State) []func(x *soc.Machine) string {
	var out []func(x *soc.Machine) string
	c, frame := byte(r.Intn(256)), make([]byte, r.Intn(1520))
	if r.Intn(60) == 0 {
		out = append(out, func(x *soc.Machine) string { return fmt.Sprint(x.Put(c)) })
	}
	if r.Intn(90) == 0 {
		r.Read(frame)
		out = append(out, func(x *soc.Machine) string { return fmt.Sprint(x.Frame(frame)) })
	}
	if len(s.B.In) > 0 && r.Intn(300) == 0 {
		q := s.B.In[r.Intn(len(s.B.In))]
		id, ok, data := q.ID, r.Intn(5) > 0, make([]byte, q.N)
		if q.Write {
			data = nil
		}
		r.Read(data)
		out = append(out, func(x *soc.Machine) string { return fmt.Sprint(x.Finish(id, ok, data)) })
	}
	return out
}

// saved is the machine that a machine's file is taken out as; it fails the test, if that is not the same, or its file has
// other bytes.
func saved(t *testing.T, x *soc.Machine) *soc.Machine {
	t.Helper()
	b := encoded(t, x)
	y, err := save.Decode(b)
	must(t, err)
	if !soc.Same(x, y) || told(x.Config(), x.State()) != told(y.Config(), y.State()) {
		t.Fatal("what was saved is taken out as another machine")
	}
	if !bytes.Equal(encoded(t, y), b) {
		t.Fatal("what is taken out is saved as other bytes")
	}
	return y
}

// goesOn lets something come to machines, and a tick go by, of all of them; what comes and goes out must be the same.
func goesOn(t *testing.T, r *rand.Rand, l ...*soc.Machine) []soc.Out {
	t.Helper()
	for _, e := range events(r, l[0].State()) {
		want := e(l[0])
		for i, y := range l[1:] {
			if got := e(y); got != want {
				t.Fatalf("machine %d: what came was answered by %s, not %s", i+1, got, want)
			}
		}
	}
	out := l[0].Tick()
	for i, y := range l[1:] {
		if got := y.Tick(); fmt.Sprint(got) != fmt.Sprint(out) {
			t.Fatalf("machine %d: out goes %v, not %v", i+1, got, out)
		}
		if y.Waits() != l[0].Waits() {
			t.Fatalf("machine %d: Waits is %v", i+1, y.Waits())
		}
	}
	return out
}

// counts are what was seen, and how many times.
type counts map[string]int

// of counts what is under way in a state that is saved.
func (n counts) of(s soc.State) {
	n["saved"]++
	for name, is := range map[string]bool{
		"a write waits": len(s.Q.L) > 0, "requests": len(s.B.In) > 0, "many requests": len(s.B.In) > 3, "an order": s.D.Have, "the engine is busy": s.D.Code == dma.Busy,
		"a byte waits to go out": s.U.Tx.N > 0, "a byte waits to be read": s.U.Rx.N > 0, "the hart waits": s.H.Wait, "a source is served": s.P.Busy != 0,
		"a trap": s.H.C.Cause != 0, "a used chain": s.B.P.Irq != 0, "a frame was lost": s.N.Lost > 0, "the disk's bell": s.B.Bell, "the port's Wait": s.U.Wait > 0,
	} {
		if is {
			n[name]++
		}
	}
}

// SV4: machines that are saved, and taken out, at any ticks, go on as the one that was saved, tick by tick.
func TestSavedGoesOn(t *testing.T) {
	seen := counts{}
	for seed := range int64(15) {
		r := rand.New(rand.NewSource(100 + seed))
		x := busyMachine(t, r)
		l := []*soc.Machine{x, saved(t, x)}
		for tick := range 1500 {
			for _, o := range goesOn(t, r, l...) {
				seen[fmt.Sprintf("out %d", o.Kind)]++
			}
			if tick%20 == 0 {
				seen.of(x.State())
				l = append(l[:min(len(l), 4)], saved(t, x))
			}
			if tick%50 == 0 {
				slices.Reverse(l[1:])
			}
		}
		for i, y := range l[1:] {
			if !soc.Same(x, y) || told(x.Config(), x.State()) != told(y.Config(), y.State()) {
				t.Fatalf("machine %d of %d went on otherwise", i+1, seed)
			}
		}
	}
	for _, name := range []string{
		"a write waits", "requests", "many requests", "an order", "the engine is busy", "a byte waits to go out", "a byte waits to be read", "the hart waits", "a source is served",
		"a trap", "a used chain", "a frame was lost", "the disk's bell", "the port's Wait", "out 1", "out 2", "out 3",
	} {
		if seen[name] < 5 {
			t.Errorf("%s: seen %d times of %d: too few", name, seen[name], seen["saved"])
		}
	}
}

// SV4: a machine that is saved and taken out at each tick, against one that never is.
func TestSavedAtEachTick(t *testing.T) {
	out := 0
	for seed := range int64(3) {
		r := rand.New(rand.NewSource(200 + seed))
		x := busyMachine(t, r)
		y := x.Clone()
		for range 500 {
			y = saved(t, y)
			out += len(goesOn(t, r, x, y))
		}
		if !soc.Same(x, y) {
			t.Fatalf("world %d: not the same at the end", seed)
		}
	}
	if out < 60 {
		t.Errorf("%d went out: too few", out)
	}
}

// SV4: machines by chance, whatever stands in their memory.
func TestAnyMachineGoesOn(t *testing.T) {
	r := rand.New(rand.NewSource(300))
	for range 400 {
		x := someMachine(t, r)
		y := saved(t, x)
		for range 25 {
			goesOn(t, r, x, y)
		}
		if !soc.Same(x, y) || !soc.Same(x, saved(t, y)) {
			t.Fatal("not the same at the end")
		}
	}
}

// SV4: a machine that is saved in the middle of a loop, and restored, ends the loop.
func TestLoopEnds(t *testing.T) {
	code, _, err := asm.Program("lui x5, 65536\naddi x6, x0, 10\nloop:\naddi x6, x6, -1\nbne x6, x0, loop\naddi x7, x0, 97\nsb x7, 0(x5)\nwfi")
	must(t, err)
	run := func(stop int) string {
		x, err := soc.New(soc.Config{Pages: 1}, code)
		must(t, err)
		var out strings.Builder
		for tick := range 40 {
			if tick == stop {
				b := encoded(t, x)
				x.Tick()
				x, err = save.Restore(x, b)
				must(t, err)
			}
			for _, o := range x.Tick() {
				fmt.Fprintf(&out, "%d: %s;", o.Tick, o.Data)
			}
		}
		return out.String()
	}
	if got := run(-1); got != "27: a;" {
		t.Errorf("out goes %q", got)
	}
	for stop := range 40 {
		if got := run(stop); got != "27: a;" {
			t.Errorf("stopped at %d: out goes %q", stop, got)
		}
	}
}

// isSpoilt fails the test, if a file of which something is another one is taken out.
func isSpoilt(t *testing.T, name string, b []byte) {
	t.Helper()
	x, err := save.Decode(b)
	if n := errno(err); x != nil || n < 1 {
		t.Fatalf("%s is taken out: %v", name, err)
	}
}

// SV4: a file of which bits are other ones is not taken out.
func TestSpoiltFiles(t *testing.T) {
	r := rand.New(rand.NewSource(8))
	small := encoded(t, newMachine(t, soc.Config{Pages: 1, Sectors: 3}))
	h := withLists()
	for _, file := range [][]byte{small, encoded(t, machine(t, h.c, h.s, ram(t, 3)))} {
		for at := range 8 * len(file) {
			b := slices.Clone(file)
			b[at/8] ^= 1 << (at % 8)
			isSpoilt(t, fmt.Sprintf("a file whose bit %d is another one", at), b)
		}
		for range 3000 {
			b := slices.Clone(file)
			at := r.Intn(len(b) - 3)
			r.Read(b[at : at+1+r.Intn(4)])
			if !bytes.Equal(b, file) {
				isSpoilt(t, fmt.Sprintf("a file whose bytes from %d on are other ones", at), b)
			}
		}
		for size := range file {
			isSpoilt(t, fmt.Sprintf("%d bytes of a file", size), file[:size])
			isSpoilt(t, fmt.Sprintf("a file without its first %d bytes", size+1), file[size+1:])
		}
		for more := range 70 {
			isSpoilt(t, fmt.Sprintf("a file, and %d bytes 0", more+1), append(slices.Clone(file), make([]byte, more+1)...))
		}
		for range 2000 {
			b := make([]byte, r.Intn(len(file)))
			r.Read(b)
			copy(b, file[:r.Intn(13)])
			isSpoilt(t, "bytes by chance", b)
		}
	}
}

// SV4: of sections of which some bytes are other ones, though all sums are right: what is taken out is saved as the same
// bytes; all else is refused by one of the chapter's errors.
func TestNothingElseIsTakenOut(t *testing.T) {
	r := rand.New(rand.NewSource(9))
	seen := counts{}
	check := func(l []tlv.Section) {
		b := fileOf(t, 3, l)
		x, err := save.Decode(b)
		if err != nil {
			if n := errno(err); x != nil || n != api.ErrForm && n != api.ErrState && n != api.ErrOrder {
				t.Fatalf("Decode: %v", err)
			}
			seen["refused"]++
			return
		}
		seen["taken out"]++
		if got := encoded(t, x); !bytes.Equal(got, b) {
			t.Fatalf("what is taken out is saved as other bytes: %x, not %x", got, b)
		}
		if len(l) != 14 || soc.Check(x.Config(), x.State()) != nil {
			t.Fatalf("what is taken out of %d sections can't be", len(l))
		}
	}
	h := withLists()
	l := sectionsOf(machine(t, h.c, h.s, ramOf(t, 3, map[uint32]byte{5: 1, 2 * page: 3})))
	for tag := 1; tag <= 14; tag++ {
		for at := range min(len(l[tag-1].B), 200) {
			for _, c := range []byte{0, 1, 2, 3, 4, 0x10, 0x7f, 0x80, 0xff, byte(r.Intn(256))} {
				check(with(l, tag, at, []byte{c}))
			}
		}
	}
	for range 1500 {
		x := someMachine(t, r)
		l := sectionsOf(x)[:13]
		spoil(r, l)
		slices.SortStableFunc(l, func(a, b tlv.Section) int { return int(a.Tag) - int(b.Tag) })
		l = slices.CompactFunc(l, func(a, b tlv.Section) bool { return a.Tag == b.Tag })
		if l[len(l)-1].Tag != 14 {
			l = append(l, tlv.Section{Tag: 14, B: plainPages(x.Mem())})
		}
		check(l)
	}
	if seen["refused"] < 500 || seen["taken out"] < 500 {
		t.Errorf("seen: %v", seen)
	}
}

// SV3, SV4: a machine whose requests have as many parts as they may have is taken out again, and answers as it does; with
// one more part there is no machine to be saved.
func TestRequestOfMostParts(t *testing.T) {
	for _, n := range []int{1, 2, 255, 256, 257, 513} {
		h := withLists()
		for i := range h.s.B.In {
			h.s.B.In[i].L = slices.Repeat([]ring.Seg{{At: base, N: 4, Write: true}}, n)
		}
		h.s.B.In[0].N, h.s.B.In[0].L[n-1].N = 1024, 1025-4*(n-1)
		if n > 256 {
			x, err := soc.Load(h.c, h.s, ram(t, 3))
			if x != nil || errno(err) != api.ErrArg {
				t.Errorf("%d parts: Load answers %v", n, err)
			}
			continue
		}
		x := machine(t, h.c, h.s, ram(t, 3))
		isMachine(t, fmt.Sprintf("%d parts", n), encoded(t, x), x)
		y, err := save.Decode(encoded(t, x))
		must(t, err)
		for _, z := range []*soc.Machine{x, y} {
			must(t, z.Finish(7, true, bytes.Repeat([]byte{9}, 1024)))
			must(t, z.Finish(8, true, nil))
		}
		if !soc.Same(x, y) || !bytes.Equal(encoded(t, x), encoded(t, y)) {
			t.Errorf("%d parts: answered, they are other machines", n)
		}
	}
}
