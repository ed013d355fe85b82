package nic_test

import (
	"errors"
	"fmt"
	"math"
	"slices"
	"testing"

	"pinnace/api"
	"pinnace/mem"
	"pinnace/nic"
	"pinnace/ring"
	"pinnace/virtio"
)

// base is memory's first place on the bus, page how many bytes a page has, by hand.
const (
	base = 0x80000000
	page = 4096
)

// dataAt is where the bytes of the bench's chains stand, behind the tables of both queues.
const dataAt = base + 2*page

// errno is the number that errors.As finds in an error; 0 of nil, -1 of another error.
func errno(err error) api.Errno {
	if err == nil {
		return 0
	}
	var e api.Errno
	if errors.As(err, &e) {
		return e
	}
	return -1
}

// must fails the test at an error.
func must(t *testing.T, err error) {
	t.Helper()
	if err != nil {
		t.Fatal(err)
	}
}

// live is a setting that is Live, whose both queues are Ready.
func live() virtio.State {
	s := virtio.State{Status: 15, FeatSel: 3, DrvSel: 4, Sel: 5, Drv: [2]uint32{0, 1}}
	s.Q[0] = virtio.Queue{Ready: true, R: ring.Ring{Size: 16, Desc: base, Avail: base + page, Used: base + page + 512}}
	s.Q[1] = virtio.Queue{Ready: true, R: ring.Ring{Size: 32, Desc: base + 2048, Avail: base + page + 1024, Used: base + page + 2048}}
	return s
}

// oddP is a setting that can't be.
func oddP() virtio.State {
	p := live()
	p.Status |= 16
	return p
}

// little are the lowest n bytes of a number, the lowest one first.
func little(v uint64, n int) []byte {
	var b []byte
	for range n {
		b = append(b, byte(v))
		v /= 256
	}
	return b
}

// row are so many bytes, none of them 0, 1 or 2, and none as its neighbours.
func row(n int) []byte {
	b := make([]byte, n)
	for i := range b {
		b[i] = byte(i%251 + 3)
	}
	return b
}

// from are parts that the device reads, of so many bytes, one behind the other from a place on.
func from(at uint32, n ...int) []ring.Seg {
	var out []ring.Seg
	for _, v := range n {
		out = append(out, ring.Seg{At: at, N: v})
		at += uint32(v)
	}
	return out
}

// to are parts that the device writes, so.
func to(at uint32, n ...int) []ring.Seg {
	out := from(at, n...)
	for i := range out {
		out[i].Write = true
	}
	return out
}

// bench is a driver's memory, beside which another one is kept as it must become.
type bench struct {
	t       *testing.T
	m, want *mem.Ram
	s       nic.State
	desc    [2]int // the next descriptor of a queue that is free
	offered [2]uint16
}

// newBench is a bench of eight pages of row's bytes, of a device whose bell has rung, and that lost some.
func newBench(t *testing.T) *bench {
	t.Helper()
	m, err := mem.New(8)
	must(t, err)
	must(t, m.Write(0, row(8*page)))
	x := &bench{t: t, m: m, s: nic.State{P: live(), Bell: true, Lost: 5}}
	for _, q := range x.s.P.Q {
		x.lay(q.R.Avail, little(0, 4))
		x.lay(q.R.Used, little(0, 4))
	}
	return x
}

// lay lays bytes at a place of the bus.
func (x *bench) lay(at uint32, b []byte) {
	x.t.Helper()
	must(x.t, x.m.Write(at-base, b))
	x.m.Harvest()
	x.want = x.m.Clone()
}

// read are bytes at a place of the bus.
func (x *bench) read(at uint32, n int) []byte {
	x.t.Helper()
	b, err := x.m.Read(at-base, n)
	must(x.t, err)
	return b
}

// begin lets a queue go on at other counts of what was offered, and given back.
func (x *bench) begin(queue int, last, put uint16) {
	x.t.Helper()
	r := &x.s.P.Q[queue].R
	r.Last, r.Put, x.offered[queue] = last, put, last
	x.lay(r.Avail+2, little(uint64(last), 2))
}

// offer offers a chain; its head.
func (x *bench) offer(queue int, parts ...ring.Seg) int {
	x.t.Helper()
	r, head := x.s.P.Q[queue].R, x.desc[queue]
	for i, p := range parts {
		marks := uint64(0)
		if i+1 < len(parts) {
			marks |= 1
		}
		if p.Write {
			marks |= 2
		}
		n := x.desc[queue]
		x.desc[queue] = (n + 1) % r.Size
		x.lay(r.Desc+uint32(16*n), slices.Concat(little(uint64(p.At), 8), little(uint64(p.N), 4), little(marks, 2), little(uint64(x.desc[queue]), 2)))
	}
	x.lay(r.Avail+4+2*uint32(int(x.offered[queue])%r.Size), little(uint64(head), 2))
	x.offered[queue]++
	x.lay(r.Avail+2, little(uint64(x.offered[queue]), 2))
	return head
}

// given lays what giving a chain back, as the n-th, must make of memory.
func (x *bench) given(queue int, n uint16, head, written int) {
	x.t.Helper()
	r := x.s.P.Q[queue].R
	must(x.t, x.want.Write(r.Used-base+4+8*uint32(int(n)%r.Size), slices.Concat(little(uint64(head), 4), little(uint64(written), 4))))
	must(x.t, x.want.Write(r.Used-base+2, little(uint64(n+1), 2)))
}

// memory fails the test, if memory is not as it must be, or other pages are dirty; none is then.
func (x *bench) memory() {
	x.t.Helper()
	if !x.m.Same(x.want) || !slices.Equal(x.m.Dirty(), x.want.Dirty()) {
		for n := range x.m.Pages() {
			a, _ := x.m.Page(n)
			b, _ := x.want.Page(n)
			for i := range a {
				if a[i] != b[i] {
					x.t.Errorf("at %#x: %d, not %d", base+n*page+i, a[i], b[i])
				}
			}
		}
		x.t.Fatalf("memory is not as it must be; dirty are %v, not %v", x.m.Dirty(), x.want.Dirty())
	}
	x.m.Harvest()
	x.want.Harvest()
}

// with is a state that is changed by a function.
func with(s nic.State, change func(*nic.State)) nic.State {
	change(&s)
	return s
}

// nothing is no change.
func nothing(*nic.State) {}

// silent is the change of a queue that offers nothing more.
func silent(s *nic.State) { s.Bell = false }

// fails is the change of a P that fails, by hand.
func fails(s *nic.State) {
	s.P.Status |= 64
	s.P.Irq |= 2
}

// gave is the change of chains of a queue that were taken and given back.
func gave(queue int, n uint16) func(*nic.State) {
	return func(s *nic.State) {
		s.P.Irq |= 1
		s.P.Q[queue].R.Last += n
		s.P.Q[queue].R.Put += n
	}
}

// all is the change that some changes make, one behind the other.
func all(changes ...func(*nic.State)) func(*nic.State) {
	return func(s *nic.State) {
		for _, c := range changes {
			c(s)
		}
	}
}

// idle are changes by which a queue is not looked at.
func idle(queue int) map[string]func(*nic.State) {
	out := map[string]func(*nic.State){
		"not Ready":           func(s *nic.State) { s.P.Q[queue].Ready = false },
		"no queue":            func(s *nic.State) { s.P.Q[queue] = virtio.Queue{} },
		"not Ready, not Live": func(s *nic.State) { s.P.Q[queue].Ready, s.P.Status = false, 79 },
		"at first":            func(s *nic.State) { s.P = virtio.State{} },
	}
	for _, status := range []uint32{0, 1, 3, 4, 7, 8, 11, 64, 76, 79, 128, 143 - 8, 143 - 4, 143 + 64} {
		out[fmt.Sprint("status ", status)] = func(s *nic.State) { s.P.Status = status }
	}
	return out
}

// noCount are counts of what is offered, at which ring.Next answers an error, if none was taken yet.
func noCount(queue int) []uint64 {
	size := uint64(live().Q[queue].R.Size)
	return []uint64{size + 1, size + 2, 256, 1 << 15, 1<<16 - 1}
}

// noHead are heads, at which ring.Next answers an error.
func noHead(queue int) []uint64 {
	size := uint64(live().Q[queue].R.Size)
	return []uint64{size, size + 1, 256, 1 << 15, 1<<16 - 1}
}

// noRing are settings of a queue by which ring.Next can't do anything.
func noRing(queue int) map[string]func(*ring.Ring) {
	return map[string]func(*ring.Ring){
		"no memory":         func(r *ring.Ring) { r.Avail = base + 8*page },
		"below memory":      func(r *ring.Ring) { r.Avail = base - 4 },
		"half in memory":    func(r *ring.Ring) { r.Avail = base + 8*page - 4 },
		"a Size of 3":       func(r *ring.Ring) { r.Size = 3 },
		"a Size of 0":       func(r *ring.Ring) { r.Size = 0 },
		"a Size below 0":    func(r *ring.Ring) { r.Size = -16 },
		"a Size of 512":     func(r *ring.Ring) { r.Size = 512 },
		"an odd Desc":       func(r *ring.Ring) { r.Desc += 8 },
		"an odd Avail":      func(r *ring.Ring) { r.Avail++ },
		"an odd Used":       func(r *ring.Ring) { r.Used += 2 },
		"the greatest Size": func(r *ring.Ring) { r.Size = math.MaxInt },
	}
}

// noWalk are what offers a chain of which ring.Walk answers an error, be its bytes read or written.
func noWalk(queue int) map[string]func(*bench) {
	descriptor := func(x *bench, part ring.Seg, change func([]byte)) {
		at := x.s.P.Q[queue].R.Desc + uint32(16*x.desc[queue])
		x.offer(queue, part)
		b := x.read(at, 16)
		change(b)
		x.lay(at, b)
	}
	out := map[string]func(*bench){
		"read behind what is written": func(x *bench) { x.offer(queue, append(to(dataAt, 100), from(dataAt+200, 100)...)...) },
		"written, and read, of none":  func(x *bench) { x.offer(queue, append(to(dataAt, 0), from(dataAt+200, 100)...)...) },
	}
	for name, l := range map[string]func(uint32, ...int) []ring.Seg{"read": from, "written": to} {
		part := l(dataAt, 100)[0]
		out["beyond memory, "+name] = func(x *bench) { x.offer(queue, l(base+8*page-99, 100)...) }
		out["below memory, "+name] = func(x *bench) { x.offer(queue, l(base-1, 100)...) }
		out["at 0, "+name] = func(x *bench) { x.offer(queue, l(0, 100)...) }
		out["too many bytes, "+name] = func(x *bench) { x.offer(queue, l(base, 1<<20+1)...) }
		out["beyond memory behind others, "+name] = func(x *bench) { x.offer(queue, append(l(dataAt, 50, 50), l(base+8*page, 1)...)...) }
		out["another mark, "+name] = func(x *bench) { descriptor(x, part, func(b []byte) { b[12] |= 4 }) }
		out["a far mark, "+name] = func(x *bench) { descriptor(x, part, func(b []byte) { b[13] |= 128 }) }
		out["a place of 2^32, "+name] = func(x *bench) { descriptor(x, part, func(b []byte) { b[4] = 1 }) }
		out["round and round, "+name] = func(x *bench) {
			head := x.desc[queue]
			descriptor(x, part, func(b []byte) { copy(b[12:], []byte{b[12] | 1, 0, byte(head), 0}) })
		}
		out["no such descriptor, "+name] = func(x *bench) {
			size := x.s.P.Q[queue].R.Size
			descriptor(x, part, func(b []byte) { copy(b[12:], []byte{b[12] | 1, 0, byte(size), byte(size >> 8)}) })
		}
	}
	return out
}

// noUsed are places where nothing can be given back.
func noUsed() []uint32 {
	return []uint32{0, base + 8*page, base + 8*page - 4, base - 1024, math.MaxUint32 - 3}
}

// checks fails the test, if a state is not taken, or refused, as it must be.
func checks(t *testing.T, name string, s nic.State, may bool) {
	t.Helper()
	want := api.ErrArg
	if may {
		want = 0
	}
	if got := errno(nic.Check(s)); got != want {
		t.Errorf("%s: error %d, not %d", name, got, want)
	}
}

// NC1: a state may be, if P may be; Bell and Lost are anything.
func TestCheck(t *testing.T) {
	for _, bell := range []bool{false, true} {
		for _, lost := range []uint32{0, 1, 1 << 16, 1 << 31, math.MaxUint32} {
			for i, change := range []func(*virtio.State){
				func(p *virtio.State) { *p = virtio.State{} },
				func(*virtio.State) {},
				func(p *virtio.State) { p.Status = 1; p.Drv = [2]uint32{7, 7} },
				func(p *virtio.State) { p.Status |= 64 | 128; p.Irq = 3 },
				func(p *virtio.State) { p.Q[0] = virtio.Queue{} },
				func(p *virtio.State) { p.Q[1].Ready, p.Q[1].R.Size, p.Q[1].R.Desc = false, 3, 1 },
				func(p *virtio.State) { p.Q[1].R.Size = 256 },
				func(p *virtio.State) { p.Q[0].R.Last, p.Q[1].R.Put = math.MaxUint16, math.MaxUint16 },
			} {
				s := nic.State{P: live(), Bell: bell, Lost: lost}
				change(&s.P)
				checks(t, fmt.Sprint("right P ", i, " ", bell, " ", lost), s, true)
			}
			for i, change := range []func(*virtio.State){
				func(p *virtio.State) { p.Status |= 16 },
				func(p *virtio.State) { p.Status |= 32 },
				func(p *virtio.State) { p.Status |= 256 },
				func(p *virtio.State) { p.Irq = 4 },
				func(p *virtio.State) { p.Drv[0] = 1 },
				func(p *virtio.State) { p.Drv[1] = 0 },
				func(p *virtio.State) { p.Q[0].R.Size = 3 },
				func(p *virtio.State) { p.Q[1].R.Size = 257 },
				func(p *virtio.State) { p.Q[0].R.Desc++ },
				func(p *virtio.State) { p.Q[1].R.Used += 2 },
				func(p *virtio.State) { p.Q[1].R.Avail++ },
				func(p *virtio.State) { p.Q[0].Ready, p.Q[0].R.Size = false, -1 },
				func(p *virtio.State) { p.Q[1].Ready, p.Q[1].R.Size = false, 257 },
			} {
				s := nic.State{P: live(), Bell: bell, Lost: lost}
				change(&s.P)
				checks(t, fmt.Sprint("P ", i, " ", bell, " ", lost), s, false)
			}
		}
	}
}
