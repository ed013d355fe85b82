package old_test

import (
	"bytes"
	"fmt"
	"slices"
	"testing"

	"pinnace/api"
	"pinnace/blk"
	"pinnace/bus"
	"pinnace/clint"
	"pinnace/csr"
	"pinnace/dma"
	"pinnace/hart"
	"pinnace/nic"
	"pinnace/plic"
	"pinnace/ring"
	"pinnace/save"
	"pinnace/soc"
	"pinnace/tlv"
	"pinnace/uart"
	"pinnace/virtio"
)

// world is all that a machine is: how it is laid, its state, and all bytes of its memory.
type world struct {
	c soc.Config
	s soc.State
	m []byte
}

// worldOf is the world of a machine.
func worldOf(t *testing.T, x *soc.Machine) world {
	t.Helper()
	b, err := x.Mem().Read(0, x.Config().Pages*page)
	must(t, err)
	return world{x.Config(), x.State(), b}
}

// machine is the machine of a world.
func (w world) machine(t *testing.T) *soc.Machine {
	t.Helper()
	x, err := soc.Load(w.c, w.s, ram(t, w.m))
	must(t, err)
	return x
}

// own is the same world, with lists of its own.
func (w world) own() world {
	w.s.Q.L = slices.Clone(w.s.Q.L)
	w.s.B.In = slices.Clone(w.s.B.In)
	for i := range w.s.B.In {
		w.s.B.In[i].L = slices.Clone(w.s.B.In[i].L)
	}
	w.m = slices.Clone(w.m)
	return w
}

// second is what a world's file of version 2 becomes.
func (w world) second() world {
	w = w.own()
	w.s.H.C.Count = 0
	w.s.Q = bus.Queue{}
	w.s.D = dma.State{}
	w.s.N = nic.State{}
	w.s.B.Bell = true
	return w
}

// first is what a world's file of version 1 becomes.
func (w world) first() world {
	h := hart.State{Pc: w.s.H.Pc, X: w.s.H.X}
	h.C = csr.State{Status: w.s.H.C.Status, Enable: w.s.H.C.Enable, Vector: w.s.H.C.Vector, Epc: w.s.H.C.Epc, Cause: w.s.H.C.Cause}
	return world{soc.Config{Pages: w.c.Pages}, soc.State{
		Ticks: w.s.C.Time,
		H:     h,
		C:     clint.State{Time: w.s.C.Time, Cmp: w.s.C.Cmp},
		U:     uart.State{Rx: w.s.U.Rx, Tx: w.s.U.Tx, Ier: w.s.U.Ier, Lcr: 3},
		B:     blk.State{Bell: true},
	}, slices.Clone(w.m)}
}

// of is what a world's file of some version becomes.
func (w world) of(version int) world {
	return []world{w.first(), w.second(), w}[version-1]
}

// lay are numbers one behind the other, each with the bytes that its type has; a truth is a byte.
func lay(l ...any) []byte {
	var out []byte
	for _, v := range l {
		switch v := v.(type) {
		case bool:
			out = append(out, map[bool]byte{true: 1}[v])
		case byte:
			out = append(out, v)
		case uint16:
			out = append(out, byte(v), byte(v>>8))
		case uint32:
			out = append(out, lay(uint16(v), uint16(v>>16))...)
		case uint64:
			out = append(out, lay(uint32(v), uint32(v>>32))...)
		case []byte:
			out = append(out, v...)
		case []uint32:
			for _, v := range v {
				out = append(out, lay(v)...)
			}
		default:
			panic(fmt.Sprintf("%T", v))
		}
	}
	return out
}

// waiting are the bytes of a fifo that may be.
func waiting(f uart.Fifo) []byte { return lay(uint32(f.N), f.B[:f.N]) }

// setting are the bytes of how a device is set up.
func setting(p virtio.State) []byte {
	out := lay(p.Status, p.FeatSel, p.DrvSel, p.Sel, p.Irq, p.Drv[:])
	for _, q := range p.Q {
		out = append(out, lay(q.Ready, uint16(q.R.Size), q.R.Desc, q.R.Avail, q.R.Used, q.R.Last, q.R.Put)...)
	}
	return out
}

// requests are the bytes of requests that wait.
func requests(l []blk.Req) []byte {
	out := lay(byte(len(l)))
	for _, q := range l {
		out = append(out, lay(q.ID, uint16(q.Head), q.Write, q.Sector, uint32(q.N), uint16(len(q.L)))...)
		for _, p := range q.L {
			out = append(out, lay(p.At, uint32(p.N))...)
		}
	}
	return out
}

// tags are sections of these bytes, with the tags from 1 on.
func tags(l ...[]byte) []tlv.Section {
	var out []tlv.Section
	for i, b := range l {
		out = append(out, tlv.Section{Tag: uint32(i + 1), B: b})
	}
	return out
}

// firstSections are the sections of a world's file of version 1, after the chapter's list.
func firstSections(w world) []tlv.Section {
	c := w.s.H.C
	return tags(
		lay(uint16(w.c.Pages)),
		lay(w.s.H.Pc, w.s.H.X[1:]),
		lay(c.Status, c.Enable, c.Vector, c.Epc, c.Cause),
		lay(w.s.C.Time, w.s.C.Cmp),
		lay(waiting(w.s.U.Rx), waiting(w.s.U.Tx), w.s.U.Ier),
		w.m,
	)
}

// secondSections are those of version 2.
func secondSections(w world) []tlv.Section {
	c, p, u := w.s.H.C, w.s.P, w.s.U
	var priorities []byte
	for _, v := range p.Priority[1:] {
		priorities = append(priorities, byte(v))
	}
	return tags(
		lay(uint32(w.c.Pages), w.c.Sectors),
		lay(w.s.Ticks),
		lay(w.s.H.Pc, w.s.H.X[1:], w.s.H.Wait),
		lay(c.Status, c.Enable, c.Vector, c.Scratch, c.Epc, c.Cause, c.Value),
		lay(byte(w.s.C.Soft), w.s.C.Time, w.s.C.Cmp),
		lay(priorities, p.Enable, byte(p.Threshold), p.Pending, p.Busy),
		lay(waiting(u.Rx), waiting(u.Tx), u.Ier, u.Lcr, u.Mcr, u.Scr, u.Dll, u.Dlm, u.Over, byte(u.Wait)),
		setting(w.s.B.P),
		lay(w.s.B.Next, requests(w.s.B.In)),
		w.m,
	)
}

// lastSections are those of version 3, as save lays them.
func lastSections(t *testing.T, w world) []tlv.Section {
	t.Helper()
	return append(save.Parts(w.c, w.s), tlv.Section{Tag: 14, B: save.Pages(ram(t, w.m))})
}

// sections are those of some version.
func sections(t *testing.T, w world, version int) []tlv.Section {
	t.Helper()
	switch version {
	case 1:
		return firstSections(w)
	case 2:
		return secondSections(w)
	}
	return lastSections(t, w)
}

// eater takes numbers off bytes, by hand.
type eater struct {
	b   []byte
	odd bool // something could not be taken off
}

// bytes are the next so many bytes.
func (e *eater) bytes(n int) []byte {
	if e.odd || n > len(e.b) {
		e.odd = true
		return make([]byte, min(n, 8))
	}
	out := e.b[:n]
	e.b = e.b[n:]
	return out
}

// n is a number of so many bytes, at most so great.
func (e *eater) n(size int, most uint64) uint64 {
	v := uint64(0)
	for i, c := range e.bytes(size) {
		v |= uint64(c) << (8 * i)
	}
	if v > most {
		e.odd = true
		return 0
	}
	return v
}

// half, word and long are numbers of two, four and eight bytes.
func (e *eater) half() uint16 { return uint16(e.n(2, 1<<16)) }
func (e *eater) word() uint32 { return uint32(e.n(4, 1<<32)) }
func (e *eater) long() uint64 { return e.n(8, ^uint64(0)) }

// octet is a number of a byte, truth one that is 0 or 1.
func (e *eater) octet() byte { return byte(e.n(1, 255)) }
func (e *eater) truth() bool { return e.n(1, 1) == 1 }

// fifo is a fifo.
func (e *eater) fifo() uart.Fifo {
	f := uart.Fifo{N: int(e.n(4, 16))}
	copy(f.B[:], e.bytes(f.N))
	return f
}

// setting is how a device is set up.
func (e *eater) setting() virtio.State {
	p := virtio.State{Status: e.word(), FeatSel: e.word(), DrvSel: e.word(), Sel: e.word(), Irq: e.word(), Drv: [2]uint32{e.word(), e.word()}}
	for i := range p.Q {
		p.Q[i] = virtio.Queue{Ready: e.truth(), R: ring.Ring{Size: int(e.half()), Desc: e.word(), Avail: e.word(), Used: e.word(), Last: e.half(), Put: e.half()}}
	}
	return p
}

// requests are the requests that wait.
func (e *eater) requests() []blk.Req {
	var out []blk.Req
	for range e.n(1, 8) {
		q := blk.Req{ID: e.word(), Head: int(e.half()), Write: e.truth(), Sector: e.word(), N: int(e.word())}
		for range e.n(2, 256) {
			q.L = append(q.L, ring.Seg{At: e.word(), N: int(e.word()), Write: true})
		}
		out = append(out, q)
	}
	return out
}

// tellFirst is what sections of version 1 tell, each by its own eater.
func tellFirst(e []*eater) world {
	w := world{c: soc.Config{Pages: int(e[0].half())}}
	w.s.H.Pc = e[1].word()
	for i := range 31 {
		w.s.H.X[1+i] = e[1].word()
	}
	w.s.H.C = csr.State{Status: e[2].word(), Enable: e[2].word(), Vector: e[2].word(), Epc: e[2].word(), Cause: e[2].word()}
	w.s.C = clint.State{Time: e[3].long(), Cmp: e[3].long()}
	w.s.U = uart.State{Rx: e[4].fifo(), Tx: e[4].fifo(), Ier: e[4].octet()}
	return w
}

// tellSecond is what sections of version 2 tell.
func tellSecond(e []*eater) world {
	w := world{c: soc.Config{Pages: int(e[0].word()), Sectors: e[0].word()}}
	s := &w.s
	s.Ticks = e[1].long()
	s.H.Pc = e[2].word()
	for i := range 31 {
		s.H.X[1+i] = e[2].word()
	}
	s.H.Wait = e[2].truth()
	s.H.C = csr.State{Status: e[3].word(), Enable: e[3].word(), Vector: e[3].word(), Scratch: e[3].word(), Epc: e[3].word(), Cause: e[3].word(), Value: e[3].word()}
	s.C = clint.State{Soft: uint32(e[4].octet()), Time: e[4].long(), Cmp: e[4].long()}
	for i := range 7 {
		s.P.Priority[1+i] = uint32(e[5].octet())
	}
	s.P = plic.State{Priority: s.P.Priority, Enable: e[5].word(), Threshold: uint32(e[5].octet()), Pending: e[5].word(), Busy: e[5].word()}
	s.U = uart.State{Rx: e[6].fifo(), Tx: e[6].fifo(), Ier: e[6].octet(), Lcr: e[6].octet(), Mcr: e[6].octet(), Scr: e[6].octet(), Dll: e[6].octet(), Dlm: e[6].octet(), Over: e[6].truth(), Wait: int(e[6].octet())}
	s.B = blk.State{P: e[7].setting(), Sectors: w.c.Sectors, Next: e[8].word(), In: e[8].requests()}
	return w
}

// plainTake is what sections of version 1 or 2 become, or which error they are refused by, after the chapter's words.
func plainTake(version int, l []tlv.Section) (world, api.Errno) {
	if len(l) != []int{6, 10}[version-1] {
		return world{}, api.ErrOrder
	}
	var e []*eater
	for i, s := range l {
		if int(s.Tag) != i+1 {
			return world{}, api.ErrOrder
		}
		e = append(e, &eater{b: slices.Clone(s.B)})
	}
	var w world
	if version == 1 {
		w = tellFirst(e).first()
	} else {
		w = tellSecond(e).second()
	}
	last := e[len(e)-1]
	w.m, last.b = last.b, nil
	odd := w.c.Pages < 1 || w.c.Pages > 16384 || len(w.m) != 4096*w.c.Pages
	for _, e := range e {
		odd = odd || e.odd || len(e.b) > 0
	}
	switch {
	case odd:
		return world{}, api.ErrForm
	case soc.Check(w.c, w.s) != nil:
		return world{}, api.ErrState
	}
	return w, 0
}

// sameSections tells whether two lists hold the same.
func sameSections(a, b []tlv.Section) bool {
	return slices.EqualFunc(a, b, func(x, y tlv.Section) bool { return x.Tag == y.Tag && bytes.Equal(x.B, y.B) })
}
