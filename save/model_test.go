package save_test

import (
	"bytes"
	"math/rand"
	"slices"

	"pinnace/api"
	"pinnace/blk"
	"pinnace/bus"
	"pinnace/dma"
	"pinnace/mem"
	"pinnace/ring"
	"pinnace/soc"
	"pinnace/tlv"
	"pinnace/uart"
	"pinnace/virtio"
)

// held is what the sections 1 to 13 hold.
type held struct {
	c soc.Config
	s soc.State
}

// own is the same, with lists of its own.
func (h held) own() *held {
	h.s.Q.L = slices.Clone(h.s.Q.L)
	h.s.B.In = slices.Clone(h.s.B.In)
	for i := range h.s.B.In {
		h.s.B.In[i].L = slices.Clone(h.s.B.In[i].L)
	}
	return &h
}

// walker goes over a section's numbers, in order: it lays them, or takes them off, or makes them by chance.
type walker struct {
	b      []byte
	takes  bool
	odd    bool // something could not be taken off
	chance *rand.Rand
}

// number goes over a number.
func number[T ~int | ~byte | ~uint16 | ~uint32 | ~uint64](w *walker, size int, most uint64, p *T) {
	switch {
	case w.chance != nil:
		*p = T(w.chance.Uint64())
		if w.chance.Intn(3) == 0 {
			*p = T(w.chance.Intn(20))
		}
	case !w.takes:
		w.b = append(w.b, little(uint64(*p), size)...)
	case w.odd || len(w.b) < size:
		w.odd = true
		*p = 0
	default:
		v := uint64(0)
		for i := range size {
			v += uint64(w.b[i]) << (8 * i)
		}
		w.b = w.b[size:]
		w.odd = v > most
		*p = T(v)
	}
}

// all goes over numbers of as many bytes.
func all[T ~int | ~byte | ~uint16 | ~uint32 | ~uint64](w *walker, size int, l ...*T) {
	for _, p := range l {
		number(w, size, ^uint64(0), p)
	}
}

// truth goes over a truth.
func truth(w *walker, p *bool) {
	v := 0
	if *p {
		v = 1
	}
	number(w, 1, 1, &v)
	*p = v%2 == 1
}

// count goes over how many there are in a list, which has as many then.
func count[T any](w *walker, size, most int, l *[]T) {
	n := len(*l)
	if w.chance != nil {
		n = w.chance.Intn(5)
	} else {
		number(w, size, uint64(most), &n)
	}
	if w.odd {
		n = 0
	}
	if w.takes || w.chance != nil {
		*l = make([]T, n)
	}
}

// fifo goes over a fifo.
func fifo(w *walker, f *uart.Fifo) {
	n := f.N
	if w.chance != nil {
		n = w.chance.Intn(17)
	} else {
		if n < 0 || n > 16 {
			n = 0
		}
		number(w, 4, 16, &n)
	}
	if w.odd {
		n = 0
	}
	for i := range n {
		all(w, 1, &f.B[i])
	}
	if w.takes || w.chance != nil {
		f.N = n
	}
}

// setting goes over how a device is set up.
func setting(w *walker, p *virtio.State) {
	all(w, 4, &p.Status, &p.FeatSel, &p.DrvSel, &p.Sel, &p.Irq, &p.Drv[0], &p.Drv[1])
	for i := range p.Q {
		q := &p.Q[i]
		truth(w, &q.Ready)
		all(w, 2, &q.R.Size)
		all(w, 4, &q.R.Desc, &q.R.Avail, &q.R.Used)
		all(w, 2, &q.R.Last, &q.R.Put)
	}
}

// requests goes over the requests that wait.
func requests(w *walker, b *blk.State) {
	count(w, 1, 8, &b.In)
	for i := range b.In {
		q := &b.In[i]
		all(w, 4, &q.ID)
		all(w, 2, &q.Head)
		truth(w, &q.Write)
		all(w, 4, &q.Sector)
		all(w, 4, &q.N)
		count(w, 2, 256, &q.L)
		for k := range q.L {
			all(w, 4, &q.L[k].At)
			all(w, 4, &q.L[k].N)
			if w.takes {
				q.L[k].Write = true
			}
		}
	}
}

// walk goes over one of the sections 1 to 13, after the chapter's list.
func walk(w *walker, tag int, h *held) {
	s, c := &h.s, &h.s.H.C
	switch tag {
	case 1:
		all(w, 4, &h.c.Pages)
		all(w, 4, &h.c.Sectors)
	case 2:
		all(w, 8, &s.Ticks)
	case 3:
		all(w, 4, &s.H.Pc)
		for i := range 31 {
			all(w, 4, &s.H.X[1+i])
		}
		truth(w, &s.H.Wait)
	case 4:
		all(w, 4, &c.Status, &c.Enable, &c.Vector, &c.Scratch, &c.Epc, &c.Cause, &c.Value)
		all(w, 8, &c.Count)
	case 5:
		count(w, 1, 8, &s.Q.L)
		for i := range s.Q.L {
			p := &s.Q.L[i]
			all(w, 1, &p.Dev)
			all(w, 4, &p.At)
			all(w, 1, &p.N)
			all(w, 4, &p.Value)
		}
	case 6:
		all(w, 1, &s.C.Soft)
		all(w, 8, &s.C.Time, &s.C.Cmp)
	case 7:
		for i := range 7 {
			all(w, 1, &s.P.Priority[1+i])
		}
		all(w, 4, &s.P.Enable)
		all(w, 1, &s.P.Threshold)
		all(w, 4, &s.P.Pending, &s.P.Busy)
	case 8:
		u := &s.U
		fifo(w, &u.Rx)
		fifo(w, &u.Tx)
		all(w, 1, &u.Ier, &u.Lcr, &u.Mcr, &u.Scr, &u.Dll, &u.Dlm)
		truth(w, &u.Over)
		all(w, 1, &u.Wait)
	case 9:
		engine(w, &s.D)
	case 10:
		setting(w, &s.B.P)
	case 11:
		truth(w, &s.B.Bell)
		all(w, 4, &s.B.Next)
		requests(w, &s.B)
	case 12:
		setting(w, &s.N.P)
	case 13:
		truth(w, &s.N.Bell)
		all(w, 4, &s.N.Lost)
	}
}

// engine goes over the engine.
func engine(w *walker, d *dma.State) {
	all(w, 1, &d.Code)
	all(w, 4, &d.Head, &d.At)
	all(w, 1, &d.Steps)
	all(w, 4, &d.Moved)
	truth(w, &d.Have)
	all(w, 4, &d.From, &d.To, &d.Left, &d.Next)
	truth(w, &d.Asks)
}

// plainParts are the sections that Parts must answer.
func plainParts(h held) []tlv.Section {
	var out []tlv.Section
	for tag := 1; tag <= 13; tag++ {
		w := walker{}
		walk(&w, tag, h.own())
		out = append(out, tlv.Section{Tag: uint32(tag), B: w.b})
	}
	return out
}

// plainWhole is what Whole must answer.
func plainWhole(l []tlv.Section) (held, api.Errno) {
	if len(l) != 13 {
		return held{}, api.ErrOrder
	}
	for i, s := range l {
		if int(s.Tag) != i+1 {
			return held{}, api.ErrOrder
		}
	}
	var h held
	odd := false
	for i, s := range l {
		w := walker{takes: true, b: slices.Clone(s.B)}
		walk(&w, i+1, &h)
		odd = odd || w.odd || len(w.b) > 0
	}
	h.s.B.Sectors = h.c.Sectors
	switch {
	case odd:
		return held{}, api.ErrForm
	case soc.Check(h.c, h.s) != nil:
		return held{}, api.ErrState
	}
	return h, 0
}

// plainPages are the bytes that Pages must answer.
func plainPages(m *mem.Ram) []byte {
	var out []byte
	n := 0
	for i := range m.Pages() {
		b, _ := m.Read(uint32(i*page), page)
		if len(bytes.Trim(b, "\x00")) > 0 {
			n++
			out = append(append(out, little(uint64(i), 4)...), b...)
		}
	}
	return append(little(uint64(n), 4), out...)
}

// plainFill are the bytes that all memory must hold that Fill answers.
func plainFill(pages int, b []byte) ([]byte, api.Errno) {
	if pages < 1 || pages > 16384 {
		return nil, api.ErrArg
	}
	told := func(at int) int {
		return int(b[at]) + int(b[at+1])<<8 + int(b[at+2])<<16 + int(b[at+3])<<24
	}
	if len(b) < 4 || len(b) != 4+told(0)*4100 {
		return nil, api.ErrForm
	}
	out := make([]byte, pages*page)
	last := -1
	for at := 4; at < len(b); at += 4100 {
		n, own := told(at), b[at+4:at+4100]
		if n <= last || n >= pages || bytes.Count(own, []byte{0}) == page {
			return nil, api.ErrForm
		}
		copy(out[n*page:], own)
		last = n
	}
	return out, 0
}

// anyHeld is a config and a state by chance, which need not be ones that may be.
func anyHeld(r *rand.Rand) held {
	var h held
	for tag := 1; tag <= 13; tag++ {
		walk(&walker{chance: r}, tag, &h)
	}
	return h
}

// mayBe makes a setting one that may be.
func mayBe(r *rand.Rand, p virtio.State) virtio.State {
	p.Status &= 1 | 2 | 4 | 8 | 64 | 128
	p.Irq &= 3
	if p.Status&8 != 0 {
		p.Drv = [2]uint32{0, 1}
	}
	for i := range p.Q {
		q := &p.Q[i]
		q.R.Size = r.Intn(257)
		if q.Ready {
			q.R.Size = 1 << r.Intn(9)
			q.R.Desc &^= 15
			q.R.Avail &^= 1
			q.R.Used &^= 3
		}
	}
	return p
}

// somePosts are so many writes that may wait.
func somePosts(r *rand.Rand, n int) []bus.Post {
	sizes := []uint32{0, 65536, 4194304, 8, 256, 512, 512}
	var out []bus.Post
	for range n {
		p := bus.Post{Dev: 1 + r.Intn(6), N: 4, Value: r.Uint32()}
		if p.Dev == 3 {
			p.N = 1
		}
		p.At = uint32(r.Intn(int(sizes[p.Dev]))) / uint32(p.N) * uint32(p.N)
		out = append(out, p)
	}
	return out
}

// someParts are parts of so many bytes in all, in memory of so many pages.
func someParts(r *rand.Rand, pages, n int) []ring.Seg {
	var out []ring.Seg
	for n > 0 || r.Intn(4) == 0 {
		size := min(n, r.Intn(400))
		at := base + uint32(r.Intn(pages*page-size+1))
		if size == 0 {
			at = r.Uint32()
		}
		out = append(out, ring.Seg{At: at, N: size, Write: true})
		n -= size
	}
	return out
}

// someRequests are so many requests that may wait.
func someRequests(r *rand.Rand, c soc.Config, n int) []blk.Req {
	var out []blk.Req
	for i := range n {
		q := blk.Req{ID: r.Uint32()/20*10 + uint32(i), Head: r.Intn(256), Write: r.Intn(2) == 0, N: 512 * (1 + r.Intn(4))}
		q.Sector = uint32(r.Intn(int(c.Sectors) - 4))
		q.L = someParts(r, c.Pages, q.N+1)
		if q.Write {
			q.L = someParts(r, c.Pages, 1+r.Intn(600))
		}
		out = append(out, q)
	}
	return out
}

// someHeld is a config and a state by chance, which may be.
func someHeld(r *rand.Rand) held {
	h := anyHeld(r)
	s := &h.s
	h.c = soc.Config{Pages: 1 + r.Intn(6), Sectors: 5 + uint32(r.Intn(1<<20-4))}
	s.H.Pc &^= 3
	s.H.C.Status &= 0x88
	s.H.C.Enable &= 0x888
	s.H.C.Vector &^= 2
	s.H.C.Epc &^= 3
	s.Q.L = somePosts(r, r.Intn(9))
	s.C.Soft &= 1
	for i := range s.P.Priority {
		s.P.Priority[i] &= 7
	}
	s.P.Enable, s.P.Pending, s.P.Busy, s.P.Threshold = s.P.Enable&0xfe, s.P.Pending&0xfe, s.P.Busy&0xfe, s.P.Threshold&7
	s.U.Ier, s.U.Mcr, s.U.Wait = s.U.Ier&7, s.U.Mcr&31, 0
	if s.U.Tx.N > 0 {
		s.U.Wait = r.Intn(4)
	}
	s.D.Code, s.D.Steps = uint32(r.Intn(4)), uint32(r.Intn(65))
	s.D.Have = s.D.Have && s.D.Code == 1
	s.D.Asks = s.D.Asks && s.D.Code > 1
	s.D.Left = 1 + s.D.Left%65536
	if !s.D.Have {
		s.D.From, s.D.To, s.D.Left, s.D.Next = 0, 0, 0, 0
	}
	s.B.P, s.N.P = mayBe(r, s.B.P), mayBe(r, s.N.P)
	s.B.Sectors = h.c.Sectors
	s.B.Next = s.B.Next/20*10 + 9 // no ID, as those end with 0 to 7
	s.B.In = nil
	if s.B.P.Status != 0 {
		s.B.In = someRequests(r, h.c, r.Intn(9))
	}
	return h
}
