package old_test

import (
	"math/rand"

	"pinnace/blk"
	"pinnace/bus"
	"pinnace/ring"
	"pinnace/soc"
	"pinnace/virtio"
)

// number is a number by chance: a little one, one of one bit, a multiple of 16, or any.
func number(r *rand.Rand) uint64 {
	v := r.Uint64()
	switch r.Intn(4) {
	case 0:
		return uint64(r.Intn(20))
	case 1:
		return 1 << r.Intn(64)
	case 2:
		return v &^ 15
	}
	return v
}

// put sets the number, or the truth, that a pointer points to.
func put(p any, v uint64) {
	switch p := p.(type) {
	case *bool:
		*p = v%2 == 1
	case *byte:
		*p = byte(v)
	case *uint16:
		*p = uint16(v)
	case *uint32:
		*p = uint32(v)
	case *uint64:
		*p = v
	case *int:
		*p = int(v)
	default:
		panic("no number")
	}
}

// settingNumbers are all numbers of how a device is set up.
func settingNumbers(p *virtio.State) []any {
	out := []any{&p.Status, &p.FeatSel, &p.DrvSel, &p.Sel, &p.Irq, &p.Drv[0], &p.Drv[1]}
	for i := range p.Q {
		q := &p.Q[i]
		out = append(out, &q.R.Size, &q.R.Desc, &q.R.Avail, &q.R.Used, &q.R.Last, &q.R.Put, &q.Ready)
	}
	return out
}

// stateNumbers are all numbers of a state that are no list's, and no fifo's.
func stateNumbers(s *soc.State) []any {
	c, u, d := &s.H.C, &s.U, &s.D
	out := []any{&s.Ticks, &s.H.Pc, &s.H.Wait, &c.Status, &c.Enable, &c.Vector, &c.Scratch, &c.Epc, &c.Cause, &c.Value, &c.Count}
	for i := range s.H.X {
		out = append(out, &s.H.X[i])
	}
	out = append(out, &s.C.Soft, &s.C.Time, &s.C.Cmp)
	for i := range s.P.Priority {
		out = append(out, &s.P.Priority[i])
	}
	out = append(out, &s.P.Enable, &s.P.Threshold, &s.P.Pending, &s.P.Busy)
	out = append(out, &u.Ier, &u.Lcr, &u.Mcr, &u.Scr, &u.Dll, &u.Dlm, &u.Over, &u.Wait)
	out = append(out, &d.Code, &d.Head, &d.At, &d.Steps, &d.Moved, &d.Asks, &d.Have, &d.From, &d.To, &d.Left, &d.Next)
	out = append(out, &s.B.Bell, &s.B.Next, &s.N.Bell, &s.N.Lost)
	out = append(out, settingNumbers(&s.B.P)...)
	return append(out, settingNumbers(&s.N.P)...)
}

// someLists gives a state bytes in both fifos, writes that wait, and an order, by chance.
func someLists(r *rand.Rand, s *soc.State) {
	s.U.Rx.N, s.U.Tx.N = r.Intn(17), r.Intn(17)
	r.Read(s.U.Rx.B[:s.U.Rx.N])
	r.Read(s.U.Tx.B[:s.U.Tx.N])
	for range r.Intn(9) {
		p := bus.Post{Dev: 1 + r.Intn(6), N: 4, At: 4 * uint32(r.Intn(64)), Value: r.Uint32()}
		if p.Dev == 3 {
			p.N, p.At = 1, p.At/32
		}
		s.Q.L = append(s.Q.L, p)
	}
	if r.Intn(2) == 0 {
		s.D.Code, s.D.Have, s.D.Left = 1, true, 1+uint32(r.Intn(65536))
	}
}

// someRequest is a request that may wait.
func someRequest(r *rand.Rand, c soc.Config, id uint32) blk.Req {
	q := blk.Req{ID: id, Head: r.Intn(256), Write: r.Intn(2) == 0, N: 512 * (1 + r.Intn(3)), Sector: uint32(r.Intn(int(c.Sectors) - 2))}
	left := q.N + 1
	if q.Write {
		left = 1 + r.Intn(99)
	}
	for left > 0 {
		n := min(left, r.Intn(700))
		q.L = append(q.L, ring.Seg{At: base + uint32(r.Intn(c.Pages*page-n)), N: n, Write: true})
		left -= n
	}
	return q
}

// someWorld is a world that may be, by chance: each of its numbers is another one, where the state may be then.
func someWorld(r *rand.Rand) world {
	w := world{c: soc.Config{Pages: 1 + r.Intn(4), Sectors: 3 + uint32(r.Intn(1<<20-2))}}
	s := &w.s
	s.B.Sectors = w.c.Sectors
	someLists(r, s)
	l := stateNumbers(s)
	for range 3 * len(l) {
		was := *s
		put(l[r.Intn(len(l))], number(r))
		if soc.Check(w.c, *s) != nil {
			*s = was
		}
	}
	n := r.Intn(9)
	if n > 0 && s.B.P.Status == 0 {
		s.B.P.Status = 1
	}
	for i := range n {
		s.B.In = append(s.B.In, someRequest(r, w.c, s.B.Next+1+uint32(i)*77))
	}
	w.m = make([]byte, w.c.Pages*page)
	for range r.Intn(5) {
		at := r.Intn(len(w.m))
		r.Read(w.m[at:min(len(w.m), at+r.Intn(page))])
	}
	return w
}
