package save

import (
	"pinnace/blk"
	"pinnace/bus"
	"pinnace/clint"
	"pinnace/csr"
	"pinnace/dma"
	"pinnace/hart"
	"pinnace/nic"
	"pinnace/plic"
	"pinnace/ring"
	"pinnace/soc"
	"pinnace/tlv"
	"pinnace/uart"
	"pinnace/virtio"
)

// How many bytes numbers have.
const (
	octetBytes  = 1
	halfBytes   = 2
	wordBytes   = 4
	doubleBytes = 8
)

// writer lays a section's numbers behind one another.
type writer struct{ *tlv.Out }

// newWriter has nothing.
func newWriter() writer { return writer{tlv.NewOut()} }

// octets lays numbers of one byte.
func (w writer) octets(l ...byte) {
	for _, v := range l {
		w.N(uint64(v), octetBytes)
	}
}

// halves lays numbers of two bytes.
func (w writer) halves(l ...uint16) {
	for _, v := range l {
		w.N(uint64(v), halfBytes)
	}
}

// words lays numbers of four bytes.
func (w writer) words(l ...uint32) {
	for _, v := range l {
		w.N(uint64(v), wordBytes)
	}
}

// doubles lays numbers of eight bytes.
func (w writer) doubles(l ...uint64) {
	for _, v := range l {
		w.N(v, doubleBytes)
	}
}

// truths lays 1 of each that holds, and else 0.
func (w writer) truths(l ...bool) {
	for _, is := range l {
		if is {
			w.octets(1)
		} else {
			w.octets(0)
		}
	}
}

// fifo lays the bytes that wait in a fifo; one whose number can't be has none.
func (w writer) fifo(f uart.Fifo) {
	n := f.N
	if n < 0 || n > len(f.B) {
		n = 0
	}
	w.Run(f.B[:n])
}

// queue lays how a queue of a device is set up.
func (w writer) queue(q virtio.Queue) {
	w.truths(q.Ready)
	w.halves(uint16(q.R.Size))
	w.words(q.R.Desc, q.R.Avail, q.R.Used)
	w.halves(q.R.Last, q.R.Put)
}

// request lays a request that waits for the disk.
func (w writer) request(r blk.Req) {
	w.words(r.ID)
	w.halves(uint16(r.Head))
	w.truths(r.Write)
	w.words(r.Sector, uint32(r.N))
	w.halves(uint16(len(r.L)))
	for _, p := range r.L {
		w.part(p)
	}
}

// part lays a part of a request. All of these are parts that the device writes, which need not be told.
func (w writer) part(p ring.Seg) { w.words(p.At, uint32(p.N)) }

// layConfig are the bytes of a config.
func layConfig(c soc.Config) []byte {
	w := newWriter()
	w.words(uint32(c.Pages), c.Sectors)
	return w.Done()
}

// layTicks are the bytes of a count of ticks.
func layTicks(ticks uint64) []byte {
	w := newWriter()
	w.doubles(ticks)
	return w.Done()
}

// layHart are the bytes of a hart. X's first one is always 0.
func layHart(h hart.State) []byte {
	w := newWriter()
	w.words(h.Pc)
	w.words(h.X[1:]...)
	w.truths(h.Wait)
	return w.Done()
}

// layControl are the bytes of the control registers.
func layControl(s csr.State) []byte {
	w := newWriter()
	w.words(s.Status, s.Enable, s.Vector, s.Scratch, s.Epc, s.Cause, s.Value)
	w.doubles(s.Count)
	return w.Done()
}

// layPosts are the bytes of the writes that wait.
func layPosts(l []bus.Post) []byte {
	w := newWriter()
	w.octets(byte(len(l)))
	for _, p := range l {
		w.octets(byte(p.Dev))
		w.words(p.At)
		w.octets(byte(p.N))
		w.words(p.Value)
	}
	return w.Done()
}

// layTimer are the bytes of the timer.
func layTimer(s clint.State) []byte {
	w := newWriter()
	w.octets(byte(s.Soft))
	w.doubles(s.Time, s.Cmp)
	return w.Done()
}

// laySources are the bytes of the controller of the sources. The source 0 is none, and has no priority.
func laySources(s plic.State) []byte {
	w := newWriter()
	for _, priority := range s.Priority[1:] {
		w.octets(byte(priority))
	}
	w.words(s.Enable)
	w.octets(byte(s.Threshold))
	w.words(s.Pending, s.Busy)
	return w.Done()
}

// layPort are the bytes of the port.
func layPort(s uart.State) []byte {
	w := newWriter()
	w.fifo(s.Rx)
	w.fifo(s.Tx)
	w.octets(s.Ier, s.Lcr, s.Mcr, s.Scr, s.Dll, s.Dlm)
	w.truths(s.Over)
	w.octets(byte(s.Wait))
	return w.Done()
}

// layEngine are the bytes of the engine.
func layEngine(s dma.State) []byte {
	w := newWriter()
	w.octets(byte(s.Code))
	w.words(s.Head, s.At)
	w.octets(byte(s.Steps))
	w.words(s.Moved)
	w.truths(s.Have)
	w.words(s.From, s.To, s.Left, s.Next)
	w.truths(s.Asks)
	return w.Done()
}

// laySetting are the bytes of how a device is set up.
func laySetting(s virtio.State) []byte {
	w := newWriter()
	w.words(s.Status, s.FeatSel, s.DrvSel, s.Sel, s.Irq)
	w.words(s.Drv[:]...)
	for _, q := range s.Q {
		w.queue(q)
	}
	return w.Done()
}

// layDisk are the bytes of the disk, but for how it is set up.
func layDisk(s blk.State) []byte {
	w := newWriter()
	w.truths(s.Bell)
	w.words(s.Next)
	w.octets(byte(len(s.In)))
	for _, r := range s.In {
		w.request(r)
	}
	return w.Done()
}

// layNet are the bytes of the net device, but for how it is set up.
func layNet(s nic.State) []byte {
	w := newWriter()
	w.truths(s.Bell)
	w.words(s.Lost)
	return w.Done()
}
