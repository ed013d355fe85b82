package save

import (
	"math"

	"pinnace/blk"
	"pinnace/bus"
	"pinnace/clint"
	"pinnace/csr"
	"pinnace/dma"
	"pinnace/hart"
	"pinnace/nic"
	"pinnace/plic"
	"pinnace/ring"
	"pinnace/soc"
	"pinnace/tlv"
	"pinnace/uart"
	"pinnace/virtio"
)

// How many there are at most.
const (
	mostPosts    = 8
	mostRequests = 8
	mostSegs     = 256
)

// reader takes a section's numbers off again, in the order in which a writer laid them. Behind the first one that can't
// be it answers nothing, so that its error is asked for at the end alone.
type reader struct{ *tlv.In }

// newReader begins at the first byte.
func newReader(b []byte) reader { return reader{tlv.NewIn(b)} }

// octet is a number of one byte.
func (r reader) octet() byte { return byte(r.N(octetBytes, math.MaxUint8)) }

// half is a number of two bytes.
func (r reader) half() uint16 { return uint16(r.N(halfBytes, math.MaxUint16)) }

// word is a number of four bytes.
func (r reader) word() uint32 { return uint32(r.N(wordBytes, math.MaxUint32)) }

// double is a number of eight bytes.
func (r reader) double() uint64 { return r.N(doubleBytes, math.MaxUint64) }

// truth tells whether the next byte is 1; else it must be 0.
func (r reader) truth() bool { return r.N(octetBytes, 1) == 1 }

// fifo is a fifo in which these bytes wait.
func (r reader) fifo() uart.Fifo {
	var f uart.Fifo
	f.N = copy(f.B[:], r.Run(len(f.B)))
	return f
}

// config is how a machine is laid.
func (r reader) config() soc.Config {
	return soc.Config{Pages: int(r.word()), Sectors: r.word()}
}

// hart is a hart, but for its control registers.
func (r reader) hart() hart.State {
	h := hart.State{Pc: r.word()}
	for i := 1; i < len(h.X); i++ {
		h.X[i] = r.word()
	}
	h.Wait = r.truth()
	return h
}

// control are the control registers.
func (r reader) control() csr.State {
	return csr.State{
		Status:  r.word(),
		Enable:  r.word(),
		Vector:  r.word(),
		Scratch: r.word(),
		Epc:     r.word(),
		Cause:   r.word(),
		Value:   r.word(),
		Count:   r.double(),
	}
}

// queue are the writes that wait.
func (r reader) queue() bus.Queue {
	var q bus.Queue
	for range r.N(octetBytes, mostPosts) {
		q.L = append(q.L, bus.Post{Dev: int(r.octet()), At: r.word(), N: int(r.octet()), Value: r.word()})
	}
	return q
}

// timer is the timer.
func (r reader) timer() clint.State {
	return clint.State{Soft: uint32(r.octet()), Time: r.double(), Cmp: r.double()}
}

// sources is the controller of the sources.
func (r reader) sources() plic.State {
	var s plic.State
	for i := 1; i < len(s.Priority); i++ {
		s.Priority[i] = uint32(r.octet())
	}
	s.Enable = r.word()
	s.Threshold = uint32(r.octet())
	s.Pending = r.word()
	s.Busy = r.word()
	return s
}

// port is the port.
func (r reader) port() uart.State {
	return uart.State{
		Rx:   r.fifo(),
		Tx:   r.fifo(),
		Ier:  r.octet(),
		Lcr:  r.octet(),
		Mcr:  r.octet(),
		Scr:  r.octet(),
		Dll:  r.octet(),
		Dlm:  r.octet(),
		Over: r.truth(),
		Wait: int(r.octet()),
	}
}

// engine is the engine.
func (r reader) engine() dma.State {
	return dma.State{
		Code:  uint32(r.octet()),
		Head:  r.word(),
		At:    r.word(),
		Steps: uint32(r.octet()),
		Moved: r.word(),
		Have:  r.truth(),
		From:  r.word(),
		To:    r.word(),
		Left:  r.word(),
		Next:  r.word(),
		Asks:  r.truth(),
	}
}

// setting is how a device is set up.
func (r reader) setting() virtio.State {
	s := virtio.State{Status: r.word(), FeatSel: r.word(), DrvSel: r.word(), Sel: r.word(), Irq: r.word()}
	for i := range s.Drv {
		s.Drv[i] = r.word()
	}
	for i := range s.Q {
		s.Q[i] = virtio.Queue{Ready: r.truth(), R: r.ring()}
	}
	return s
}

// ring is a queue's ring.
func (r reader) ring() ring.Ring {
	return ring.Ring{Size: int(r.half()), Desc: r.word(), Avail: r.word(), Used: r.word(), Last: r.half(), Put: r.half()}
}

// disk is the disk, but for how it is set up, and how many sectors it has.
func (r reader) disk() blk.State {
	s := blk.State{Bell: r.truth(), Next: r.word()}
	for range r.N(octetBytes, mostRequests) {
		s.In = append(s.In, r.request())
	}
	return s
}

// request is a request that waits for the disk.
func (r reader) request() blk.Req {
	q := blk.Req{ID: r.word(), Head: int(r.half()), Write: r.truth(), Sector: r.word(), N: int(r.word())}
	for range r.N(halfBytes, mostSegs) {
		q.L = append(q.L, ring.Seg{At: r.word(), N: int(r.word()), Write: true})
	}
	return q
}

// net is the net device, but for how it is set up.
func (r reader) net() nic.State {
	return nic.State{Bell: r.truth(), Lost: r.word()}
}
