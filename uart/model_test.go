package uart_test

import (
	"math/rand"
	"testing"

	"pinnace/uart"
)

// second is a port after the chapter's words: bytes in lists, and of what goes out the tick from which on its first byte is on its way.
type second struct {
	rx, tx []byte
	over   bool
	regs   map[string]byte
	now    int
	since  int
}

// newSecond is the second port that begins.
func newSecond() *second {
	return &second{regs: map[string]byte{}}
}

// fifoOf is a list as a fifo.
func fifoOf(l []byte) uart.Fifo {
	return fifo(string(l))
}

// state is what it would be as a state.
func (m *second) state() uart.State {
	s := uart.State{Rx: fifoOf(m.rx), Tx: fifoOf(m.tx), Over: m.over}
	s.Ier, s.Lcr, s.Mcr, s.Scr, s.Dll, s.Dlm = m.regs["ier"], m.regs["lcr"], m.regs["mcr"], m.regs["scr"], m.regs["dll"], m.regs["dlm"]
	if len(m.tx) > 0 {
		s.Wait = m.now - m.since
	}
	return s
}

// put lets a byte come.
func (m *second) put(c byte) {
	if len(m.rx) >= 16 {
		m.over = true
		return
	}
	m.rx = append(m.rx, c)
}

// tick lets a tick go by; what goes out.
func (m *second) tick() []byte {
	m.now++
	if len(m.tx) == 0 || m.now-m.since < 4 {
		return nil
	}
	out := m.tx[:1]
	m.tx, m.since = m.tx[1:], m.now
	return out
}

// asks is what it asks for.
func (m *second) asks() byte {
	holds := map[byte]bool{6: m.over && m.regs["ier"]/4%2 == 1, 4: len(m.rx) > 0 && m.regs["ier"]%2 == 1, 2: len(m.tx) == 0 && m.regs["ier"]/2%2 == 1}
	for _, v := range []byte{6, 4, 2} {
		if holds[v] {
			return v
		}
	}
	return 1
}

// register is the name of what a place means, where it means a register that keeps what is written.
func (m *second) register(at uint32) string {
	if m.regs["lcr"] >= 128 && at < 2 {
		return []string{"dll", "dlm"}[at]
	}
	return map[uint32]string{1: "ier", 3: "lcr", 4: "mcr", 7: "scr"}[at]
}

// read reads a place that there is.
func (m *second) read(at uint32) byte {
	if name := m.register(at); name != "" {
		return m.regs[name]
	}
	c := byte(0)
	switch at {
	case 0:
		if len(m.rx) > 0 {
			c, m.rx = m.rx[0], m.rx[1:]
		}
	case 2:
		c = 192 + m.asks()
	case 5:
		if len(m.rx) > 0 {
			c++
		}
		if m.over {
			c += 2
		}
		if len(m.tx) == 0 {
			c += 32 + 64
		}
		m.over = false
	}
	return c
}

// write writes a place that there is.
func (m *second) write(at uint32, v byte) {
	if name := m.register(at); name != "" {
		keeps := map[string]int{"ier": 8, "mcr": 32}
		if n := keeps[name]; n != 0 {
			v = byte(int(v) % n)
		}
		m.regs[name] = v
		return
	}
	switch at {
	case 0:
		if len(m.tx) == 0 {
			m.since = m.now
		}
		if len(m.tx) < 16 {
			m.tx = append(m.tx, v)
		}
	case 2:
		if v/2%2 == 1 {
			m.rx, m.over = nil, false
		}
		if v/4%2 == 1 {
			m.tx = nil
		}
	}
}

// weights are how often each step is made, of ways on which little, and much, comes and goes out.
type weights struct{ put, tick, read, write int }

// UA1 to UA4: long ways by chance from a seed, step by step against the second port.
func TestLongWays(t *testing.T) {
	r := rand.New(rand.NewSource(11))
	for way, w := range []weights{{1, 1, 1, 1}, {5, 1, 1, 1}, {1, 8, 1, 1}, {1, 1, 5, 1}, {1, 1, 1, 5}, {4, 16, 4, 4}, {6, 3, 1, 6}, {3, 9, 3, 2}} {
		for range 20 {
			longWay(t, way, r, w)
		}
	}
}

// longWay goes one way, of steps by chance.
func longWay(t *testing.T, way int, r *rand.Rand, w weights) {
	t.Helper()
	var s uart.State
	m := newSecond()
	for step := range 600 {
		n := r.Intn(w.put + w.tick + w.read + w.write)
		switch {
		case n < w.put:
			c := byte(r.Intn(256))
			m.put(c)
			s = uart.Put(s, c)
		case n < w.put+w.tick:
			out := m.tick()
			var c byte
			var is bool
			s, c, is = uart.Tick(s)
			if is != (len(out) == 1) || is && c != out[0] || !is && c != 0 {
				t.Fatalf("way %d, step %d: out went %d, %v, not %v", way, step, c, is, out)
			}
		case n < w.put+w.tick+w.read:
			// Most reads are of the places that change the port.
			at := []uint32{0, 0, 0, 0, 0, 1, 2, 3, 4, 5, 6, 7}[r.Intn(12)]
			want := m.read(at)
			var c byte
			var err error
			if s, c, err = uart.Read(s, at); c != want || err != nil {
				t.Fatalf("way %d, step %d: %d reads %d, %v, not %d", way, step, at, c, err, want)
			}
		default:
			// Were the fifos emptied as often as they are filled, none would ever be full; and Lcr's bit 7 is rarely set.
			at, v := []uint32{0, 0, 0, 0, 0, 0, 0, 0, 0, 1, 3, 4, 5, 6, 7}[r.Intn(15)], byte(r.Intn(256))
			if r.Intn(40) == 0 {
				at = 2
			}
			if at == 3 && r.Intn(3) != 0 {
				v %= 128
			}
			m.write(at, v)
			var err error
			if s, err = uart.Write(s, at, v); err != nil {
				t.Fatalf("way %d, step %d: %v", way, step, err)
			}
		}
		if s != m.state() || uart.Check(s) != nil || uart.Asks(s) != (m.asks() != 1) {
			t.Fatalf("way %d, step %d: %v, not %v", way, step, s, m.state())
		}
	}
}

// UA4: on long ways by chance what goes out is what was written, and what is read is what came, but for what was lost.
func TestLongWaysInOrder(t *testing.T) {
	r := rand.New(rand.NewSource(12))
	for way := range 60 {
		var s uart.State
		var came, wrote, in, out []byte
		for step := range 800 {
			c := byte(r.Intn(256))
			switch r.Intn(4 + way%5) {
			case 0:
				if s.Rx.N < 16 {
					came = append(came, c)
				}
				s = uart.Put(s, c)
			case 1:
				if s.Tx.N < 16 {
					wrote = append(wrote, c)
				}
				s = write(t, s, 0, c)
			case 2:
				if s.Rx.N > 0 {
					var c byte
					s, c = read(t, s, 0)
					in = append(in, c)
				}
			default:
				var c byte
				var is bool
				if s, c, is = uart.Tick(s); is {
					out = append(out, c)
				}
			}
			if string(came) != string(in)+string(s.Rx.B[:s.Rx.N]) || string(wrote) != string(out)+string(s.Tx.B[:s.Tx.N]) {
				t.Fatalf("way %d, step %d: %v", way, step, s)
			}
		}
	}
}
