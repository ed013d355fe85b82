package clint_test

import (
	"math/big"
	"math/rand"
	"testing"

	"pinnace/clint"
)

// second is a timer after the chapter's words, whose numbers know no bounds of their own.
type second struct {
	soft      bool
	time, cmp *big.Int
}

// number is a number without bounds.
func number(v uint64) *big.Int {
	return new(big.Int).SetUint64(v)
}

// secondOf is the second timer that a state tells.
func secondOf(s clint.State) *second {
	return &second{s.Soft == 1, number(s.Time), number(s.Cmp)}
}

// state is what it would be as words.
func (m *second) state() clint.State {
	s := clint.State{Time: m.time.Uint64(), Cmp: m.cmp.Uint64()}
	if m.soft {
		s.Soft = 1
	}
	return s
}

// tick lets a tick go by.
func (m *second) tick() {
	m.time.Add(m.time, number(1))
	m.time.Mod(m.time, new(big.Int).Lsh(number(1), 64))
}

// lines are those that are asked for.
func (m *second) lines() uint32 {
	lines := uint32(0)
	if m.soft {
		lines += 8
	}
	if m.time.Cmp(m.cmp) >= 0 {
		lines += 128
	}
	return lines
}

// next is how far Cmp is.
func (m *second) next() uint64 {
	d := new(big.Int).Sub(m.cmp, m.time)
	if d.Sign() < 0 {
		return 0
	}
	return d.Uint64()
}

// halves are a number's high and low 32 bits.
func halves(n *big.Int) (high, low *big.Int) {
	return new(big.Int).DivMod(n, number(1<<32), new(big.Int))
}

// read reads a place that there is.
func (m *second) read(at uint32) uint32 {
	cmpHigh, cmpLow := halves(m.cmp)
	timeHigh, timeLow := halves(m.time)
	soft := m.state().Soft
	return map[uint32]uint32{
		0: soft, 0x4000: uint32(cmpLow.Uint64()), 0x4004: uint32(cmpHigh.Uint64()),
		0xbff8: uint32(timeLow.Uint64()), 0xbffc: uint32(timeHigh.Uint64()),
	}[at]
}

// write writes a place that there is.
func (m *second) write(at, v uint32) {
	n := m.cmp
	if at > 0x8000 {
		n = m.time
	}
	high, low := halves(n)
	switch at {
	case 0:
		m.soft = v%2 == 1
		return
	case 0x4000, 0xbff8:
		low = number(uint64(v))
	default:
		high = number(uint64(v))
	}
	n.Add(high.Mul(high, number(1<<32)), low)
}

// checkBoth holds a state, and all that is asked of it, against the second timer.
func checkBoth(t *testing.T, step int, s clint.State, m *second) {
	t.Helper()
	if s != m.state() || clint.Lines(s) != m.lines() || clint.Next(s) != m.next() || clint.Check(s) != nil {
		t.Fatalf("step %d: %x, Lines %d, Next %#x, not %x, %d, %#x", step, s, clint.Lines(s), clint.Next(s), m.state(), m.lines(), m.next())
	}
	for _, at := range places() {
		if v, err := clint.Read(s, at); v != m.read(at) || err != nil {
			t.Fatalf("step %d: %#x reads %#x, %v, not %#x", step, at, v, err, m.read(at))
		}
	}
}

// CT1 to CT3: long ways by chance from a seed, step by step against the second timer.
func TestLongWays(t *testing.T) {
	r := rand.New(rand.NewSource(11))
	words := someWords()
	for _, s := range someStates() {
		m := secondOf(s)
		for step := range 40 {
			if r.Intn(3) != 0 {
				m.tick()
				s = clint.Tick(s)
			} else {
				at, v := places()[r.Intn(5)], words[r.Intn(len(words))]
				m.write(at, v)
				var err error
				if s, err = clint.Write(s, at, v); err != nil {
					t.Fatalf("step %d: %v", step, err)
				}
			}
			checkBoth(t, step, s, m)
		}
	}
}
