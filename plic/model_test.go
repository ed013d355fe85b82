package plic_test

import (
	"math/rand"
	"slices"
	"testing"

	"pinnace/plic"
)

// source is one source of a second controller, which has no words.
type source struct {
	number, priority       int
	enabled, pending, busy bool
}

// second is a controller after the chapter's words, source by source.
type second struct {
	threshold int
	l         []source
}

// secondOf is the second controller that a state tells.
func secondOf(s plic.State) *second {
	m := &second{threshold: int(s.Threshold)}
	for n := 1; n <= 7; n++ {
		m.l = append(m.l, source{n, int(s.Priority[n]), has(s.Enable, n), has(s.Pending, n), has(s.Busy, n)})
	}
	return m
}

// state is what it would be as words.
func (m *second) state() plic.State {
	s := plic.State{Threshold: uint32(m.threshold)}
	for _, x := range m.l {
		s.Priority[x.number] = uint32(x.priority)
		if x.enabled {
			s.Enable += word(x.number)
		}
		if x.pending {
			s.Pending += word(x.number)
		}
		if x.busy {
			s.Busy += word(x.number)
		}
	}
	return s
}

// level lets sources ask.
func (m *second) level(lines uint32) {
	for i := range m.l {
		if has(lines, m.l[i].number) && !m.l[i].busy {
			m.l[i].pending = true
		}
	}
}

// best sorts those that may be served, and takes the first.
func (m *second) best() int {
	var may []source
	for _, x := range m.l {
		if x.pending && x.enabled && x.priority > m.threshold {
			may = append(may, x)
		}
	}
	slices.SortFunc(may, func(a, b source) int {
		if a.priority != b.priority {
			return b.priority - a.priority
		}
		return a.number - b.number
	})
	if len(may) == 0 {
		return 0
	}
	return may[0].number
}

// claim serves the best.
func (m *second) claim() int {
	n := m.best()
	if n != 0 {
		m.l[n-1].pending, m.l[n-1].busy = false, true
	}
	return n
}

// write writes a place that there is.
func (m *second) write(at, v uint32) {
	for i := range m.l {
		x := &m.l[i]
		switch {
		case at == uint32(x.number)*4:
			x.priority = int(v % 8)
		case at == 0x2000:
			x.enabled = has(v, x.number)
		case at == 0x200004 && v == uint32(x.number):
			x.busy = false
		}
	}
	if at == 0x200000 {
		m.threshold = int(v % 8)
	}
}

// checkBoth holds a state, and who is best of it, against the second controller.
func checkBoth(t *testing.T, step int, s plic.State, m *second) {
	t.Helper()
	if s != m.state() || plic.Best(s) != m.best() {
		t.Fatalf("step %d: %x, best %d, not %x, %d", step, s, plic.Best(s), m.state(), m.best())
	}
}

// PL1 to PL4: long ways by chance from a seed, from states that may be, step by step against the second controller.
func TestLongWays(t *testing.T) {
	r := rand.New(rand.NewSource(10))
	for range 200 {
		s := chance(r)
		m := secondOf(s)
		for step := range 300 {
			switch r.Intn(4) {
			case 0:
				lines := r.Uint32() & r.Uint32()
				m.level(lines)
				s = plic.Level(s, lines)
			case 1:
				want := m.claim()
				next, v, err := plic.Read(s, 0x200004)
				if v != uint32(want) || err != nil {
					t.Fatalf("step %d: the claim of %x is %d, %v, not %d", step, s, v, err, want)
				}
				s = next
			case 2:
				at, v := places()[r.Intn(12)], r.Uint32()
				m.write(at, v)
				s, _ = plic.Write(s, at, v)
			case 3:
				v := uint32(r.Intn(10))
				m.write(0x200004, v)
				s, _ = plic.Write(s, 0x200004, v)
			}
			checkBoth(t, step, s, m)
			if plic.Check(s) != nil {
				t.Fatalf("step %d: %x can't be", step, s)
			}
		}
	}
}

// PL4: on long ways from the beginning none is served while it is Busy.
func TestNeverServedTwice(t *testing.T) {
	r := rand.New(rand.NewSource(11))
	s := ready(1)
	s.Pending = 0
	served := map[uint32]bool{}
	for step := range 20000 {
		switch r.Intn(4) {
		case 0:
			s = plic.Level(s, r.Uint32())
		case 1:
			next, v, _ := plic.Read(s, 0x200004)
			if v != 0 && served[v] {
				t.Fatalf("step %d: %d is served again ahead of its end", step, v)
			}
			s, served[v] = next, true
		case 2:
			v := uint32(1 + r.Intn(7))
			s, _ = plic.Write(s, 0x200004, v)
			served[v] = false
		case 3:
			s, _ = plic.Write(s, places()[r.Intn(11)], r.Uint32())
		}
	}
}
