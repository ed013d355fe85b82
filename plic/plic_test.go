package plic_test

import (
	"errors"
	"math"
	"math/rand"
	"testing"

	"pinnace/api"
	"pinnace/plic"
)

// errno is the number that errors.As finds in an error; 0 of nil, -1 of another error.
func errno(err error) api.Errno {
	if err == nil {
		return 0
	}
	var e api.Errno
	if errors.As(err, &e) {
		return e
	}
	return -1
}

// full has another value in each part, all of which may be.
func full() plic.State {
	return plic.State{Priority: [8]uint32{0, 3, 5, 1, 7, 2, 6, 4}, Enable: 0xb6, Threshold: 2, Pending: 0x6a, Busy: 0x94}
}

// odd has all bits in all parts: a state that can't be, of which the calls tell something all the same.
func odd() plic.State {
	const w = math.MaxUint32
	return plic.State{Priority: [8]uint32{w, w, w, w, w, w, w, w}, Enable: w, Threshold: w, Pending: w, Busy: w}
}

// ready is all sources enabled, Pending and of one priority.
func ready(priority uint32) plic.State {
	p := priority
	return plic.State{Priority: [8]uint32{0, p, p, p, p, p, p, p}, Enable: 0xfe, Pending: 0xfe}
}

// places are all places that are read and written, by hand.
func places() []uint32 {
	return []uint32{0, 4, 8, 12, 16, 20, 24, 28, 0x1000, 0x2000, 0x200000, 0x200004}
}

// noPlaces are places that nobody answers: those between and beside the others, and ones that are another's but for a bit.
func noPlaces() []uint32 {
	is := map[uint32]bool{}
	for _, at := range places() {
		is[at] = true
	}
	var out []uint32
	add := func(at uint32) {
		if !is[at] {
			out = append(out, at)
		}
	}
	for at := uint32(0); at < 0x3000; at++ {
		add(at)
	}
	for at := uint32(0x1fff00); at < 0x200100; at++ {
		add(at)
	}
	for _, at := range places() {
		for b := range 32 {
			add(at ^ 1<<b)
		}
		add(-at)
		add(^at)
		add(at + 0x0c000000)
	}
	for _, at := range []uint32{0x3fffff, 0x3ffffc, 0x400000, 0x201000, 0x202000, math.MaxUint32, math.MaxInt32} {
		add(at)
	}
	return out
}

// someWords are words at the edges, each bit alone, and each bit missing.
func someWords() []uint32 {
	out := []uint32{0, math.MaxUint32, 3, 5, 6, 7, 9, 10, 0xfe, 0x101, 0x107, 0xfffffff8, 0xffffff01, 0x80000007, 0x7fffffff, 0x12345678}
	for b := range 32 {
		out = append(out, 1<<b, ^uint32(1<<b))
	}
	return out
}

// chance is a state that may be.
func chance(r *rand.Rand) plic.State {
	s := plic.State{Enable: r.Uint32() & 0xfe, Threshold: r.Uint32() % 8, Pending: r.Uint32() & 0xfe, Busy: r.Uint32() & 0xfe}
	for n := 1; n <= 7; n++ {
		s.Priority[n] = r.Uint32() % 8
	}
	switch r.Intn(4) {
	case 0: // many of one priority
		for n := 1; n <= 7; n++ {
			s.Priority[n] = s.Priority[1] | uint32(n)&1
		}
	case 1: // nearly all may be served
		s.Enable, s.Threshold = 0xfe, 0
	}
	return s
}

// someStates are states that may be, made by chance from a seed, and those at the edges.
func someStates() []plic.State {
	out := []plic.State{{}, full(), ready(0), ready(1), ready(7),
		{Priority: [8]uint32{0, 7, 7, 7, 7, 7, 7, 7}, Enable: 0xfe, Threshold: 7, Pending: 0xfe, Busy: 0xfe}}
	r := rand.New(rand.NewSource(9))
	for range 500 {
		out = append(out, chance(r))
	}
	return out
}

// has tells whether a source's bit of a word is set.
func has(w uint32, n int) bool {
	for range n {
		w /= 2
	}
	return w%2 == 1
}

// word is a word of the sources of a list.
func word(l ...int) uint32 {
	w := uint32(0)
	for _, n := range l {
		p := uint32(1)
		for range n {
			p *= 2
		}
		w += p
	}
	return w
}

// PL1: a state may be, if its priorities are at most 7, and its words have no bits but the sources'.
func TestCheckLooksAtEachPart(t *testing.T) {
	for _, s := range someStates() {
		if err := plic.Check(s); err != nil {
			t.Fatalf("Check of %x: %v", s, err)
		}
	}
	for b := range 32 {
		one := uint32(1) << b
		for _, c := range []struct {
			name string
			s    plic.State
			may  bool
		}{
			{"Enable", plic.State{Enable: one}, b >= 1 && b <= 7},
			{"Pending", plic.State{Pending: one}, b >= 1 && b <= 7},
			{"Busy", plic.State{Busy: one}, b >= 1 && b <= 7},
			{"Threshold", plic.State{Threshold: one}, b <= 2},
			{"the priority of 0", plic.State{Priority: [8]uint32{one}}, false},
			{"the priority of 1", plic.State{Priority: [8]uint32{1: one}}, b <= 2},
			{"the priority of 7", plic.State{Priority: [8]uint32{7: one}}, b <= 2},
		} {
			want := api.ErrArg
			if c.may {
				want = 0
			}
			if got := errno(plic.Check(c.s)); got != want {
				t.Errorf("Check of %s with the bit %d: %d, not %d", c.name, b, got, want)
			}
		}
	}
}

// PL1: one part that is wrong is enough, whatever the others are.
func TestCheckOfOneWrongPart(t *testing.T) {
	for n := range 8 {
		for v := uint32(0); v <= 20; v++ {
			s := full()
			s.Priority[n] = v
			want := api.Errno(0)
			if v > 7 || n == 0 && v != 0 {
				want = api.ErrArg
			}
			if got := errno(plic.Check(s)); got != want {
				t.Errorf("Check with the priority %d of %d: %d, not %d", v, n, got, want)
			}
		}
		for _, v := range []uint32{8, 9, 0x100, 1 << 31, math.MaxUint32} {
			s := full()
			s.Priority[n] = v
			if got := errno(plic.Check(s)); got != api.ErrArg {
				t.Errorf("Check with the priority %#x of %d: %d", v, n, got)
			}
		}
	}
	for v := uint32(0); v <= 20; v++ {
		s := full()
		s.Threshold = v
		if got := errno(plic.Check(s)); (got == api.ErrArg) != (v > 7) {
			t.Errorf("Check with the threshold %d: %d", v, got)
		}
	}
	for _, spoil := range []func(*plic.State){
		func(s *plic.State) { s.Enable |= 1 }, func(s *plic.State) { s.Enable |= 0x100 },
		func(s *plic.State) { s.Pending |= 1 }, func(s *plic.State) { s.Pending |= 0x100 },
		func(s *plic.State) { s.Busy |= 1 }, func(s *plic.State) { s.Busy |= 0x100 },
		func(s *plic.State) { s.Enable |= 1 << 31 }, func(s *plic.State) { s.Pending |= 1 << 31 },
		func(s *plic.State) { s.Busy |= 1 << 31 }, func(s *plic.State) { s.Threshold |= 1 << 31 },
	} {
		s := full()
		spoil(&s)
		if got := errno(plic.Check(s)); got != api.ErrArg {
			t.Errorf("Check of %x: %d", s, got)
		}
	}
	if got := errno(plic.Check(odd())); got != api.ErrArg {
		t.Errorf("Check of a state of all bits: %d", got)
	}
}

// PL1: a source that asks while it is Busy, Pending, both, or neither; and one that does not ask.
func TestLevelOfEachSource(t *testing.T) {
	for n := 1; n <= 7; n++ {
		w := word(n)
		for _, c := range []struct{ lines, pending, busy, want uint32 }{
			{w, 0, 0, w},
			{w, w, 0, w},
			{w, 0, w, 0},
			{w, w, w, w},
			{0, 0, 0, 0},
			{0, w, 0, w},
			{0, 0, w, 0},
			{0, w, w, w},
			{w, 0xfe - w, 0, 0xfe},
			{w, 0, 0xfe - w, w},
			{0xfe, 0, w, 0xfe - w},
			{0xfe - w, 0, 0, 0xfe - w},
			{0xfe, w, 0xfe, w},
		} {
			s := full()
			s.Pending, s.Busy = c.pending, c.busy
			want := s
			want.Pending = c.want
			if got := plic.Level(s, c.lines); got != want {
				t.Errorf("Level of %x, asking %#x: %x, not %x", s, c.lines, got, want)
			}
		}
	}
}

// PL1: the bits 0 and above 7 of the lines are nothing.
func TestLevelOfNoSource(t *testing.T) {
	for b := range 32 {
		if b >= 1 && b <= 7 {
			continue
		}
		for _, s := range []plic.State{{}, full(), ready(3)} {
			if got := plic.Level(s, 1<<b); got != s {
				t.Errorf("Level of %x, asking by the bit %d: %x", s, b, got)
			}
		}
	}
	if got := plic.Level(plic.State{}, math.MaxUint32); got != (plic.State{Pending: 0xfe}) {
		t.Errorf("Level, all asking: %x", got)
	}
	if got := plic.Level(plic.State{Busy: 0x24}, math.MaxUint32); got != (plic.State{Pending: 0xda, Busy: 0x24}) {
		t.Errorf("Level, all asking and two Busy: %x", got)
	}
}

// PL1: a source that asks is Pending even if it is not enabled, or has no priority.
func TestLevelAsksNobody(t *testing.T) {
	for n := 1; n <= 7; n++ {
		if got := plic.Level(plic.State{Threshold: 7}, word(n)); got != (plic.State{Threshold: 7, Pending: word(n)}) {
			t.Errorf("Level of none enabled, %d asking: %x", n, got)
		}
	}
}

// PL1: which source is served, of answers that are written out.
func TestBestByHand(t *testing.T) {
	for _, c := range []struct {
		priority  [8]uint32
		enable    uint32
		threshold uint32
		pending   uint32
		best      int
	}{
		{[8]uint32{0, 3, 5}, 6, 0, 6, 2}, // the chapter's example
		{[8]uint32{0, 5, 3}, 6, 0, 6, 1},
		{[8]uint32{0, 5, 5}, 6, 0, 6, 1},
		{[8]uint32{0, 3, 5}, 6, 0, 2, 1},
		{[8]uint32{0, 3, 5}, 2, 0, 6, 1},
		{[8]uint32{0, 3, 5}, 6, 4, 6, 2},
		{[8]uint32{0, 3, 5}, 6, 5, 6, 0},
		{[8]uint32{0, 3, 5}, 6, 3, 2, 0},
		{[8]uint32{0, 3, 5}, 6, 2, 2, 1},
		{[8]uint32{0, 3, 5}, 2, 0, 4, 0},
		{[8]uint32{0, 3, 5}, 0, 0, 6, 0},
		{[8]uint32{0, 3, 5}, 6, 0, 0, 0},
		{[8]uint32{}, 0xfe, 0, 0xfe, 0},
		{[8]uint32{0, 0, 0, 0, 0, 0, 0, 1}, 0xfe, 0, 0xfe, 7},
		{[8]uint32{0, 1, 2, 3, 4, 5, 6, 7}, 0xfe, 0, 0xfe, 7},
		{[8]uint32{0, 1, 2, 3, 4, 5, 6, 7}, 0xfe, 0, 0x7e, 6},
		{[8]uint32{0, 1, 2, 3, 4, 5, 6, 7}, 0xfe, 6, 0x7e, 0},
		{[8]uint32{0, 7, 6, 5, 4, 3, 2, 1}, 0xfe, 0, 0xfe, 1},
		{[8]uint32{0, 7, 6, 5, 4, 3, 2, 1}, 0xfe, 7, 0xfe, 0},
		{[8]uint32{0, 2, 6, 1, 6, 6, 3, 4}, 0xfe, 0, 0xfe, 2},
		{[8]uint32{0, 2, 6, 1, 6, 6, 3, 4}, 0xfa, 0, 0xfe, 4},
		{[8]uint32{0, 2, 6, 1, 6, 6, 3, 4}, 0xfe, 0, 0xea, 5},
		{[8]uint32{0, 1, 1, 1, 1, 1, 1, 1}, 0xfe, 0, 0x90, 4},
		{[8]uint32{0, 1, 1, 1, 1, 1, 1, 1}, 0xfe, 1, 0xfe, 0},
	} {
		s := plic.State{Priority: c.priority, Enable: c.enable, Threshold: c.threshold, Pending: c.pending}
		if got := plic.Best(s); got != c.best {
			t.Errorf("Best of %x: %d, not %d", s, got, c.best)
		}
	}
}

// PL1: each source alone, by each priority, against each threshold: a priority that is just the threshold is not above it.
func TestBestOfOne(t *testing.T) {
	for n := 1; n <= 7; n++ {
		for p := uint32(0); p <= 7; p++ {
			for threshold := uint32(0); threshold <= 7; threshold++ {
				s := plic.State{Enable: word(n), Threshold: threshold, Pending: word(n)}
				s.Priority[n] = p
				want := 0
				if p > threshold {
					want = n
				}
				if got := plic.Best(s); got != want {
					t.Errorf("Best of %d with the priority %d above %d: %d", n, p, threshold, got)
				}
			}
		}
	}
}

// PL1: of each two sources the lowest, if they have one priority, else the one with the greater.
func TestBestOfTwo(t *testing.T) {
	for a := 1; a <= 7; a++ {
		for b := a + 1; b <= 7; b++ {
			for p := uint32(1); p <= 7; p++ {
				for q := uint32(1); q <= 7; q++ {
					s := plic.State{Enable: 0xfe, Pending: word(a, b)}
					s.Priority[a], s.Priority[b] = p, q
					want := a
					if q > p {
						want = b
					}
					if got := plic.Best(s); got != want {
						t.Errorf("Best of %d with %d and %d with %d: %d", a, p, b, q, got)
					}
				}
			}
		}
	}
}

// PL1: bits that are no source's are never served, not even in a state that can't be.
func TestBestOfNoSource(t *testing.T) {
	s := odd()
	s.Threshold = 0
	s.Enable, s.Pending = 0xffffff01, 0xffffff01
	if got := plic.Best(s); got != 0 {
		t.Errorf("Best of no source: %d", got)
	}
	s.Pending, s.Enable = math.MaxUint32, 0xffffff21
	if got := plic.Best(s); got != 5 {
		t.Errorf("Best of 5: %d", got)
	}
	if got := plic.Best(odd()); got != 0 {
		t.Errorf("Best under a threshold of all bits: %d", got)
	}
}

// PL2: what each place reads, of answers that are written out.
func TestReadByHand(t *testing.T) {
	s := full()
	for _, c := range []struct{ at, v uint32 }{
		{0, 0}, {4, 3}, {8, 5}, {12, 1}, {16, 7}, {20, 2}, {24, 6}, {28, 4},
		{0x1000, 0x6a}, {0x2000, 0xb6}, {0x200000, 2},
	} {
		if got, v, err := plic.Read(s, c.at); got != s || v != c.v || err != nil {
			t.Errorf("Read of %#x: %x, %#x, %v, not %#x", c.at, got, v, err, c.v)
		}
	}
	// Of 1, 3, 5 and 6, which are Pending, 1 and 5 are enabled; the priority of 1 is just the threshold.
	s.Priority[1], s.Priority[5] = 2, 3
	want := s
	want.Pending, want.Busy = 0x4a, 0xb4
	if got, v, err := plic.Read(s, 0x200004); got != want || v != 5 || err != nil {
		t.Errorf("the claim: %x, %d, %v, not %x, 5", got, v, err, want)
	}
}

// PL2: the chapter's example, and what the next claims answer.
func TestClaimTwice(t *testing.T) {
	s := plic.Level(plic.State{Enable: 6, Priority: [8]uint32{0, 3, 5}}, 6)
	for _, c := range []struct{ v, pending, busy uint32 }{{2, 2, 4}, {1, 0, 6}, {0, 0, 6}, {0, 0, 6}} {
		next, v, err := plic.Read(s, 0x200004)
		want := s
		want.Pending, want.Busy = c.pending, c.busy
		if next != want || v != c.v || err != nil {
			t.Fatalf("the claim: %x, %d, %v, not %x, %d", next, v, err, want, c.v)
		}
		s = next
	}
}

// PL2: a claim while there is none changes nothing, and answers 0.
func TestClaimOfNone(t *testing.T) {
	for _, s := range []plic.State{
		{},
		{Busy: 0xfe},
		{Priority: [8]uint32{0, 7, 7, 7, 7, 7, 7, 7}, Enable: 0xfe},
		{Priority: [8]uint32{0, 7, 7, 7, 7, 7, 7, 7}, Pending: 0xfe},
		{Priority: [8]uint32{0, 7, 7, 7, 7, 7, 7, 7}, Pending: 0xaa, Enable: 0x54},
		{Priority: [8]uint32{0, 4, 4, 4, 4, 4, 4, 4}, Pending: 0xfe, Enable: 0xfe, Threshold: 4},
		ready(0),
	} {
		if got, v, err := plic.Read(s, 0x200004); got != s || v != 0 || err != nil {
			t.Errorf("a claim of %x: %x, %d, %v", s, got, v, err)
		}
	}
}

// PL2 and PL3: of any other place ErrBus, and nothing beside it.
func TestNoPlaces(t *testing.T) {
	for _, s := range []plic.State{{}, full(), ready(5), odd()} {
		for _, at := range noPlaces() {
			if got, v, err := plic.Read(s, at); got != (plic.State{}) || v != 0 || errno(err) != api.ErrBus {
				t.Fatalf("Read of %#x: %x, %d, %v", at, got, v, err)
			}
			for _, v := range []uint32{0, 1, 7, math.MaxUint32} {
				if got, err := plic.Write(s, at, v); got != (plic.State{}) || errno(err) != api.ErrBus {
					t.Fatalf("Write of %#x: %x, %v", at, got, err)
				}
			}
		}
	}
}

// PL2: all places of a state of all bits, which can't be, read as they are; none of its sources may be served.
func TestReadOfAnOddState(t *testing.T) {
	for _, at := range places() {
		want := uint32(math.MaxUint32)
		if at == 0x200004 {
			want = 0
		}
		if got, v, err := plic.Read(odd(), at); got != odd() || v != want || err != nil {
			t.Errorf("Read of %#x: %x, %#x, %v", at, got, v, err)
		}
	}
}

// PL3: what each place takes of what is written, of answers that are written out.
func TestWriteByHand(t *testing.T) {
	for _, c := range []struct {
		at, v uint32
		make  func(*plic.State)
	}{
		{4, 6, func(s *plic.State) { s.Priority[1] = 6 }},
		{8, 0, func(s *plic.State) { s.Priority[2] = 0 }},
		{12, 7, func(s *plic.State) { s.Priority[3] = 7 }},
		{16, 8, func(s *plic.State) { s.Priority[4] = 0 }},
		{20, 0xfffffffb, func(s *plic.State) { s.Priority[5] = 3 }},
		{24, 0x80000001, func(s *plic.State) { s.Priority[6] = 1 }},
		{28, math.MaxUint32, func(s *plic.State) { s.Priority[7] = 7 }},
		{0, 5, func(s *plic.State) {}},
		{0, math.MaxUint32, func(s *plic.State) {}},
		{0x1000, 0, func(s *plic.State) {}},
		{0x1000, 0xfe, func(s *plic.State) {}},
		{0x1000, math.MaxUint32, func(s *plic.State) {}},
		{0x2000, 0x12, func(s *plic.State) { s.Enable = 0x12 }},
		{0x2000, 1, func(s *plic.State) { s.Enable = 0 }},
		{0x2000, 0xffffff03, func(s *plic.State) { s.Enable = 2 }},
		{0x2000, math.MaxUint32, func(s *plic.State) { s.Enable = 0xfe }},
		{0x200000, 5, func(s *plic.State) { s.Threshold = 5 }},
		{0x200000, 8, func(s *plic.State) { s.Threshold = 0 }},
		{0x200000, 0xfffffffe, func(s *plic.State) { s.Threshold = 6 }},
		{0x200004, 2, func(s *plic.State) { s.Busy = 0x90 }},
		{0x200004, 4, func(s *plic.State) { s.Busy = 0x84 }},
		{0x200004, 7, func(s *plic.State) { s.Busy = 0x14 }},
		{0x200004, 1, func(s *plic.State) {}},
		{0x200004, 0, func(s *plic.State) {}},
		{0x200004, 8, func(s *plic.State) {}},
		{0x200004, 34, func(s *plic.State) {}},
		{0x200004, 0x102, func(s *plic.State) {}},
		{0x200004, 0x80000002, func(s *plic.State) {}},
		{0x200004, math.MaxUint32, func(s *plic.State) {}},
	} {
		want := full()
		c.make(&want)
		if got, err := plic.Write(full(), c.at, c.v); got != want || err != nil {
			t.Errorf("Write of %#x at %#x: %x, %v, not %x", c.v, c.at, got, err, want)
		}
	}
}

// PL3: of each source its end, by any word: only the source's own number is one, and of a source that is not Busy it is nothing.
func TestEndOfEachSource(t *testing.T) {
	words := someWords()
	for v := uint32(0); v < 300; v++ {
		words = append(words, v)
	}
	for _, v := range words {
		s := plic.State{Priority: full().Priority, Enable: 0x3c, Threshold: 1, Pending: 0xaa, Busy: 0xfe}
		want := s
		if v >= 1 && v <= 7 {
			want.Busy -= word(int(v))
		}
		if got, err := plic.Write(s, 0x200004, v); got != want || err != nil {
			t.Errorf("the end of %#x: %x, %v, not %x", v, got, err, want)
		}
		if got, err := plic.Write(want, 0x200004, v); got != want || err != nil {
			t.Errorf("the end of %#x, which is not Busy: %x, %v, not %x", v, got, err, want)
		}
	}
}

// PL3: a source may be ended by whoever says so, also one that is neither enabled nor above the threshold.
func TestEndOfAQuietSource(t *testing.T) {
	for n := 1; n <= 7; n++ {
		s := plic.State{Threshold: 7, Busy: word(n)}
		if got, err := plic.Write(s, 0x200004, uint32(n)); got != (plic.State{Threshold: 7}) || err != nil {
			t.Errorf("the end of %d: %x, %v", n, got, err)
		}
	}
}

// PL3: what is written is read again, as far as its bits count; the priority of 0 stays 0, and Pending is not written.
func TestWriteThenRead(t *testing.T) {
	for _, v := range someWords() {
		for _, at := range places() {
			if at == 0x200004 {
				continue
			}
			want := v % 8
			switch at {
			case 0:
				want = 0
			case 0x1000:
				want = full().Pending
			case 0x2000:
				want = v % 256 / 2 * 2
			}
			s, err := plic.Write(full(), at, v)
			if err != nil {
				t.Fatalf("Write of %#x at %#x: %v", v, at, err)
			}
			if same, got, err := plic.Read(s, at); same != s || got != want || err != nil {
				t.Errorf("%#x written at %#x reads %#x, %v, not %#x", v, at, got, err, want)
			}
		}
	}
}

// PL3: a write to a state that can't be changes what it says, and nothing else.
func TestWriteToAnOddState(t *testing.T) {
	for _, at := range places() {
		want := odd()
		switch {
		case at >= 4 && at <= 28:
			want.Priority[at/4] = 5
		case at == 0x2000:
			want.Enable = 4
		case at == 0x200000:
			want.Threshold = 5
		case at == 0x200004:
			want.Busy = math.MaxUint32 - 32
		}
		if got, err := plic.Write(odd(), at, 5); got != want || err != nil {
			t.Errorf("Write at %#x: %x, %v, not %x", at, got, err, want)
		}
	}
}

// PL3: a number that is no source ends nothing, not even a bit that can't be.
func TestEndInAnOddState(t *testing.T) {
	for v := uint32(0); v < 300; v++ {
		want := odd()
		if v >= 1 && v <= 7 {
			want.Busy -= word(int(v))
		}
		if got, err := plic.Write(odd(), 0x200004, v); got != want || err != nil {
			t.Errorf("the end of %d: %x, %v, not %x", v, got, err, want)
		}
	}
}

// PL4: a source that is Busy is not served again ahead of its end, however often it asks; then it is.
func TestServedOnceTillItsEnd(t *testing.T) {
	for n := 1; n <= 7; n++ {
		s := ready(3)
		s.Pending = 0
		for round := range 3 {
			s = plic.Level(s, word(n))
			s = plic.Level(s, word(n))
			var v uint32
			if s, v, _ = plic.Read(s, 0x200004); v != uint32(n) {
				t.Fatalf("round %d: the claim is %d, not %d", round, v, n)
			}
			s = plic.Level(s, word(n))
			if best := plic.Best(s); best != 0 {
				t.Fatalf("round %d: %d is Busy, and the best is %d", round, n, best)
			}
			if s, v, _ = plic.Read(s, 0x200004); v != 0 {
				t.Fatalf("round %d: %d is Busy, and the claim is %d", round, n, v)
			}
			for _, other := range []uint32{0, uint32(n%7 + 1), uint32(n + 8), uint32(n) | 1<<31} {
				s, _ = plic.Write(s, 0x200004, other)
			}
			if s = plic.Level(s, word(n)); plic.Best(s) != 0 {
				t.Fatalf("round %d: %d was not ended, and is served", round, n)
			}
			s, _ = plic.Write(s, 0x200004, uint32(n))
			if plic.Best(s) != 0 {
				t.Fatalf("round %d: %d does not ask any more, and is served", round, n)
			}
		}
	}
}

// PL4: a source that is Busy keeps no other from being served.
func TestOthersAreServed(t *testing.T) {
	s := ready(3)
	for n := 1; n <= 7; n++ {
		next, v, err := plic.Read(plic.Level(s, 0xfe), 0x200004)
		if v != uint32(n) || err != nil {
			t.Fatalf("the claim is %d, %v, not %d", v, err, n)
		}
		s = next
	}
	if s.Pending != 0 || s.Busy != 0xfe {
		t.Errorf("all are served: %x", s)
	}
}

// PL4: of a state that may be all calls make ones that may be.
func TestStaysOneThatMayBe(t *testing.T) {
	for _, s := range someStates() {
		for _, v := range someWords() {
			if got := plic.Level(s, v); plic.Check(got) != nil {
				t.Fatalf("Level of %x, asking %#x: %x", s, v, got)
			}
			for _, at := range places() {
				if got, err := plic.Write(s, at, v); err != nil || plic.Check(got) != nil {
					t.Fatalf("Write of %#x to %x at %#x: %x, %v", v, s, at, got, err)
				}
			}
		}
		for _, at := range places() {
			if got, _, err := plic.Read(s, at); err != nil || plic.Check(got) != nil {
				t.Fatalf("Read of %x at %#x: %x, %v", s, at, got, err)
			}
		}
	}
}
