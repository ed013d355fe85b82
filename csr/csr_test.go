package csr_test

import (
	"errors"
	"math"
	"math/rand"
	"testing"

	"pinnace/api"
	"pinnace/csr"
)

// errno is the number that errors.As finds in an error; 0 of nil, -1 of another error.
func errno(err error) api.Errno {
	if err == nil {
		return 0
	}
	var e api.Errno
	if errors.As(err, &e) {
		return e
	}
	return -1
}

// full has another value in each register, all of which may be.
func full() csr.State {
	return csr.State{Status: 0x88, Enable: 0x808, Vector: 0x80000101, Scratch: 0x11223344, Epc: 0xfffffffc,
		Cause: 0x8000000b, Value: 0xdeadbeef, Count: 0x0123456789abcdef}
}

// odd has all bits in all registers: a state that can't be, of which the calls tell something all the same.
func odd() csr.State {
	const w = math.MaxUint32
	return csr.State{Status: w, Enable: w, Vector: w, Scratch: w, Epc: w, Cause: w, Value: w, Count: math.MaxUint64}
}

// places are all registers that there are, by hand.
func places() []int {
	return []int{0x300, 0x301, 0x304, 0x305, 0x340, 0x341, 0x342, 0x343, 0x344,
		0xb00, 0xb02, 0xb80, 0xb82, 0xf11, 0xf12, 0xf13, 0xf14}
}

// noPlaces are places with no register: all others of 12 bits, negative ones, and ones that are a register's but for a high bit.
func noPlaces() []int {
	is := map[int]bool{}
	for _, at := range places() {
		is[at] = true
	}
	out := []int{-1, math.MinInt, math.MaxInt, math.MinInt32, math.MaxInt32, math.MaxUint32}
	for at := 0; at < 4096; at++ {
		if !is[at] {
			out = append(out, at)
		}
	}
	for _, at := range places() {
		out = append(out, -at, at-4096, at+4096, at|1<<16, at|1<<31, at|1<<32, at|math.MinInt, at^-1)
	}
	return out
}

// someWords are words at the edges, each bit alone, and each bit missing.
func someWords() []uint32 {
	out := []uint32{0, math.MaxUint32, 0x80, 0x8, 0x88, 0x888, 0x1888, 0x80000101, 0x7fffffff, 0x12345678}
	for b := range 32 {
		out = append(out, 1<<b, ^uint32(1<<b))
	}
	return out
}

// someStates are states that may be, made by chance from a seed, and those at the edges.
func someStates() []csr.State {
	out := []csr.State{{}, full(),
		{Status: 0x88, Enable: 0x888, Vector: 0xfffffffd, Scratch: math.MaxUint32, Epc: 0xfffffffc,
			Cause: math.MaxUint32, Value: math.MaxUint32, Count: math.MaxUint64}}
	r := rand.New(rand.NewSource(5))
	for range 300 {
		out = append(out, csr.State{Status: r.Uint32() & 0x88, Enable: r.Uint32() & 0x888, Vector: r.Uint32() &^ 2,
			Scratch: r.Uint32(), Epc: r.Uint32() &^ 3, Cause: r.Uint32(), Value: r.Uint32(), Count: r.Uint64()})
	}
	return out
}

// bit is one bit of a word, as a number.
func bit(v uint32, n int) uint32 { return v / uint32(math.Pow(2, float64(n))) % 2 }

// CS1: a state may be, if only the bits that it may have are set.
func TestCheckLooksAtEachBit(t *testing.T) {
	for _, s := range someStates() {
		if err := csr.Check(s); err != nil {
			t.Fatalf("Check of %x: %v", s, err)
		}
	}
	for b := range 32 {
		one := uint32(1) << b
		cases := []struct {
			name string
			s    csr.State
			may  bool
		}{
			{"Status", csr.State{Status: one}, b == 3 || b == 7},
			{"Enable", csr.State{Enable: one}, b == 3 || b == 7 || b == 11},
			{"Vector", csr.State{Vector: one}, b != 1},
			{"Scratch", csr.State{Scratch: one}, true},
			{"Epc", csr.State{Epc: one}, b > 1},
			{"Cause", csr.State{Cause: one}, true},
			{"Value", csr.State{Value: one}, true},
			{"Count", csr.State{Count: uint64(one)}, true},
			{"Count, high", csr.State{Count: uint64(one) << 32}, true},
		}
		for _, c := range cases {
			want := api.ErrArg
			if c.may {
				want = 0
			}
			if got := errno(csr.Check(c.s)); got != want {
				t.Errorf("Check of %s with the bit %d: %d, not %d", c.name, b, got, want)
			}
		}
	}
	if got := errno(csr.Check(odd())); got != api.ErrArg {
		t.Errorf("Check of all bits: %d", got)
	}
}

// CS1: Check looks at each register, also where the others may be.
func TestCheckOfOneWrongRegister(t *testing.T) {
	for i := range 4 {
		s := full()
		*[4]*uint32{&s.Status, &s.Enable, &s.Vector, &s.Epc}[i] |= 2
		if got := errno(csr.Check(s)); got != api.ErrArg {
			t.Errorf("Check of %x: %d", s, got)
		}
	}
}

// CS1: what each register tells.
func TestReadOfEachRegister(t *testing.T) {
	const w = math.MaxUint32
	cases := []struct {
		at         int
		full, none uint32
		odd        uint32
	}{
		{0x300, 0x1888, 0x1800, w},
		{0x301, 0x40001100, 0x40001100, 0x40001100},
		{0x304, 0x808, 0, w},
		{0x305, 0x80000101, 0, w},
		{0x340, 0x11223344, 0, w},
		{0x341, 0xfffffffc, 0, w},
		{0x342, 0x8000000b, 0, w},
		{0x343, 0xdeadbeef, 0, w},
		{0x344, 0, 0, 0},
		{0xb00, 0x89abcdef, 0, w},
		{0xb02, 0x89abcdef, 0, w},
		{0xb80, 0x01234567, 0, w},
		{0xb82, 0x01234567, 0, w},
		{0xf11, 0, 0, 0},
		{0xf12, 0, 0, 0},
		{0xf13, 0, 0, 0},
		{0xf14, 0, 0, 0},
	}
	for i, c := range cases {
		if c.at != places()[i] {
			t.Fatalf("the case %d is of %x", i, c.at)
		}
		for _, x := range []struct {
			s    csr.State
			want uint32
		}{{full(), c.full}, {csr.State{}, c.none}, {odd(), c.odd}} {
			if got, err := csr.Read(x.s, c.at, 0); got != x.want || err != nil {
				t.Errorf("Read of %x: %x, %v, not %x", c.at, got, err, x.want)
			}
		}
	}
}

// CS1: of Status each of its two bits is told beside 0x1800.
func TestReadOfStatus(t *testing.T) {
	for status, want := range map[uint32]uint32{0: 0x1800, 8: 0x1808, 0x80: 0x1880, 0x88: 0x1888} {
		if got, err := csr.Read(csr.State{Status: status}, 0x300, 0); got != want || err != nil {
			t.Errorf("Read of Status %x: %x, %v", status, got, err)
		}
	}
}

// CS1: of the lines the mask's are told by 0x344, and by no other register.
func TestReadOfLines(t *testing.T) {
	for _, lines := range someWords() {
		want := bit(lines, 3)*8 + bit(lines, 7)*128 + bit(lines, 11)*2048
		if got, err := csr.Read(full(), 0x344, lines); got != want || err != nil {
			t.Errorf("Read of the lines %x: %x, %v, not %x", lines, got, err, want)
		}
		for _, at := range places() {
			with, _ := csr.Read(full(), at, lines)
			without, _ := csr.Read(full(), at, 0)
			if at != 0x344 && with != without {
				t.Errorf("Read of %x hangs on the lines %x", at, lines)
			}
		}
	}
}

// CS1, CS2: of any other place there is nothing to be read or written.
func TestNoSuchRegister(t *testing.T) {
	for _, at := range noPlaces() {
		if got, err := csr.Read(full(), at, 0x888); got != 0 || errno(err) != api.ErrNone {
			t.Errorf("Read of %x: %x, %v", at, got, err)
		}
		if got, err := csr.Write(full(), at, 1); got != (csr.State{}) || errno(err) != api.ErrNone {
			t.Errorf("Write of %x: %x, %v", at, got, err)
		}
		if got, err := csr.Write(odd(), at, 1); got != (csr.State{}) || errno(err) != api.ErrNone {
			t.Errorf("Write of %x to a state that can't be: %x, %v", at, got, err)
		}
	}
}

// CS2: four registers are read, and never written.
func TestWriteOfWhatIsReadAlone(t *testing.T) {
	for _, s := range []csr.State{{}, full(), odd()} {
		for at := 0xf11; at <= 0xf14; at++ {
			for _, v := range []uint32{0, 1, math.MaxUint32} {
				if got, err := csr.Write(s, at, v); got != (csr.State{}) || errno(err) != api.ErrState {
					t.Errorf("Write of %x: %x, %v", at, got, err)
				}
			}
		}
	}
}

// plainWrite is a state with a register written, bit by bit, as the chapter tells it.
func plainWrite(s csr.State, at int, v uint32) csr.State {
	switch at {
	case 0x300:
		s.Status = bit(v, 3)*8 + bit(v, 7)*128
	case 0x304:
		s.Enable = bit(v, 3)*8 + bit(v, 7)*128 + bit(v, 11)*2048
	case 0x305:
		s.Vector = v - bit(v, 1)*2
	case 0x340:
		s.Scratch = v
	case 0x341:
		s.Epc = v / 4 * 4
	case 0x342:
		s.Cause = v
	case 0x343:
		s.Value = v
	case 0xb00, 0xb02:
		s.Count = s.Count - s.Count%(1<<32) + uint64(v)
	case 0xb80, 0xb82:
		s.Count = s.Count%(1<<32) + uint64(v)*(1<<32)
	}
	return s
}

// CS2, CS4: what is written, of each register and each bit; all others stay, and what may be makes what may be.
func TestWriteOfEachBit(t *testing.T) {
	for _, s := range append(someStates(), odd()) {
		for _, at := range places()[:13] {
			for _, v := range someWords() {
				got, err := csr.Write(s, at, v)
				if want := plainWrite(s, at, v); got != want || err != nil {
					t.Fatalf("Write of %x to %x of %x: %x, %v, not %x", v, at, s, got, err, want)
				}
				if csr.Check(s) == nil && csr.Check(got) != nil {
					t.Fatalf("Write of %x to %x of %x makes a state that can't be: %x", v, at, s, got)
				}
			}
		}
	}
}

// CS2: some writes, told by hand.
func TestWriteByHand(t *testing.T) {
	const w = math.MaxUint32
	cases := []struct {
		at   int
		want csr.State
	}{
		{0x300, csr.State{Status: 0x88}},
		{0x301, csr.State{}},
		{0x304, csr.State{Enable: 0x888}},
		{0x305, csr.State{Vector: 0xfffffffd}},
		{0x340, csr.State{Scratch: w}},
		{0x341, csr.State{Epc: 0xfffffffc}},
		{0x342, csr.State{Cause: w}},
		{0x343, csr.State{Value: w}},
		{0x344, csr.State{}},
		{0xb00, csr.State{Count: 0x00000000ffffffff}},
		{0xb02, csr.State{Count: 0x00000000ffffffff}},
		{0xb80, csr.State{Count: 0xffffffff00000000}},
		{0xb82, csr.State{Count: 0xffffffff00000000}},
	}
	for _, c := range cases {
		if got, err := csr.Write(csr.State{}, c.at, w); got != c.want || err != nil {
			t.Errorf("Write of %x: %x, %v, not %x", c.at, got, err, c.want)
		}
	}
	if got, err := csr.Write(full(), 0x300, 0); got.Status != 0 || err != nil {
		t.Errorf("Write of 0 to Status: %x, %v", got, err)
	}
}

// CS2: both halves of Count, under both names.
func TestWriteOfCount(t *testing.T) {
	for _, low := range []int{0xb00, 0xb02} {
		for _, high := range []int{0xb80, 0xb82} {
			s, _ := csr.Write(full(), low, 0xaaaaaaaa)
			if s.Count != 0x01234567aaaaaaaa {
				t.Errorf("Write of %x: Count %x", low, s.Count)
			}
			s, _ = csr.Write(s, high, 0x55555555)
			if s.Count != 0x55555555aaaaaaaa {
				t.Errorf("Write of %x: Count %x", high, s.Count)
			}
			for _, at := range []int{0xb00, 0xb02} {
				if v, err := csr.Read(s, at, 0); v != 0xaaaaaaaa || err != nil {
					t.Errorf("Read of %x: %x, %v", at, v, err)
				}
				if v, err := csr.Read(s, at+0x80, 0); v != 0x55555555 || err != nil {
					t.Errorf("Read of %x: %x, %v", at+0x80, v, err)
				}
			}
		}
	}
}

// CS3: the example of the chapter, and what is beside it.
func TestTrapGoesOn(t *testing.T) {
	cases := []struct {
		vector, cause, to uint32
	}{
		{0x80000101, 0x80000007, 0x8000011c},
		{0x80000101, 0x80000003, 0x8000010c},
		{0x80000101, 0x8000000b, 0x8000012c},
		{0x80000101, 0x80000000, 0x80000100},
		{0x80000101, 7, 0x80000100},
		{0x80000101, 0, 0x80000100},
		{0x80000101, 0x7fffffff, 0x80000100},
		{0x80000100, 0x80000007, 0x80000100},
		{0x80000100, 7, 0x80000100},
		{0x80000103, 0x80000007, 0x8000011c}, // bit 1 is nothing, where it stands at all
		{0x80000102, 0x80000007, 0x80000100},
		{0xfffffffd, 0x80000001, 0},
		{0xfffffffd, 0x8000000b, 0x28},
		{0xfffffffd, 0xffffffff, 0xfffffff8},
		{1, 0xffffffff, 0xfffffffc},
		{1, 0xc0000000, 0},
		{1, 0xc0000001, 4},
		{1, 0xbfffffff, 0xfffffffc},
		{0, 0xffffffff, 0},
	}
	for _, c := range cases {
		s, to := csr.Trap(csr.State{Vector: c.vector}, c.cause, 5, 8)
		want := csr.State{Vector: c.vector, Cause: c.cause, Value: 5, Epc: 8}
		if s != want || to != c.to {
			t.Errorf("Trap of %x, vector %x: %x, %x, not %x", c.cause, c.vector, s, to, c.to)
		}
	}
}

// CS3: bit 3 of Status goes to bit 7 by a trap, and comes from there by a return; all other bits stay.
func TestStatusOfTrapAndReturn(t *testing.T) {
	cases := []struct{ status, trap, back uint32 }{
		{0, 0, 0x80},
		{0x8, 0x80, 0x80},
		{0x80, 0, 0x88},
		{0x88, 0x80, 0x88},
		{0xffffff77, 0xffffff77, 0xfffffff7},
		{0xffffff7f, 0xfffffff7, 0xfffffff7},
		{0xfffffff7, 0xffffff77, 0xffffffff},
		{0xffffffff, 0xfffffff7, 0xffffffff},
	}
	for _, c := range cases {
		s := full()
		s.Status = c.status
		got, _ := csr.Trap(s, 2, 3, 4)
		want := s
		want.Status, want.Cause, want.Value, want.Epc = c.trap, 2, 3, 4
		if got != want {
			t.Errorf("Trap with Status %x: %x, not %x", c.status, got, want)
		}
		got, to := csr.Return(s)
		want = s
		want.Status = c.back
		if got != want || to != s.Epc {
			t.Errorf("Return with Status %x: %x, %x, not %x", c.status, got, to, want)
		}
	}
}

// CS3: a trap keeps its place without the two lowest bits, and a return goes on there.
func TestPlaceOfTrap(t *testing.T) {
	for _, pc := range someWords() {
		s, _ := csr.Trap(full(), 0, 0, pc)
		if s.Epc != pc/4*4 {
			t.Errorf("Trap at %x: %x", pc, s.Epc)
		}
		if _, to := csr.Return(s); to != pc/4*4 {
			t.Errorf("Return to %x: %x", pc, to)
		}
	}
	// Of a state that can't be, Epc is gone on at as it is.
	if _, to := csr.Return(csr.State{Epc: 7}); to != 7 {
		t.Errorf("Return to 7: %x", to)
	}
}

// plainAsks is the interrupt that comes next, each line asked by its name.
func plainAsks(s csr.State, lines uint32) uint32 {
	there := func(n int) bool { return bit(lines, n) == 1 && bit(s.Enable, n) == 1 }
	switch {
	case bit(s.Status, 3) == 0:
		return 0
	case there(11):
		return 1<<31 + 11
	case there(3):
		return 1<<31 + 3
	case there(7):
		return 1<<31 + 7
	}
	return 0
}

// some is the bits of the mask that a number from 0 to 7 tells.
func some(n int) uint32 { return uint32(n&1<<3 | n>>1&1<<7 | n>>2&1<<11) }

// CS3: each set of lines with each set that is enabled, with interrupts on and off.
func TestAsksOfAllLines(t *testing.T) {
	for there := range 8 {
		for enabled := range 8 {
			for _, status := range []uint32{0, 8, 0x80, 0x88} {
				s := csr.State{Status: status, Enable: some(enabled)}
				if got, want := csr.Asks(s, some(there)), plainAsks(s, some(there)); got != want {
					t.Errorf("Asks of %x, lines %x: %x, not %x", s, some(there), got, want)
				}
			}
		}
	}
}

// CS3: which of two comes first, told by hand.
func TestWhichAsksFirst(t *testing.T) {
	cases := []struct{ lines, enable, want uint32 }{
		{0x888, 0x888, 0x8000000b},
		{0x088, 0x888, 0x80000003},
		{0x880, 0x888, 0x8000000b},
		{0x808, 0x888, 0x8000000b},
		{0x080, 0x888, 0x80000007},
		{0x008, 0x888, 0x80000003},
		{0x800, 0x888, 0x8000000b},
		{0x888, 0x088, 0x80000003},
		{0x888, 0x080, 0x80000007},
		{0x880, 0x080, 0x80000007},
		{0x008, 0x880, 0},
		{0x888, 0, 0},
		{0, 0x888, 0},
		{^uint32(0x888), 0x888, 0},
		{^uint32(0x888), math.MaxUint32, 0}, // what is no line asks for nothing, in Enable or not
		{math.MaxUint32, 0x80, 0x80000007},
		{math.MaxUint32, math.MaxUint32, 0x8000000b},
	}
	for _, c := range cases {
		for _, status := range []uint32{0x8, 0x88, math.MaxUint32} {
			if got := csr.Asks(csr.State{Status: status, Enable: c.enable}, c.lines); got != c.want {
				t.Errorf("Asks of lines %x, Enable %x: %x, not %x", c.lines, c.enable, got, c.want)
			}
		}
		for _, status := range []uint32{0, 0x80, ^uint32(8)} {
			if got := csr.Asks(csr.State{Status: status, Enable: c.enable}, c.lines); got != 0 {
				t.Errorf("Asks with Status %x: %x", status, got)
			}
		}
	}
}

// CS4: traps and returns of states that may be make such; behind a trap nothing asks, behind its return what asked does.
func TestTrapTillReturn(t *testing.T) {
	r := rand.New(rand.NewSource(55))
	for _, s := range someStates() {
		for _, lines := range someWords() {
			trapped, _ := csr.Trap(s, r.Uint32(), r.Uint32(), r.Uint32())
			back, _ := csr.Return(trapped)
			if csr.Check(trapped) != nil || csr.Check(back) != nil {
				t.Fatalf("Trap, Return of %x: %x, %x", s, trapped, back)
			}
			if got := csr.Asks(trapped, lines); got != 0 {
				t.Fatalf("Asks behind Trap of %x: %x", s, got)
			}
			if got, want := csr.Asks(back, lines), csr.Asks(s, lines); got != want {
				t.Fatalf("Asks behind Return of %x: %x, not %x", trapped, got, want)
			}
			again, to := csr.Return(s)
			if csr.Check(again) != nil || to != s.Epc {
				t.Fatalf("Return of %x: %x, %x", s, again, to)
			}
		}
	}
}

// CS4: behind a trap, and behind a second one, nothing asks; a Write of Status lets it ask again.
func TestTrapTillWrite(t *testing.T) {
	s := csr.State{Status: 0x8, Enable: 0x888, Vector: 0x101}
	if got := csr.Asks(s, 0x880); got != 0x8000000b {
		t.Fatalf("Asks: %x", got)
	}
	s, to := csr.Trap(s, 0x8000000b, 0, 0x40)
	if to != 0x12c || s.Status != 0x80 || csr.Asks(s, 0x888) != 0 {
		t.Fatalf("Trap: %x, %x", s, to)
	}
	for at, v := range map[int]uint32{0x304: 0x888, 0x340: 0xffffffff, 0xb00: 1, 0x300: 0x80} {
		if w, err := csr.Write(s, at, v); err != nil || csr.Asks(w, 0x888) != 0 {
			t.Errorf("Write of %x lets it ask: %x, %v", at, w, err)
		}
	}
	on, err := csr.Write(s, 0x300, 0x88)
	if got := csr.Asks(on, 0x888); err != nil || got != 0x8000000b {
		t.Errorf("Asks behind a Write: %x, %v", got, err)
	}
	second, _ := csr.Trap(s, 2, 7, 0x104)
	if second.Status != 0 || second.Epc != 0x104 || csr.Asks(second, 0x888) != 0 {
		t.Errorf("a second Trap: %x", second)
	}
	// The second trap has lost what was on ahead of the first.
	if back, to := csr.Return(second); back.Status != 0x80 || to != 0x104 || csr.Asks(back, 0x888) != 0 {
		t.Errorf("Return of the second: %x, %x", back, to)
	}
	if back, to := csr.Return(s); back.Status != 0x88 || to != 0x40 || csr.Asks(back, 0x80) != 0x80000007 {
		t.Errorf("Return of the first: %x, %x", back, to)
	}
}
