package dma_test

import (
	"bytes"
	"errors"
	"math"
	"slices"
	"testing"

	"pinnace/api"
	"pinnace/dma"
	"pinnace/mem"
)

// base is memory's first place on the bus, page how many bytes a page has, by hand.
const (
	base = 0x80000000
	page = 4096
)

// errno is the number that errors.As finds in an error; 0 of nil, -1 of another error.
func errno(err error) api.Errno {
	if err == nil {
		return 0
	}
	var e api.Errno
	if errors.As(err, &e) {
		return e
	}
	return -1
}

// must fails the test at an error.
func must(t *testing.T, err error) {
	t.Helper()
	if err != nil {
		t.Fatal(err)
	}
}

// row are so many bytes, none of them 0, and none as its neighbours.
func row(n int) []byte {
	b := make([]byte, n)
	for i := range b {
		b[i] = byte(i%251 + 1)
	}
	return b
}

// newRam is memory of row's bytes, no page of it dirty.
func newRam(t *testing.T, pages int) *mem.Ram {
	t.Helper()
	m, err := mem.New(pages)
	must(t, err)
	must(t, m.Write(0, row(pages*page)))
	m.Harvest()
	return m
}

// all are all bytes of memory.
func all(t *testing.T, m *mem.Ram) []byte {
	t.Helper()
	b, err := m.Read(0, m.Pages()*page)
	must(t, err)
	return b
}

// lay lays orders, one behind the other, from a place of the bus on; no page is dirty then.
func lay(t *testing.T, m *mem.Ram, at uint32, orders ...[4]uint32) {
	t.Helper()
	for i, o := range orders {
		for j, v := range o {
			must(t, m.Store(at-base+uint32(16*i+4*j), 4, v))
		}
	}
	m.Harvest()
}

// with is a state that is changed by a function.
func with(s dma.State, change func(*dma.State)) dma.State {
	change(&s)
	return s
}

// having is a state that has an order, with another value in each part.
func having() dma.State {
	return dma.State{Code: 1, Head: 0x80000840, At: 0x80000880, Steps: 7, Moved: 0x01020304, Have: true, From: 0x80000111, To: 0x80000222, Left: 0x1234, Next: 0x80000890}
}

// looking is a state that is Busy, and has no order.
func looking() dma.State {
	return dma.State{Code: 1, Head: 0x80000840, At: 0x80000880, Steps: 7, Moved: 0x01020304}
}

// over is a state that came to an end, and asks.
func over(code uint32) dma.State {
	return dma.State{Code: code, Head: 0x80000840, At: 0x80000880, Steps: 64, Moved: 0x01020304, Asks: true}
}

// resting is a state that is Idle, whatever it did ahead.
func resting() dma.State {
	return dma.State{Head: 0x80000840, At: 0x80000880, Steps: 9, Moved: 0x01020304}
}

// quiet is a state that asks no more.
func quiet(s dma.State) dma.State {
	s.Asks = false
	return s
}

// someStates are states that may be: of all codes and edges.
func someStates() []dma.State {
	out := []dma.State{{}, resting(), looking(), having(), over(2), over(3), quiet(over(2)), quiet(over(3))}
	for code := range uint32(4) {
		for _, steps := range []uint32{0, 1, 63, 64} {
			for _, v := range []uint32{0, 1, base, math.MaxUint32} {
				s := dma.State{Code: code, Head: v, At: ^v, Steps: steps, Moved: v}
				out = append(out, s)
				if code >= 2 {
					out = append(out, with(s, func(s *dma.State) { s.Asks = true }))
				}
				for _, left := range []uint32{1, 2, 63, 64, 65, 65535, 65536} {
					if code == 1 {
						out = append(out, with(s, func(s *dma.State) { s.Have, s.From, s.To, s.Left, s.Next = true, v, ^v, left, v }))
					}
				}
			}
		}
	}
	return out
}

// oddStates are states that can't be, each for one reason alone, and one for all of them.
func oddStates() []dma.State {
	var out []dma.State
	odd := func(s dma.State, change func(*dma.State)) { out = append(out, with(s, change)) }
	four := []dma.State{{}, resting(), looking(), over(2), over(3), quiet(over(2)), quiet(over(3))}
	for _, v := range []uint32{4, 5, 7, 8, 64, 255, 256, 257, 1 << 16, 1 << 31, math.MaxInt32, math.MaxUint32} {
		odd(dma.State{}, func(s *dma.State) { s.Code = v })
		odd(resting(), func(s *dma.State) { s.Code = v })
	}
	for _, s := range four {
		if s.Code != 1 {
			odd(s, func(s *dma.State) { s.Have, s.Left = true, 1 })
			odd(s, func(s *dma.State) { s.Have, s.From, s.To, s.Left, s.Next = true, base, base, 64, base })
		}
		for _, v := range []uint32{1, 64, base, math.MaxUint32} {
			odd(s, func(s *dma.State) { s.From = v })
			odd(s, func(s *dma.State) { s.To = v })
			odd(s, func(s *dma.State) { s.Left = v })
			odd(s, func(s *dma.State) { s.Next = v })
			odd(s, func(s *dma.State) { s.From, s.To, s.Left, s.Next = v, v, v, v })
		}
	}
	for _, s := range []dma.State{{}, resting(), looking(), having(), {Code: 1}} {
		odd(s, func(s *dma.State) { s.Asks = true })
	}
	for _, v := range []uint32{0, 65537, 65538, 1 << 17, 1<<31 + 1, math.MaxUint32} {
		odd(having(), func(s *dma.State) { s.Left = v })
	}
	for _, s := range append(four, having()) {
		for _, v := range []uint32{65, 66, 128, 255, 256, 1 << 31, math.MaxUint32} {
			odd(s, func(s *dma.State) { s.Steps = v })
		}
	}
	return append(out, dma.State{Code: 4, Steps: 65, Have: true, Asks: true})
}

// named are the places that mean something when they are read.
func named() []uint32 {
	return []uint32{0, 4, 8, 12, 16}
}

// others are the places below 256 that are multiples of 4, and of which nothing is read.
func others() []uint32 {
	var out []uint32
	for at := uint32(20); at < 256; at += 4 {
		out = append(out, at)
	}
	return out
}

// noPlaces are places that nobody answers.
func noPlaces() []uint32 {
	var out []uint32
	for at := range uint32(1100) {
		if at%4 != 0 || at >= 256 {
			out = append(out, at)
		}
	}
	for b := 8; b < 32; b++ {
		for _, at := range append(named(), 252) {
			out = append(out, at|1<<b)
		}
	}
	for at := range uint32(20) {
		out = append(out, 0x10010000+at, base+at, math.MaxUint32-at, math.MaxInt32-at)
	}
	return out
}

// read is a word that must be read.
func read(t *testing.T, s dma.State, at uint32) uint32 {
	t.Helper()
	v, err := dma.Read(s, at)
	if err != nil {
		t.Fatalf("Read of %d of %+v: %v", at, s, err)
	}
	return v
}

// write is a state of a write that must be done.
func write(t *testing.T, s dma.State, at, v uint32) dma.State {
	t.Helper()
	got, err := dma.Write(s, at, v)
	if err != nil {
		t.Fatalf("Write of %#x to %d of %+v: %v", v, at, s, err)
	}
	return got
}

// untouched fails the test, if a tick did anything to memory.
func untouched(t *testing.T, m *mem.Ram, was *mem.Ram) {
	t.Helper()
	if !m.Same(was) || m.Writes() != was.Writes() || !slices.Equal(m.Dirty(), was.Dirty()) {
		t.Fatalf("memory was written: dirty %v, %d writes, not %d", m.Dirty(), m.Writes(), was.Writes())
	}
}

// tick is a tick that must make this state, and that writes nothing.
func tick(t *testing.T, s dma.State, m *mem.Ram, want dma.State) {
	t.Helper()
	was := m.Clone()
	if got := dma.Tick(s, m); got != want {
		t.Fatalf("Tick of %+v: %+v, not %+v", s, got, want)
	}
	untouched(t, m, was)
}

// failed is a state that fails.
func failed(s dma.State) dma.State {
	return dma.State{Code: 3, Head: s.Head, At: s.At, Steps: s.Steps, Moved: s.Moved, Asks: true}
}

// DM1, DM3: the codes, and how many bytes a burst has.
func TestNumbers(t *testing.T) {
	if dma.Idle != 0 || dma.Busy != 1 || dma.Done != 2 || dma.Failed != 3 || dma.Burst != 64 {
		t.Errorf("%d, %d, %d, %d; %d", dma.Idle, dma.Busy, dma.Done, dma.Failed, dma.Burst)
	}
}

// DM1: by hand: which states may be.
func TestCheckByHand(t *testing.T) {
	for _, c := range []struct {
		s    dma.State
		want api.Errno
	}{
		{dma.State{}, 0},
		{dma.State{Code: 1}, 0},
		{dma.State{Code: 2}, 0},
		{dma.State{Code: 3}, 0},
		{dma.State{Code: 4}, 1},
		{dma.State{Code: math.MaxUint32}, 1},
		// Have while it is not Busy.
		{dma.State{Code: 0, Have: true, Left: 1}, 1},
		{dma.State{Code: 1, Have: true, Left: 1}, 0},
		{dma.State{Code: 2, Have: true, Left: 1}, 1},
		{dma.State{Code: 3, Have: true, Left: 1}, 1},
		// Asks while it is Idle or Busy.
		{dma.State{Code: 0, Asks: true}, 1},
		{dma.State{Code: 1, Asks: true}, 1},
		{dma.State{Code: 1, Asks: true, Have: true, Left: 1}, 1},
		{dma.State{Code: 2, Asks: true}, 0},
		{dma.State{Code: 3, Asks: true}, 0},
		// What is left of an order, without Have.
		{dma.State{Code: 1, From: 1}, 1},
		{dma.State{Code: 1, To: 1}, 1},
		{dma.State{Code: 1, Left: 1}, 1},
		{dma.State{Code: 1, Next: 1}, 1},
		{dma.State{Code: 0, From: base}, 1},
		{dma.State{Code: 2, To: base}, 1},
		{dma.State{Code: 3, Left: 64}, 1},
		{dma.State{Code: 3, Next: math.MaxUint32}, 1},
		// Left with Have.
		{dma.State{Code: 1, Have: true}, 1},
		{dma.State{Code: 1, Have: true, Left: 65536}, 0},
		{dma.State{Code: 1, Have: true, Left: 65537}, 1},
		{dma.State{Code: 1, Have: true, Left: math.MaxUint32}, 1},
		{dma.State{Code: 1, Have: true, Left: 1, From: math.MaxUint32, To: math.MaxUint32, Next: math.MaxUint32}, 0},
		// Steps.
		{dma.State{Steps: 63}, 0},
		{dma.State{Steps: 64}, 0},
		{dma.State{Steps: 65}, 1},
		{dma.State{Code: 1, Steps: 64}, 0},
		{dma.State{Code: 1, Steps: 65}, 1},
		{dma.State{Code: 2, Steps: 65}, 1},
		{dma.State{Code: 3, Steps: math.MaxUint32}, 1},
		// Head, At and Moved may be whatever they are.
		{dma.State{Head: 1, At: 2, Moved: 3}, 0},
		{dma.State{Head: math.MaxUint32, At: math.MaxUint32, Moved: math.MaxUint32}, 0},
	} {
		if got := errno(dma.Check(c.s)); got != c.want {
			t.Errorf("Check of %+v: %d, not %d", c.s, got, c.want)
		}
	}
	for _, s := range someStates() {
		if err := dma.Check(s); err != nil {
			t.Errorf("Check of %+v: %v", s, err)
		}
	}
}

// DM1: of a state that can't be nothing is done: ErrArg, which comes ahead of ErrBus, or the state as it is.
func TestStatesThatCannotBe(t *testing.T) {
	m := newRam(t, 1)
	lay(t, m, base+0x880, [4]uint32{base, base + 0x200, 3, 0})
	was := m.Clone()
	for _, s := range oddStates() {
		if got := errno(dma.Check(s)); got != api.ErrArg {
			t.Fatalf("Check of %+v: %d, not %d", s, got, api.ErrArg)
		}
		for _, at := range []uint32{0, 4, 8, 12, 16, 20, 252, 1, 2, 3, 255, 256, base, math.MaxUint32} {
			if v, err := dma.Read(s, at); v != 0 || errno(err) != api.ErrArg {
				t.Fatalf("Read of %d of %+v: %d, %v", at, s, v, err)
			}
			for _, v := range []uint32{0, 1, 2, 3, math.MaxUint32} {
				if got, err := dma.Write(s, at, v); got != (dma.State{}) || errno(err) != api.ErrArg {
					t.Fatalf("Write of %d to %d of %+v: %+v, %v", v, at, s, got, err)
				}
			}
		}
		if got := dma.Tick(s, m); got != s {
			t.Fatalf("Tick of %+v: %+v", s, got)
		}
		if got := dma.Tick(s, nil); got != s {
			t.Fatalf("Tick of %+v without memory: %+v", s, got)
		}
	}
	untouched(t, m, was)
}

// DM1: what each place reads, of answers that are written out.
func TestReadByHand(t *testing.T) {
	for _, c := range []struct {
		s    dma.State
		want [5]uint32
	}{
		{dma.State{}, [5]uint32{0, 0, 0, 0, 0}},
		{resting(), [5]uint32{0, 0, 0x80000840, 0x01020304, 0}},
		{looking(), [5]uint32{1, 1, 0x80000840, 0x01020304, 0}},
		{having(), [5]uint32{1, 1, 0x80000840, 0x01020304, 0}},
		{over(2), [5]uint32{0, 2, 0x80000840, 0x01020304, 1}},
		{over(3), [5]uint32{0, 3, 0x80000840, 0x01020304, 1}},
		{quiet(over(2)), [5]uint32{0, 2, 0x80000840, 0x01020304, 0}},
		{quiet(over(3)), [5]uint32{0, 3, 0x80000840, 0x01020304, 0}},
		{dma.State{Code: 1, Head: math.MaxUint32, Moved: math.MaxUint32}, [5]uint32{1, 1, math.MaxUint32, math.MaxUint32, 0}},
	} {
		for i, at := range named() {
			if got := read(t, c.s, at); got != c.want[i] {
				t.Errorf("Read of %d of %+v: %#x, not %#x", at, c.s, got, c.want[i])
			}
		}
	}
}

// DM1, DM2: of the other places below 256 that are multiples of 4 nothing is read, and nothing is done when they are written; so, too, when 4 and 12 are.
func TestOtherPlaces(t *testing.T) {
	for _, s := range someStates() {
		for _, at := range others() {
			if got := read(t, s, at); got != 0 {
				t.Fatalf("Read of %d of %+v: %#x", at, s, got)
			}
		}
		for _, at := range append(others(), 4, 12) {
			for _, v := range []uint32{0, 1, 2, 3, math.MaxUint32} {
				if got := write(t, s, at, v); got != s {
					t.Fatalf("Write of %d to %d of %+v: %+v", v, at, s, got)
				}
			}
		}
	}
}

// DM1, DM2: of any place else ErrBus, and nothing beside it.
func TestNobodyAnswers(t *testing.T) {
	for _, s := range []dma.State{{}, resting(), looking(), having(), over(2), over(3)} {
		for _, at := range noPlaces() {
			if v, err := dma.Read(s, at); v != 0 || errno(err) != api.ErrBus {
				t.Fatalf("Read of %#x of %+v: %d, %v", at, s, v, err)
			}
			for _, v := range []uint32{0, 1, 2, math.MaxUint32} {
				if got, err := dma.Write(s, at, v); got != (dma.State{}) || errno(err) != api.ErrBus {
					t.Fatalf("Write of %d to %#x of %+v: %+v, %v", v, at, s, got, err)
				}
			}
		}
	}
}

// DM2: what a write to 0 makes, by hand, while it is Idle, Busy, Done and Failed.
func TestWriteOfStartByHand(t *testing.T) {
	started := dma.State{Code: 1, Head: 0x80000840, At: 0x80000840}
	stopped := dma.State{Head: 0x80000840, Moved: 0x01020304}
	for _, c := range []struct {
		s, one, two dma.State
	}{
		{dma.State{}, dma.State{Code: 1}, dma.State{}},
		{resting(), started, stopped},
		{looking(), looking(), stopped},
		{having(), having(), stopped},
		{over(2), started, stopped},
		{over(3), started, stopped},
		{quiet(over(2)), started, stopped},
		{quiet(over(3)), started, stopped},
		{dma.State{Code: 1, Steps: 64}, dma.State{Code: 1, Steps: 64}, dma.State{}},
		{dma.State{Head: math.MaxUint32}, dma.State{Code: 1, Head: math.MaxUint32, At: math.MaxUint32}, dma.State{Head: math.MaxUint32}},
		{dma.State{Head: 3, At: 9, Moved: math.MaxUint32}, dma.State{Code: 1, Head: 3, At: 3}, dma.State{Head: 3, Moved: math.MaxUint32}},
	} {
		if got := write(t, c.s, 0, 1); got != c.one {
			t.Errorf("Write of 1 to 0 of %+v: %+v, not %+v", c.s, got, c.one)
		}
		if got := write(t, c.s, 0, 2); got != c.two {
			t.Errorf("Write of 2 to 0 of %+v: %+v, not %+v", c.s, got, c.two)
		}
	}
}

// DM2: any other word at 0 does nothing, whatever bits it has.
func TestWriteOfOtherWordsToStart(t *testing.T) {
	words := []uint32{0, 3, 4, 5, 6, 7, 8, 255, 256, 257, 258, 0x10001, 0x10002, 0x80000001, 0x80000002, math.MaxUint32 - 1, math.MaxUint32}
	for _, s := range someStates() {
		for _, v := range words {
			if got := write(t, s, 0, v); got != s {
				t.Fatalf("Write of %#x to 0 of %+v: %+v", v, s, got)
			}
		}
	}
}

// DM2: Head becomes what is written to 8, but not while it is Busy; nothing else changes.
func TestWriteOfHead(t *testing.T) {
	for _, s := range someStates() {
		for _, v := range []uint32{0, 1, 2, 3, base, base + 1, math.MaxInt32, math.MaxUint32} {
			want := s
			if s.Code != 1 {
				want.Head = v
			}
			if got := write(t, s, 8, v); got != want {
				t.Fatalf("Write of %#x to 8 of %+v: %+v", v, s, got)
			}
		}
	}
	if got := write(t, over(2), 8, 5); got != (dma.State{Code: 2, Head: 5, At: 0x80000880, Steps: 64, Moved: 0x01020304, Asks: true}) {
		t.Errorf("Head while it is Done: %+v", got)
	}
	if got := write(t, looking(), 8, 5); got != looking() {
		t.Errorf("Head while it is Busy: %+v", got)
	}
}

// DM2: a 1 at 16, and no other word, makes that it asks no more; nothing else changes.
func TestWriteOfAsks(t *testing.T) {
	for _, s := range someStates() {
		if got := write(t, s, 16, 1); got != quiet(s) {
			t.Fatalf("Write of 1 to 16 of %+v: %+v", s, got)
		}
		for _, v := range []uint32{0, 2, 3, 4, 5, 255, 256, 257, 0x80000001, math.MaxUint32} {
			if got := write(t, s, 16, v); got != s {
				t.Fatalf("Write of %#x to 16 of %+v: %+v", v, s, got)
			}
		}
	}
	if got := write(t, over(3), 16, 1); got != (dma.State{Code: 3, Head: 0x80000840, At: 0x80000880, Steps: 64, Moved: 0x01020304}) {
		t.Errorf("Asks while it is Failed: %+v", got)
	}
}

// DM1 to DM3: of a state that may be all calls make ones that may be.
func TestWhatMayBeStays(t *testing.T) {
	m := newRam(t, 1)
	for _, s := range someStates() {
		check := func(what string, got dma.State) {
			t.Helper()
			if err := dma.Check(got); err != nil {
				t.Fatalf("%s of %+v: %+v: %v", what, s, got, err)
			}
		}
		check("Tick", dma.Tick(s, m))
		for at := uint32(0); at < 256; at += 4 {
			for _, v := range []uint32{0, 1, 2, 3, base, math.MaxUint32} {
				check("Write", write(t, s, at, v))
			}
		}
	}
}

// Rule 4: what a call answers hangs on its arguments alone, and the state that is handed in stays.
func TestCallsAgain(t *testing.T) {
	first, second := newRam(t, 1), newRam(t, 1)
	for _, s := range someStates() {
		was := s
		got, again := dma.Tick(s, first), dma.Tick(was, second)
		if got != again || !first.Same(second) {
			t.Fatalf("Tick of %+v: %+v, then %+v", was, got, again)
		}
		for at := uint32(0); at < 260; at += 2 {
			v, err := dma.Read(s, at)
			if w, other := dma.Read(was, at); v != w || errno(err) != errno(other) {
				t.Fatalf("Read of %d of %+v: %d, then %d", at, was, v, w)
			}
			one, err := dma.Write(s, at, 1)
			if two, other := dma.Write(was, at, 1); one != two || errno(err) != errno(other) {
				t.Fatalf("Write to %d of %+v: %+v, then %+v", at, was, one, two)
			}
		}
		if s != was {
			t.Fatalf("%+v became %+v", was, s)
		}
	}
}

// DM3: nothing is done while it is not Busy, and of no memory.
func TestTickOfNothing(t *testing.T) {
	m := newRam(t, 1)
	lay(t, m, base+0x840, [4]uint32{base, base + 0x200, 3, 0})
	lay(t, m, base+0x880, [4]uint32{base, base + 0x200, 3, 0})
	for _, s := range someStates() {
		if got := dma.Tick(s, nil); got != s {
			t.Fatalf("Tick of %+v without memory: %+v", s, got)
		}
		if s.Code != 1 {
			tick(t, s, m, s)
		}
	}
}

// same is whether two lists of bytes are the same, told by the first place where they are not.
func same(t *testing.T, got, want []byte) {
	t.Helper()
	if bytes.Equal(got, want) {
		return
	}
	for i := range got {
		if got[i] != want[i] {
			t.Fatalf("the byte at %#x is %d, not %d", i, got[i], want[i])
		}
	}
}
