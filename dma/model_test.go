package dma_test

import (
	"bytes"
	"maps"
	"math"
	"math/rand"
	"slices"
	"testing"

	"pinnace/dma"
	"pinnace/mem"
)

// second is an engine after the chapter's words: bytes stand in a list by their places, and an order is there, or is not.
type second struct {
	bytes []byte
	dirty map[int]bool
	code  string
	head  uint64
	at    uint64
	steps int
	moved uint64
	order []uint64 // from, to, left, next; nothing, if there is none
	asks  bool
}

// codes are what it is, by number.
var codes = []string{"idle", "busy", "done", "failed"}

// newSecond is the second engine that begins, with these bytes in memory.
func newSecond(b []byte) *second {
	return &second{bytes: b, dirty: map[int]bool{}, code: "idle"}
}

// state is what it would be as a state.
func (x *second) state() dma.State {
	s := dma.State{Code: uint32(slices.Index(codes, x.code)), Head: uint32(x.head), At: uint32(x.at), Steps: uint32(x.steps), Moved: uint32(x.moved), Asks: x.asks}
	if x.order != nil {
		s.Have, s.From, s.To, s.Left, s.Next = true, uint32(x.order[0]), uint32(x.order[1]), uint32(x.order[2]), uint32(x.order[3])
	}
	return s
}

// index is where the byte of a place stands in the list; -1: nowhere.
func (x *second) index(at uint64) int {
	if i := int(at%(1<<32)) - base; i >= 0 && i < len(x.bytes) {
		return i
	}
	return -1
}

// get are so many bytes from a place on; nothing, if one of them is not there.
func (x *second) get(at, n uint64) []byte {
	var out []byte
	for d := range n {
		i := x.index(at + d)
		if i < 0 {
			return nil
		}
		out = append(out, x.bytes[i])
	}
	return out
}

// fail lets it fail.
func (x *second) fail() {
	x.code, x.order, x.asks = "failed", nil, true
}

// tick lets a tick go by.
func (x *second) tick() {
	switch {
	case x.code != "busy":
	case x.order == nil:
		x.take()
	default:
		x.burst()
	}
}

// take looks for an order.
func (x *second) take() {
	b := x.get(x.at, 16)
	if x.steps >= 64 || x.at%4 != 0 || b == nil {
		x.fail()
		return
	}
	x.steps++
	var o []uint64
	for i := 0; i < 16; i += 4 {
		o = append(o, uint64(b[i])+256*(uint64(b[i+1])+256*(uint64(b[i+2])+256*uint64(b[i+3]))))
	}
	if o[2] < 1 || o[2] > 65536 {
		x.fail()
		return
	}
	x.order = o
}

// burst moves bytes one by one, if all are there.
func (x *second) burst() {
	n := min(x.order[2], 64)
	b := x.get(x.order[0], n)
	if b == nil || x.get(x.order[1], n) == nil {
		x.fail()
		return
	}
	for d, c := range b {
		i := x.index(x.order[1] + uint64(d))
		x.bytes[i] = c
		x.dirty[i/page] = true
	}
	x.order[0], x.order[1], x.order[2] = (x.order[0]+n)%(1<<32), (x.order[1]+n)%(1<<32), x.order[2]-n
	x.moved = (x.moved + n) % (1 << 32)
	if x.order[2] > 0 {
		return
	}
	next := x.order[3]
	x.order = nil
	if next == 0 {
		x.code, x.asks = "done", true
		return
	}
	x.at = next
}

// read reads a place that there is.
func (x *second) read(at uint32) uint32 {
	told := map[uint32]uint32{4: uint32(slices.Index(codes, x.code)), 8: uint32(x.head), 12: uint32(x.moved)}
	if x.code == "busy" {
		told[0] = 1
	}
	if x.asks {
		told[16] = 1
	}
	return told[at]
}

// write writes a place that there is.
func (x *second) write(at, v uint32) {
	busy := x.code == "busy"
	switch {
	case at == 0 && v == 1 && !busy:
		x.code, x.at, x.steps, x.moved, x.order, x.asks = "busy", x.head, 0, 0, nil, false
	case at == 0 && v == 2:
		x.code, x.at, x.steps, x.order, x.asks = "idle", 0, 0, nil, false
	case at == 8 && !busy:
		x.head = uint64(v)
	case at == 16 && v == 1:
		x.asks = false
	}
}

// somePlace is a place by chance: mostly in memory, at times near an edge of it, or far off.
func somePlace(r *rand.Rand, size int) uint32 {
	switch r.Intn(12) {
	case 0:
		return uint32(base + size - r.Intn(130))
	case 1:
		return uint32(base + r.Intn(130) - 64)
	case 2:
		if r.Intn(3) == 0 {
			return []uint32{0, 1, math.MaxUint32, 0x10010000, math.MaxUint32 - 63}[r.Intn(5)]
		}
	}
	return uint32(base + r.Intn(size-64))
}

// someOrder is an order by chance, most of which can be moved.
func someOrder(r *rand.Rand, size int) [4]uint32 {
	n := []uint32{1, 2, 63, 64, 65, 128, 129, uint32(r.Intn(700) + 1), uint32(r.Intn(300) + 1)}[r.Intn(9)]
	if r.Intn(40) == 0 {
		n = []uint32{0, 65536, 65537, math.MaxUint32}[r.Intn(4)]
	}
	next := uint32(base + 16*r.Intn(16))
	switch r.Intn(16) {
	case 0, 1, 2:
		next = 0
	case 3:
		next = somePlace(r, size)
	}
	return [4]uint32{somePlace(r, size), somePlace(r, size), n, next}
}

// checkBoth holds a state, its registers and memory against the second engine.
func checkBoth(t *testing.T, step int, s dma.State, m *mem.Ram, x *second) {
	t.Helper()
	if s != x.state() || dma.Check(s) != nil {
		t.Fatalf("step %d: %+v, not %+v", step, s, x.state())
	}
	for at := uint32(0); at < 256; at += 4 {
		if got := read(t, s, at); got != x.read(at) {
			t.Fatalf("step %d: %d reads %#x, not %#x", step, at, got, x.read(at))
		}
	}
	if !bytes.Equal(all(t, m), x.bytes) {
		t.Fatalf("step %d: other bytes are in memory", step)
	}
	if got := m.Dirty(); !slices.Equal(got, slices.Sorted(maps.Keys(x.dirty))) {
		t.Fatalf("step %d: dirty %v, not %v", step, got, x.dirty)
	}
}

// someWrite writes a place by chance, mostly 0 to start it.
func someWrite(t *testing.T, r *rand.Rand, s dma.State, x *second) dma.State {
	t.Helper()
	at, v := uint32(0), uint32(1)
	switch r.Intn(10) {
	case 0:
		at, v = uint32(4*r.Intn(64)), uint32(r.Intn(4))
	case 1:
		v = uint32(r.Intn(4))
	case 2:
		at, v = 8, somePlace(r, len(x.bytes))
	case 3, 4, 5:
		at, v = 8, uint32(base+16*r.Intn(16))
	case 6:
		at, v = 16, uint32(r.Intn(3))
	}
	x.write(at, v)
	return write(t, s, at, v)
}

// DM1 to DM3: long ways by chance from a seed, step by step against the second engine.
func TestLongWays(t *testing.T) {
	r := rand.New(rand.NewSource(12))
	ends := map[uint32]int{}
	for range 300 {
		pages := r.Intn(3) + 1
		m := newRam(t, pages)
		for i := range uint32(16) {
			lay(t, m, base+16*i, someOrder(r, pages*page))
		}
		x := newSecond(all(t, m))
		s := dma.State{}
		for step := range 120 {
			was := s.Code
			if r.Intn(12) == 0 || s.Code != 1 && r.Intn(2) == 0 {
				s = someWrite(t, r, s, x)
			} else {
				s = dma.Tick(s, m)
				x.tick()
				if was == 1 {
					ends[s.Code]++
				}
			}
			checkBoth(t, step, s, m, x)
		}
	}
	// If none came to an end by itself, the ways would tell nothing of that.
	if ends[1] < 1000 || ends[2] < 50 || ends[3] < 50 {
		t.Errorf("what ticks of a Busy one made: %v", ends)
	}
}

// DM3, DM4: lists by chance, run to their ends, end when the second engine does, and as it does.
func TestListsToTheirEnds(t *testing.T) {
	r := rand.New(rand.NewSource(13))
	for list := range 60 {
		m := newRam(t, 2)
		for i := range uint32(16) {
			o := someOrder(r, 2*page)
			// Behind the orders, so that none is spoilt, and many are done.
			o[0], o[1], o[2] = base+0x100+uint32(r.Intn(5000)), base+0x100+uint32(r.Intn(5000)), min(max(o[2], 1), 2000)
			lay(t, m, base+16*i, o)
		}
		x := newSecond(all(t, m))
		x.write(8, base)
		x.write(0, 1)
		ticks := 0
		for ; x.code == "busy"; ticks++ {
			x.tick()
		}
		s, n := run(t, start(t, base), m)
		if n != ticks || n > 65601 {
			t.Fatalf("list %d: %d ticks, not %d", list, n, ticks)
		}
		checkBoth(t, list, s, m, x)
	}
}
