package virtio_test

import (
	"errors"
	"math"
	"testing"

	"pinnace/api"
	"pinnace/ring"
	"pinnace/virtio"
)

// statusBits are the bits that a status may have, by hand.
var statusBits = []uint32{1, 2, 4, 8, 64, 128}

// numbers are edges of what may be chosen, or written.
var numbers = []uint32{0, 1, 2, 3, 4, 7, 8, 11, 15, 64, 128, 207, 255, 256, 257, 512, 1 << 16, 1<<16 + 1, math.MaxInt32, 1 << 31, 1<<31 + 1, math.MaxUint32 - 1, math.MaxUint32}

// oddPlaces are places where no register is.
var oddPlaces = []uint32{0x100, 0x101, 0x104, 0x110, 0x144, 0x170, 0x1fc, 0x200, 0x270, 0x1000, 0x1070, 1 << 16, 1<<16 + 0x44, 1 << 31, 1<<31 + 0x70, math.MaxUint32 - 3, math.MaxUint32}

// errno is the number that errors.As finds in an error; 0 of nil, -1 of another error.
func errno(err error) api.Errno {
	if err == nil {
		return 0
	}
	var e api.Errno
	if errors.As(err, &e) {
		return e
	}
	return -1
}

// with is a state that is changed by a function.
func with(s virtio.State, change func(*virtio.State)) virtio.State {
	change(&s)
	return s
}

// statuses are all that a status may be.
func statuses() []uint32 {
	out := []uint32{0}
	for _, bit := range statusBits {
		for _, v := range out {
			out = append(out, v|bit)
		}
	}
	return out
}

// half is a queue that is not Ready, and whose ring could not be.
func half() virtio.Queue {
	return virtio.Queue{R: ring.Ring{Size: 5, Desc: 0x80000011, Avail: 0x80000021, Used: 0x80000031, Last: 3, Put: 5}}
}

// whole is a queue that is not Ready, and whose ring may be.
func whole() virtio.Queue {
	return virtio.Queue{R: ring.Ring{Size: 8, Desc: 0x80000110, Avail: 0x80000222, Used: 0x80000334, Last: 7, Put: 9}}
}

// ready is a queue that is Ready.
func ready() virtio.Queue {
	q := whole()
	q.Ready = true
	return q
}

// midway is a state whose driver is at it, with another value in each part.
func midway() virtio.State {
	return virtio.State{Status: 3, FeatSel: 0x11, DrvSel: 0x12, Sel: 0x13, Irq: 1, Drv: [2]uint32{0x14, 0x15}, Q: [2]virtio.Queue{half(), whole()}}
}

// running is a state that is Live, of two queues that are Ready.
func running() virtio.State {
	s := virtio.State{Status: 15, FeatSel: 0x11, DrvSel: 0x12, Irq: 3, Drv: [2]uint32{0, 1}, Q: [2]virtio.Queue{ready(), ready()}}
	s.Q[1].R = ring.Ring{Size: 256, Desc: 0xfffffff0, Avail: 0xfffffffe, Used: 0xfffffffc, Last: 0xffff, Put: 0xfffe}
	return s
}

// queues are queues that may be.
func queues() []virtio.Queue {
	out := []virtio.Queue{{}, half(), whole(), ready(), running().Q[1], {Ready: true, R: ring.Ring{Size: 1}}}
	for _, v := range []int{0, 1, 3, 255, 256} {
		q := half()
		q.R.Size = v
		out = append(out, q)
	}
	return out
}

// someStates are states that may be: of all statuses, queues and edges.
func someStates() []virtio.State {
	out := []virtio.State{{}, midway(), running()}
	for i, v := range statuses() {
		for _, asked := range [][2]uint32{{0, 1}, {0, 0}, {1, 0}, {1, 1}, {0, 3}, {math.MaxUint32, math.MaxUint32}} {
			if v&8 != 0 && asked != [2]uint32{0, 1} {
				continue
			}
			for _, base := range []virtio.State{midway(), running()} {
				base.Status, base.Drv, base.Irq = v, asked, uint32(i%4)
				out = append(out, base)
			}
		}
	}
	for _, base := range []virtio.State{{}, midway(), running()} {
		for irq := range uint32(4) {
			out = append(out, with(base, func(s *virtio.State) { s.Irq = irq }))
		}
		for _, v := range numbers {
			out = append(out, with(base, func(s *virtio.State) { s.Sel = v }))
			out = append(out, with(base, func(s *virtio.State) { s.FeatSel = v }))
			out = append(out, with(base, func(s *virtio.State) { s.DrvSel = v }))
		}
		for _, first := range queues() {
			for _, second := range queues() {
				for sel := range uint32(3) {
					out = append(out, with(base, func(s *virtio.State) { s.Q, s.Sel = [2]virtio.Queue{first, second}, sel }))
				}
			}
		}
	}
	return out
}

// oddQueues are queues that can't be, each for one reason alone.
func oddQueues() []virtio.Queue {
	var out []virtio.Queue
	odd := func(q virtio.Queue, change func(*ring.Ring)) {
		change(&q.R)
		out = append(out, q)
	}
	for _, v := range []int{-1, -2, -256, 257, 258, 511, 512, 1 << 16, 1 << 31, 1 << 32, 1<<32 + 4, math.MaxInt, math.MinInt} {
		for _, q := range []virtio.Queue{{}, half(), whole(), ready()} {
			odd(q, func(r *ring.Ring) { r.Size = v })
		}
	}
	for _, v := range []int{0, 3, 5, 6, 7, 12, 96, 255} {
		odd(ready(), func(r *ring.Ring) { r.Size = v })
	}
	for v := uint32(1); v < 16; v++ {
		odd(ready(), func(r *ring.Ring) { r.Desc += v })
	}
	odd(ready(), func(r *ring.Ring) { r.Avail++ })
	for v := uint32(1); v < 4; v++ {
		odd(ready(), func(r *ring.Ring) { r.Used += v })
	}
	return out
}

// oddStates are states that can't be, each for one reason alone, and one for all of them.
func oddStates() []virtio.State {
	var out []virtio.State
	odd := func(change func(*virtio.State)) {
		for _, base := range []virtio.State{{}, midway(), running()} {
			out = append(out, with(base, change))
		}
	}
	for n := range 32 {
		bit := uint32(1) << n
		if bit&207 == 0 {
			odd(func(s *virtio.State) { s.Status |= bit })
		}
		if bit > 2 {
			odd(func(s *virtio.State) { s.Irq |= bit })
		}
	}
	odd(func(s *virtio.State) { s.Status = 0x30 })
	odd(func(s *virtio.State) { s.Irq = math.MaxUint32 })
	for _, asked := range [][2]uint32{{0, 0}, {1, 0}, {1, 1}, {2, 1}, {256, 1}, {1 << 31, 1}, {0, 2}, {0, 3}, {0, 257}, {0, 1<<31 + 1}, {0, math.MaxUint32}, {math.MaxUint32, math.MaxUint32}} {
		odd(func(s *virtio.State) { s.Status, s.Drv = 8, asked })
		odd(func(s *virtio.State) { s.Status, s.Drv = 15, asked })
		odd(func(s *virtio.State) { s.Status, s.Drv = 207, asked })
	}
	for _, q := range oddQueues() {
		odd(func(s *virtio.State) { s.Q[0] = q })
		odd(func(s *virtio.State) { s.Q[1] = q })
	}
	all := midway()
	all.Status, all.Irq, all.Q[0].R.Size, all.Q[1].Ready, all.Q[1].R.Desc = 0xff, 7, -1, true, 1
	return append(out, all)
}

// Two queues are what a device has.
func TestQueues(t *testing.T) {
	if virtio.Queues != 2 || len(virtio.State{}.Q) != 2 {
		t.Errorf("Queues is %d", virtio.Queues)
	}
}

// VI1: states may be with these bits, any Sel, FeatSel and DrvSel, and rings that may be, where their queue is Ready.
func TestCheck(t *testing.T) {
	for _, s := range someStates() {
		if err := virtio.Check(s); err != nil {
			t.Fatalf("%+v: %v", s, err)
		}
	}
}

// VI1: all others may not be.
func TestCheckOdd(t *testing.T) {
	for _, s := range oddStates() {
		if got := errno(virtio.Check(s)); got != 1 {
			t.Errorf("%+v: %d", s, got)
		}
	}
}

// VI1: a queue that is not Ready has a Size from 0 to 256; of one that is Ready the ring may be.
func TestCheckSizes(t *testing.T) {
	for n := -300; n <= 600; n++ {
		for i := range 2 {
			for _, isReady := range []bool{false, true} {
				s := virtio.State{}
				s.Q[i] = virtio.Queue{Ready: isReady, R: ring.Ring{Size: n}}
				may := n >= 0 && n <= 256
				if isReady {
					may = n == 1 || n == 2 || n == 4 || n == 8 || n == 16 || n == 32 || n == 64 || n == 128 || n == 256
				}
				if got := virtio.Check(s) == nil; got != may {
					t.Errorf("queue %d of Size %d, Ready %v: %v", i, n, isReady, got)
				}
			}
		}
	}
}

// VI1: the bit 8 is only where Drv is 0 and 1; the bit 4 may be without it.
func TestCheckSettled(t *testing.T) {
	for _, status := range statuses() {
		for _, first := range numbers {
			for _, second := range numbers {
				may := status&8 == 0 || first == 0 && second == 1
				if got := virtio.Check(virtio.State{Status: status, Drv: [2]uint32{first, second}}) == nil; got != may {
					t.Errorf("status %d, Drv %d and %d: %v", status, first, second, got)
				}
			}
		}
	}
}

// VI1: Live tells whether the bits 4 and 8 are there, and 64 is not.
func TestLive(t *testing.T) {
	live := map[uint32]bool{12: true, 13: true, 14: true, 15: true, 140: true, 141: true, 142: true, 143: true}
	for _, base := range []virtio.State{{}, midway(), running()} {
		for _, v := range statuses() {
			s := with(base, func(s *virtio.State) { s.Status = v })
			if got := virtio.Live(s); got != live[v] {
				t.Errorf("status %d: %v", v, got)
			}
		}
	}
}

// VI1: Fail sets the status' bit 64, and Irq's bit 2; all else stays.
func TestFail(t *testing.T) {
	for _, s := range someStates() {
		want := s
		if s.Status&64 == 0 {
			want.Status += 64
		}
		if s.Irq&2 == 0 {
			want.Irq += 2
		}
		if got := virtio.Fail(s); got != want || virtio.Live(got) || virtio.Check(got) != nil {
			t.Fatalf("%+v: %+v", s, got)
		}
	}
}

// VI1: Used sets Irq's bit 1; all else stays.
func TestUsed(t *testing.T) {
	for _, s := range someStates() {
		want := s
		if s.Irq&1 == 0 {
			want.Irq++
		}
		if got := virtio.Used(s); got != want || virtio.Check(got) != nil {
			t.Fatalf("%+v: %+v", s, got)
		}
	}
}

// VI1: what Fail and Used make of a state that may not be has their bits, too, and all else of it.
func TestFailAndUsedOdd(t *testing.T) {
	for _, s := range oddStates() {
		fails := with(s, func(s *virtio.State) { s.Status, s.Irq = s.Status|64, s.Irq|2 })
		if got := virtio.Fail(s); got != fails {
			t.Errorf("%+v fails as %+v", s, got)
		}
		used := with(s, func(s *virtio.State) { s.Irq |= 1 })
		if got := virtio.Used(s); got != used {
			t.Errorf("%+v is used as %+v", s, got)
		}
	}
}

// VI1, wrong inputs: of a state that may not be ErrArg is answered, ahead of ErrBus, and nothing beside it.
func TestOddStates(t *testing.T) {
	places := append([]uint32{0, 1, 2, 3, 4, 8, 0x10, 0x20, 0x34, 0x38, 0x44, 0x50, 0x60, 0x64, 0x70, 0x80, 0x84, 0xfc}, oddPlaces...)
	for _, s := range oddStates() {
		for _, at := range places {
			if got, err := virtio.Read(s, 2, at); errno(err) != 1 || got != 0 {
				t.Errorf("%+v at %#x: %d, %v", s, at, got, err)
			}
			for _, v := range []uint32{0, 1} {
				if got, n, err := virtio.Write(s, at, v); errno(err) != 1 || got != (virtio.State{}) || n != -1 {
					t.Errorf("%+v, %d at %#x: %+v, %d, %v", s, v, at, got, n, err)
				}
			}
		}
	}
}

// VI2: what each register tells, of a state that runs, one that is under way, and one at its beginning.
func TestRead(t *testing.T) {
	for _, c := range []struct {
		s    virtio.State
		tell map[uint32]uint32
	}{
		{virtio.State{}, map[uint32]uint32{0: 0x74726976, 4: 2, 8: 77, 12: 0x504e4143, 0x34: 256}},
		{midway(), map[uint32]uint32{0: 0x74726976, 4: 2, 8: 77, 12: 0x504e4143, 0x60: 1, 0x70: 3}},
		{running(), map[uint32]uint32{0: 0x74726976, 4: 2, 8: 77, 12: 0x504e4143, 0x34: 256, 0x44: 1, 0x60: 3, 0x70: 15}},
		{with(running(), func(s *virtio.State) { s.Sel, s.FeatSel, s.Irq, s.Status = 2, 1, 2, 207 }), map[uint32]uint32{0: 0x74726976, 4: 2, 8: 77, 12: 0x504e4143, 0x10: 1, 0x60: 2, 0x70: 207}},
		{with(midway(), func(s *virtio.State) { s.Sel, s.FeatSel = 1, 1 }), map[uint32]uint32{0: 0x74726976, 4: 2, 8: 77, 12: 0x504e4143, 0x10: 1, 0x34: 256, 0x60: 1, 0x70: 3}},
	} {
		for at := uint32(0); at < 0x100; at += 4 {
			if got, err := virtio.Read(c.s, 77, at); err != nil || got != c.tell[at] {
				t.Errorf("%+v at %#x: %#x, %v", c.s, at, got, err)
			}
		}
	}
}

// VI2: of 8 the id is told, whichever it is, and nowhere else.
func TestReadId(t *testing.T) {
	for _, id := range numbers {
		for at := uint32(0); at < 0x100; at += 4 {
			one, err := virtio.Read(running(), id, at)
			other, _ := virtio.Read(running(), ^id, at)
			if err != nil || at == 8 && one != id || at != 8 && one != other {
				t.Errorf("id %d at %#x: %d, %v", id, at, one, err)
			}
		}
	}
}

// VI2: 0x10 tells 1 of FeatSel 1, else 0; nothing else hangs on FeatSel or DrvSel.
func TestReadFeatures(t *testing.T) {
	for _, v := range numbers {
		s := with(running(), func(s *virtio.State) { s.FeatSel = v })
		want := uint32(0)
		if v == 1 {
			want = 1
		}
		if got, err := virtio.Read(s, 2, 0x10); err != nil || got != want {
			t.Errorf("FeatSel %d: %d, %v", v, got, err)
		}
		s.DrvSel, s.FeatSel = v, 1
		if got, err := virtio.Read(s, 2, 0x10); err != nil || got != 1 {
			t.Errorf("DrvSel %d: %d, %v", v, got, err)
		}
	}
}

// VI2: 0x34 tells 256, and 0x44 whether the queue is Ready, of a Sel below 2; else 0.
func TestReadQueues(t *testing.T) {
	for _, sel := range numbers {
		for n := range uint32(4) {
			s := with(midway(), func(s *virtio.State) { s.Sel = sel })
			if n&1 != 0 {
				s.Q[0] = ready()
			}
			if n&2 != 0 {
				s.Q[1] = ready()
			}
			size, isReady := uint32(0), uint32(0)
			switch sel {
			case 0:
				size, isReady = 256, n&1
			case 1:
				size, isReady = 256, n>>1
			}
			if got, err := virtio.Read(s, 2, 0x34); err != nil || got != size {
				t.Errorf("Sel %d: 0x34 tells %d, %v", sel, got, err)
			}
			if got, err := virtio.Read(s, 2, 0x44); err != nil || got != isReady {
				t.Errorf("Sel %d, Ready %02b: 0x44 tells %d, %v", sel, n, got, err)
			}
		}
	}
}

// VI2: 0x60 and 0x70 tell Irq and Status, whatever they are.
func TestReadIrqAndStatus(t *testing.T) {
	for _, s := range someStates() {
		if got, err := virtio.Read(s, 2, 0x60); err != nil || got != s.Irq {
			t.Fatalf("%+v: Irq %d, %v", s, got, err)
		}
		if got, err := virtio.Read(s, 2, 0x70); err != nil || got != s.Status {
			t.Fatalf("%+v: status %d, %v", s, got, err)
		}
	}
}

// VI2 and VI3, wrong inputs: no register is at other places than multiples of 4 below 0x100.
func TestOddPlaces(t *testing.T) {
	odd := append([]uint32{}, oddPlaces...)
	for at := uint32(0); at < 0x200; at++ {
		if at%4 != 0 || at >= 0x100 {
			odd = append(odd, at)
		}
	}
	for _, s := range []virtio.State{{}, midway(), running()} {
		for _, at := range odd {
			if got, err := virtio.Read(s, 2, at); errno(err) != 20 || got != 0 {
				t.Errorf("%#x: %d, %v", at, got, err)
			}
			for _, v := range []uint32{0, 1, math.MaxUint32} {
				if got, n, err := virtio.Write(s, at, v); errno(err) != 20 || got != (virtio.State{}) || n != -1 {
					t.Errorf("%d at %#x: %+v, %d, %v", v, at, got, n, err)
				}
			}
		}
	}
}
