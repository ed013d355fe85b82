package virtio_test

import (
	"math"
	"testing"

	"pinnace/ring"
	"pinnace/virtio"
)

// write is a state to which a register was written; no queue is notified.
func write(t *testing.T, s virtio.State, at, v uint32) virtio.State {
	t.Helper()
	got, n, err := virtio.Write(s, at, v)
	if err != nil || n != -1 {
		t.Fatalf("%+v, %d at %#x: %d, %v", s, v, at, n, err)
	}
	return got
}

// becomes fails the test, if a write does not make just that change.
func becomes(t *testing.T, s virtio.State, at, v uint32, change func(*virtio.State)) {
	t.Helper()
	if got, want := write(t, s, at, v), with(s, change); got != want {
		t.Errorf("%+v, %d at %#x: %+v, not %+v", s, v, at, got, want)
	}
}

// stays fails the test, if a write makes any change.
func stays(t *testing.T, s virtio.State, at, v uint32) {
	t.Helper()
	becomes(t, s, at, v, func(*virtio.State) {})
}

// fails is the change that Fail makes, by hand.
func fails(s *virtio.State) {
	s.Status |= 64
	s.Irq |= 2
}

// VI3: 0x14, 0x24 and 0x30 are what they choose, whatever it is.
func TestWriteChoices(t *testing.T) {
	for _, s := range []virtio.State{{}, midway(), running()} {
		for _, v := range numbers {
			becomes(t, s, 0x14, v, func(s *virtio.State) { s.FeatSel = v })
			becomes(t, s, 0x24, v, func(s *virtio.State) { s.DrvSel = v })
			becomes(t, s, 0x30, v, func(s *virtio.State) { s.Sel = v })
		}
	}
}

// VI3: 0x20 is what the driver asks for, of the DrvSel below 2, as long as the status has not the bit 8.
func TestWriteDrv(t *testing.T) {
	for _, status := range statuses() {
		for _, sel := range numbers {
			s := with(running(), func(s *virtio.State) { s.Status, s.DrvSel = status, sel })
			for _, v := range numbers {
				if status&8 == 0 && sel < 2 {
					becomes(t, s, 0x20, v, func(s *virtio.State) { s.Drv[sel] = v })
				} else {
					stays(t, s, 0x20, v)
				}
			}
		}
	}
	s := midway()
	s.DrvSel = 0
	becomes(t, s, 0x20, 9, func(s *virtio.State) { s.Drv = [2]uint32{9, 0x15} })
	s.DrvSel = 1
	becomes(t, s, 0x20, 9, func(s *virtio.State) { s.Drv = [2]uint32{0x14, 9} })
}

// VI3: what is of a queue does nothing, if Sel is 2 or above.
func TestWriteNoQueue(t *testing.T) {
	for _, base := range []virtio.State{{}, midway(), running()} {
		for _, sel := range numbers {
			if sel < 2 {
				continue
			}
			s := with(base, func(s *virtio.State) { s.Sel = sel })
			for _, at := range []uint32{0x38, 0x44, 0x80, 0x84, 0x90, 0x94, 0xa0, 0xa4} {
				for _, v := range numbers {
					stays(t, s, at, v)
				}
			}
		}
	}
}

// VI3: how a queue is set up stays, if it is Ready; it does not even fail.
func TestWriteReadyQueue(t *testing.T) {
	for sel := range uint32(2) {
		for _, base := range []virtio.State{running(), with(midway(), func(s *virtio.State) { s.Q[sel] = ready() })} {
			s := with(base, func(s *virtio.State) { s.Sel = sel })
			for _, at := range []uint32{0x38, 0x80, 0x84, 0x90, 0x94, 0xa0, 0xa4} {
				for _, v := range numbers {
					stays(t, s, at, v)
				}
			}
		}
	}
}

// VI3: of a queue that is not Ready 0x38 is its Size, of 256 at most; 0x80, 0x90 and 0xa0 are its places, whatever they
// are; the other queue, Ready or not, stays.
func TestWriteQueue(t *testing.T) {
	for sel := range uint32(2) {
		for _, other := range queues() {
			for _, q := range []virtio.Queue{{}, half(), whole()} {
				s := with(midway(), func(s *virtio.State) { s.Sel, s.Q[sel], s.Q[1-sel] = sel, q, other })
				for _, v := range numbers {
					if v <= 256 {
						becomes(t, s, 0x38, v, func(s *virtio.State) { s.Q[sel].R.Size = int(v) })
					} else {
						stays(t, s, 0x38, v)
					}
					becomes(t, s, 0x80, v, func(s *virtio.State) { s.Q[sel].R.Desc = v })
					becomes(t, s, 0x90, v, func(s *virtio.State) { s.Q[sel].R.Avail = v })
					becomes(t, s, 0xa0, v, func(s *virtio.State) { s.Q[sel].R.Used = v })
				}
			}
		}
	}
}

// VI3: of a queue that is not Ready 0x84, 0x94 and 0xa4 let the device fail, if they are not 0.
func TestWriteHigh(t *testing.T) {
	for sel := range uint32(2) {
		for _, base := range []virtio.State{{}, midway(), running()} {
			s := with(base, func(s *virtio.State) { s.Sel, s.Q[sel].Ready = sel, false })
			for _, at := range []uint32{0x84, 0x94, 0xa4} {
				for _, v := range numbers {
					if v == 0 {
						stays(t, s, at, v)
					} else {
						becomes(t, s, at, v, fails)
					}
				}
			}
		}
	}
}

// VI3: 0x44 of 1 makes a queue Ready, that begins, of a ring that may be, even if it was Ready.
func TestWriteReady(t *testing.T) {
	for sel := range uint32(2) {
		for _, other := range queues() {
			for _, q := range []virtio.Queue{whole(), ready(), running().Q[1], {R: ring.Ring{Size: 1}}, {R: ring.Ring{Size: 256, Desc: math.MaxUint32 - 15, Last: 1}}} {
				s := with(midway(), func(s *virtio.State) { s.Sel, s.Q[sel], s.Q[1-sel] = sel, q, other })
				becomes(t, s, 0x44, 1, func(s *virtio.State) {
					s.Q[sel].Ready = true
					s.Q[sel].R.Last = 0
					s.Q[sel].R.Put = 0
				})
			}
		}
	}
}

// VI3: 0x44 of 1 lets the device fail, if its ring may not be; the queue stays.
func TestWriteReadyOdd(t *testing.T) {
	odd := []virtio.Queue{{}, half()}
	for n := range 257 {
		if n&(n-1) != 0 || n == 0 {
			q := whole()
			q.R.Size = n
			odd = append(odd, q)
		}
	}
	for _, q := range oddQueues() {
		if q.Ready = false; q.R.Size >= 0 && q.R.Size <= 256 {
			odd = append(odd, q)
		}
	}
	for sel := range uint32(2) {
		for _, base := range []virtio.State{{}, midway(), running()} {
			for _, q := range odd {
				s := with(base, func(s *virtio.State) { s.Sel, s.Q[sel] = sel, q })
				becomes(t, s, 0x44, 1, fails)
			}
		}
	}
}

// VI3: 0x44 of 0 makes a queue not Ready, whose ring stays; of others it does nothing.
func TestWriteNotReady(t *testing.T) {
	for sel := range uint32(2) {
		for _, base := range []virtio.State{midway(), running()} {
			for _, q := range queues() {
				s := with(base, func(s *virtio.State) { s.Sel, s.Q[sel] = sel, q })
				becomes(t, s, 0x44, 0, func(s *virtio.State) { s.Q[sel].Ready = false })
				for _, v := range numbers {
					if v > 1 {
						stays(t, s, 0x44, v)
					}
				}
			}
		}
	}
}

// VI3: 0x50 notifies a queue that is there and Ready, if the device is Live, whatever Sel is; it changes nothing.
func TestNotify(t *testing.T) {
	for _, status := range statuses() {
		for n := range uint32(4) {
			for _, sel := range []uint32{0, 1, 2, math.MaxUint32} {
				s := with(running(), func(s *virtio.State) { s.Status, s.Sel, s.Q[0].Ready, s.Q[1].Ready = status, sel, n&1 != 0, n&2 != 0 })
				for _, v := range numbers {
					want := -1
					if status&76 == 12 && (v == 0 && n&1 != 0 || v == 1 && n&2 != 0) {
						want = int(v)
					}
					if got, q, err := virtio.Write(s, 0x50, v); got != s || q != want || err != nil {
						t.Errorf("status %d, Ready %02b, %d: %+v, %d, %v", status, n, v, got, q, err)
					}
				}
			}
		}
	}
}

// VI3: 0x64 takes bits off Irq; what there is not is taken off for nothing.
func TestWriteIrq(t *testing.T) {
	left := map[[2]uint32]uint32{{1, 0}: 1, {1, 2}: 1, {2, 0}: 2, {2, 1}: 2, {3, 0}: 3, {3, 1}: 2, {3, 2}: 1}
	for _, base := range []virtio.State{{}, midway(), running()} {
		for irq := range uint32(4) {
			s := with(base, func(s *virtio.State) { s.Irq = irq })
			for _, v := range numbers {
				becomes(t, s, 0x64, v, func(s *virtio.State) { s.Irq = left[[2]uint32{irq, v % 4}] })
			}
		}
	}
}

// VI3: 0x70 of 0 resets whatever there was.
func TestReset(t *testing.T) {
	for _, s := range someStates() {
		if got := write(t, s, 0x70, 0); got != (virtio.State{}) {
			t.Fatalf("%+v: %+v", s, got)
		}
	}
}

// VI3: 0x70 sets the bits 1, 2, 4, 8 and 128, takes none away, and sets no other ones; 8 is set only, if Drv is 0 and 1,
// and 4 only, if 8 is set then.
func TestWriteStatus(t *testing.T) {
	right, wrong := [2]uint32{0, 1}, [2]uint32{0, 0}
	for _, c := range []struct {
		status    uint32
		asked     [2]uint32
		v, become uint32
	}{
		{0, wrong, 1, 1}, {0, wrong, 2, 2}, {0, wrong, 4, 0}, {0, wrong, 8, 0}, {0, wrong, 64, 0}, {0, wrong, 128, 128},
		{0, right, 1, 1}, {0, right, 2, 2}, {0, right, 4, 0}, {0, right, 8, 8}, {0, right, 64, 0}, {0, right, 128, 128},
		{0, wrong, 12, 0}, {0, right, 12, 12}, {0, wrong, 15, 3}, {0, right, 15, 15}, {0, right, 7, 3}, {0, right, 11, 11},
		{0, wrong, 16, 0}, {0, right, 16, 0}, {0, right, 32, 0}, {0, right, 256, 0}, {0, right, 1 << 31, 0}, {0, right, 48, 0},
		{0, right, math.MaxUint32, 143}, {0, wrong, math.MaxUint32, 131}, {0, right, math.MaxUint32 - 8, 131},
		{3, wrong, 1, 3}, {3, wrong, 2, 3}, {3, wrong, 128, 131}, {3, wrong, 16, 3}, {3, wrong, 8, 3}, {3, right, 8, 11},
		{3, right, 4, 3}, {3, right, 11, 11}, {3, right, 15, 15}, {3, wrong, 15, 3},
		{11, right, 4, 15}, {11, right, 15, 15}, {11, right, 3, 11}, {11, right, 64, 11}, {11, right, 128, 139}, {8, right, 4, 12},
		{15, right, 1, 15}, {15, right, 8, 15}, {15, right, 64, 15}, {15, right, 16, 15}, {15, right, 128, 143},
		{4, wrong, 4, 4}, {4, wrong, 8, 4}, {4, right, 8, 12}, {4, wrong, 1, 5}, {7, right, 1, 7},
		{64, wrong, 1, 65}, {64, right, 15, 79}, {79, right, 1, 79}, {79, right, 128, 207}, {128, wrong, 1, 129}, {128, right, 15, 143},
		{207, right, 1, 207}, {207, right, math.MaxUint32, 207}, {207, right, 16, 207},
	} {
		for _, base := range []virtio.State{{}, midway(), running()} {
			s := with(base, func(s *virtio.State) { s.Status, s.Drv = c.status, c.asked })
			becomes(t, s, 0x70, c.v, func(s *virtio.State) { s.Status = c.become })
		}
	}
}

// VI3: 8 is set of no other Drv than 0 and 1.
func TestWriteSettled(t *testing.T) {
	for _, first := range numbers {
		for _, second := range numbers {
			s := with(midway(), func(s *virtio.State) { s.Drv = [2]uint32{first, second} })
			if first == 0 && second == 1 {
				becomes(t, s, 0x70, 15, func(s *virtio.State) { s.Status = 15 })
			} else {
				stays(t, s, 0x70, 15)
			}
		}
	}
}

// VI3: what is written to the other places does nothing.
func TestWriteNothing(t *testing.T) {
	told := map[uint32]bool{0x14: true, 0x20: true, 0x24: true, 0x30: true, 0x38: true, 0x44: true, 0x50: true, 0x64: true, 0x70: true, 0x80: true, 0x84: true, 0x90: true, 0x94: true, 0xa0: true, 0xa4: true}
	for _, base := range []virtio.State{{}, midway(), running()} {
		for sel := range uint32(3) {
			s := with(base, func(s *virtio.State) { s.Sel = sel })
			for at := uint32(0); at < 0x100; at += 4 {
				for _, v := range numbers {
					if !told[at] {
						stays(t, s, at, v)
					}
				}
			}
		}
	}
}

// The example: a driver that is there asks for what the device can do, settles that, and lets it work.
func TestExample(t *testing.T) {
	s := write(t, virtio.State{}, 0x70, 3)
	s = write(t, s, 0x24, 1)
	s = write(t, s, 0x20, 1)
	s = write(t, s, 0x70, 11)
	if virtio.Live(s) {
		t.Errorf("ahead of its time: %+v", s)
	}
	s = write(t, s, 0x70, 15)
	if want := (virtio.State{Status: 15, DrvSel: 1, Drv: [2]uint32{0, 1}}); s != want || !virtio.Live(s) {
		t.Errorf("%+v", s)
	}
}

// VI3: a driver sets up both queues, and is told of what it did; a reset takes all away.
func TestSetUp(t *testing.T) {
	s := write(t, virtio.State{Status: 3, DrvSel: 1}, 0x20, 1)
	s = write(t, s, 0x70, 15)
	for sel := range uint32(2) {
		s = write(t, s, 0x30, sel)
		for i, at := range []uint32{0x38, 0x80, 0x84, 0x90, 0x94, 0xa0, 0xa4, 0x44} {
			s = write(t, s, at, []uint32{16, 0x80001000, 0, 0x80002000, 0, 0x80003000, 0, 1}[i])
		}
		if got, err := virtio.Read(s, 1, 0x44); got != 1 || err != nil {
			t.Errorf("queue %d: %d, %v", sel, got, err)
		}
		if _, n, err := virtio.Write(s, 0x50, sel); n != int(sel) || err != nil {
			t.Errorf("queue %d: %d, %v", sel, n, err)
		}
	}
	q := virtio.Queue{Ready: true, R: ring.Ring{Size: 16, Desc: 0x80001000, Avail: 0x80002000, Used: 0x80003000}}
	if want := (virtio.State{Status: 15, DrvSel: 1, Sel: 1, Drv: [2]uint32{0, 1}, Q: [2]virtio.Queue{q, q}}); s != want {
		t.Errorf("%+v", s)
	}
	if s = write(t, s, 0x70, 0); s != (virtio.State{}) {
		t.Errorf("%+v", s)
	}
}
