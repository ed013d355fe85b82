package virtio_test

import (
	"math"
	"math/rand"
	"testing"

	"pinnace/ring"
	"pinnace/virtio"
)

// second is a device after the chapter's words: its bits stand by their numbers, its queues by what is written to them.
type second struct {
	status, irq map[int]bool
	features    uint64 // FeatSel
	drivers     uint64 // DrvSel
	sel         uint64
	asked       map[uint64]uint64
	queues      map[uint64]*secondQueue
}

// secondQueue is a queue: what was written to its registers, by their places.
type secondQueue struct {
	ready     bool
	told      map[uint32]uint64
	last, put uint64
}

// newSecond is the second device at first.
func newSecond() *second {
	return &second{
		status: map[int]bool{},
		irq:    map[int]bool{},
		asked:  map[uint64]uint64{},
		queues: map[uint64]*secondQueue{0: {told: map[uint32]uint64{}}, 1: {told: map[uint32]uint64{}}},
	}
}

// bits are bits as a number.
func bits(of map[int]bool) uint32 {
	sum := 0
	for bit, is := range of {
		if is {
			sum += bit
		}
	}
	return uint32(sum)
}

// state is what it would be as a state.
func (x *second) state() virtio.State {
	s := virtio.State{Status: bits(x.status), FeatSel: uint32(x.features), DrvSel: uint32(x.drivers), Sel: uint32(x.sel), Irq: bits(x.irq)}
	for i := range uint64(2) {
		s.Drv[i] = uint32(x.asked[i])
		q := x.queues[i]
		s.Q[i] = virtio.Queue{Ready: q.ready, R: ring.Ring{Size: int(q.told[0x38]), Desc: uint32(q.told[0x80]), Avail: uint32(q.told[0x90]), Used: uint32(q.told[0xa0]), Last: uint16(q.last), Put: uint16(q.put)}}
	}
	return s
}

// live tells whether it works.
func (x *second) live() bool {
	return x.status[4] && x.status[8] && !x.status[64]
}

// fail lets it need to be reset.
func (x *second) fail() {
	x.status[64] = true
	x.irq[2] = true
}

// begun is a queue that has begun with chains, by the numbers that it counts.
func (q *secondQueue) begun(last, put uint64) {
	q.last, q.put = last, put
}

// fits tells whether its ring may be.
func (q *secondQueue) fits() bool {
	for _, n := range []uint64{1, 2, 4, 8, 16, 32, 64, 128, 256} {
		if q.told[0x38] == n {
			return q.told[0x80]%16 == 0 && q.told[0x90]%2 == 0 && q.told[0xa0]%4 == 0
		}
	}
	return false
}

// read is what a register tells.
func (x *second) read(id, at uint32) uint32 {
	told := map[uint32]uint32{0: 0x74726976, 4: 2, 8: id, 12: 0x504e4143, 0x60: bits(x.irq), 0x70: bits(x.status)}
	if x.features == 1 {
		told[0x10] = 1
	}
	if q := x.queues[x.sel]; q != nil {
		told[0x34] = 256
		if q.ready {
			told[0x44] = 1
		}
	}
	return told[at]
}

// write writes a register; which queue is notified.
func (x *second) write(at uint32, v uint64) int {
	switch at {
	case 0x14:
		x.features = v
	case 0x24:
		x.drivers = v
	case 0x30:
		x.sel = v
	case 0x20:
		if !x.status[8] && x.drivers < 2 {
			x.asked[x.drivers] = v
		}
	case 0x50:
		if q := x.queues[v]; q != nil && q.ready && x.live() {
			return int(v)
		}
	case 0x64:
		for _, bit := range []int{1, 2} {
			if v/uint64(bit)%2 == 1 {
				x.irq[bit] = false
			}
		}
	case 0x70:
		x.writeStatus(v)
	default:
		if q := x.queues[x.sel]; q != nil {
			x.writeQueue(q, at, v)
		}
	}
	return -1
}

// writeStatus writes the status.
func (x *second) writeStatus(v uint64) {
	if v == 0 {
		*x = *newSecond()
		return
	}
	for _, bit := range []int{1, 2, 128, 8, 4} { // 4 behind 8
		if v/uint64(bit)%2 == 0 {
			continue
		}
		if bit == 8 && (x.asked[0] != 0 || x.asked[1] != 1) || bit == 4 && !x.status[8] {
			continue
		}
		x.status[bit] = true
	}
}

// writeQueue writes what is of the queue of Sel.
func (x *second) writeQueue(q *secondQueue, at uint32, v uint64) {
	switch at {
	case 0x44:
		if v == 0 {
			q.ready = false
		}
		if v == 1 && !q.fits() {
			x.fail()
		} else if v == 1 {
			q.ready = true
			q.begun(0, 0)
		}
	case 0x38:
		if !q.ready && v <= 256 {
			q.told[at] = v
		}
	case 0x80, 0x90, 0xa0:
		if !q.ready {
			q.told[at] = v
		}
	case 0x84, 0x94, 0xa4:
		if !q.ready && v != 0 {
			x.fail()
		}
	}
}

// somePlace is where a driver writes: at a register that is told, and now and then at any other.
func somePlace(rnd *rand.Rand) uint32 {
	told := []uint32{0x14, 0x20, 0x24, 0x30, 0x30, 0x38, 0x44, 0x44, 0x50, 0x50, 0x50, 0x64, 0x70, 0x80, 0x84, 0x90, 0x94, 0xa0, 0xa4}
	if rnd.Intn(8) == 0 {
		return 4 * uint32(rnd.Intn(64))
	}
	return told[rnd.Intn(len(told))]
}

// someValue is what a driver writes at a place: mostly what makes sense there.
func someValue(rnd *rand.Rand, at uint32) uint32 {
	if rnd.Intn(12) == 0 {
		return numbers[rnd.Intn(len(numbers))]
	}
	switch at {
	case 0x38:
		return uint32(1 << rnd.Intn(9))
	case 0x70:
		return []uint32{1, 3, 11, 15, 15, 15, 15, 4, 8, 12, 128, 143}[rnd.Intn(12)]
	case 0x80, 0x90, 0xa0:
		return 16 * rnd.Uint32() >> rnd.Intn(5)
	case 0x84, 0x94, 0xa4:
		return uint32(rnd.Intn(16) / 15)
	}
	return uint32(rnd.Intn(2))
}

// setUp is what a right driver writes, in its order; left to itself chance would hardly ever make a device work.
func setUp(rnd *rand.Rand) [][2]uint32 {
	out := [][2]uint32{{0x70, 0}, {0x70, 3}, {0x24, 1}, {0x20, 1}, {0x70, 11}}
	for sel := range uint32(2) {
		out = append(out, [2]uint32{0x30, sel})
		for _, at := range []uint32{0x38, 0x80, 0x90, 0xa0} {
			out = append(out, [2]uint32{at, 1 << (4 + rnd.Intn(5))})
		}
		out = append(out, [2]uint32{0x44, 1})
	}
	return append(out, [2]uint32{0x70, 15})
}

// VI4, and VI1 to VI3: whatever is written and read, and whatever the device does with its queues, one behind the other,
// is as the second device has it, and a state that may be; a driver that did not settle what the device can do has none
// that works.
func TestModel(t *testing.T) {
	works, notified, failed, resets := 0, 0, 0, 0
	for seed := range int64(400) {
		rnd := rand.New(rand.NewSource(seed))
		s, x := virtio.State{}, newSecond()
		var plan [][2]uint32
		for range 400 {
			if len(plan) == 0 && rnd.Intn(30) == 0 {
				plan = setUp(rnd)
			}
			if rnd.Intn(200) == 0 {
				s = virtio.Fail(s)
				x.fail()
			}
			if rnd.Intn(10) == 0 {
				s = virtio.Used(s)
				x.irq[1] = true
			}
			if n := rnd.Intn(20); n < 2 {
				last, put := uint16(rnd.Uint32()), uint16(rnd.Uint32())
				s.Q[n].R.Last, s.Q[n].R.Put = last, put
				x.queues[uint64(n)].begun(uint64(last), uint64(put))
			}
			at := somePlace(rnd)
			v := someValue(rnd, at)
			if len(plan) > 0 && rnd.Intn(30) > 0 {
				at, v, plan = plan[0][0], plan[0][1], plan[1:]
			}
			was := s
			got, n, err := virtio.Write(s, at, v)
			want := x.write(at, uint64(v))
			if s = got; err != nil || n != want || s != x.state() {
				t.Fatalf("seed %d, %+v, %d at %#x: %+v, %d, %v; the second one: %+v, %d", seed, was, v, at, s, n, err, x.state(), want)
			}
			if virtio.Check(s) != nil || virtio.Live(s) != x.live() {
				t.Fatalf("seed %d, %+v: %v, live %v", seed, s, virtio.Check(s), virtio.Live(s))
			}
			if virtio.Live(s) && (s.Status&8 == 0 || s.Drv != [2]uint32{0, 1}) {
				t.Fatalf("seed %d: it works, and nothing was settled: %+v", seed, s)
			}
			from := 4 * uint32(rnd.Intn(64))
			if told, err := virtio.Read(s, 2, from); err != nil || told != x.read(2, from) {
				t.Fatalf("seed %d, %+v at %#x: %d, %v", seed, s, from, told, err)
			}
			works += count(virtio.Live(s))
			notified += count(n >= 0)
			failed += count(s.Status&64 != 0)
			resets += count(s == virtio.State{} && was != virtio.State{})
		}
	}
	if works < 1000 || notified < 100 || failed < 1000 || resets < 100 {
		t.Errorf("too little was seen: %d, %d, %d, %d", works, notified, failed, resets)
	}
}

// count is 1 of what is so.
func count(is bool) int {
	if is {
		return 1
	}
	return 0
}

// VI4: of every state that may be, every register, and every edge, a state is made that may be; one that is not Live
// becomes Live by the status alone, and only if Drv is 0 and 1.
func TestAlwaysMayBe(t *testing.T) {
	for _, s := range someStates() {
		for at := uint32(0); at < 0x100; at += 4 {
			for _, v := range numbers {
				got, n, err := virtio.Write(s, at, v)
				if err != nil || virtio.Check(got) != nil || n < -1 || n > 1 {
					t.Fatalf("%+v, %d at %#x: %+v, %d, %v", s, v, at, got, n, err)
				}
				if virtio.Live(got) && got.Drv != [2]uint32{0, 1} || virtio.Live(got) && !virtio.Live(s) && at != 0x70 {
					t.Fatalf("%+v, %d at %#x: %+v is Live", s, v, at, got)
				}
			}
		}
	}
}

// VI4: a driver that asks for anything else than the device can do never has one that works, whatever it writes behind.
func TestNeverSettled(t *testing.T) {
	rnd := rand.New(rand.NewSource(1))
	for _, asked := range [][2]uint32{{0, 0}, {1, 0}, {1, 1}, {2, 1}, {0, 2}, {0, 3}, {1 << 31, 1}, {0, 1<<31 + 1}, {math.MaxUint32, math.MaxUint32}} {
		s := virtio.State{Status: 3, Drv: asked}
		for range 2000 {
			at := somePlace(rnd)
			v := someValue(rnd, at)
			if at == 0x20 || at == 0x70 && v == 0 {
				continue
			}
			if s = firstOf(virtio.Write(s, at, v)); virtio.Live(s) || s.Status&12 != 0 {
				t.Fatalf("Drv %v: %+v", asked, s)
			}
		}
	}
}

// firstOf is the state that a write answered.
func firstOf(s virtio.State, _ int, _ error) virtio.State { return s }
