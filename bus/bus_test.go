package bus_test

import (
	"errors"
	"math"
	"math/rand"
	"slices"
	"testing"

	"pinnace/api"
	"pinnace/bus"
)

// errno is the number that errors.As finds in an error; 0 of nil, -1 of another error.
func errno(err error) api.Errno {
	if err == nil {
		return 0
	}
	var e api.Errno
	if errors.As(err, &e) {
		return e
	}
	return -1
}

// device is a line of the chapter's map, by hand.
type device struct {
	dev         int
	first, size uint64
	widths      []int
}

// chart is the chapter's map, memory having so many bytes.
func chart(size uint32) []device {
	return []device{
		{1, 0x02000000, 65536, []int{4}},
		{2, 0x0c000000, 4194304, []int{4}},
		{3, 0x10000000, 8, []int{1}},
		{4, 0x10010000, 256, []int{4}},
		{5, 0x10020000, 512, []int{4}},
		{6, 0x10030000, 512, []int{4}},
		{7, 0x80000000, min(uint64(size), 1<<31), []int{1, 2, 4}},
	}
}

// sizes are memories of none, of a few bytes, of some pages, and of all that count and more.
var sizes = []uint32{0, 1, 2, 3, 4, 5, 4095, 4096, 4097, 3 * 4096, 16384 * 4096, 1<<31 - 2, 1<<31 - 1, 1 << 31, 1<<31 + 1, math.MaxUint32}

// widths are those that are, their neighbours, and those by which nothing may ever be asked.
var widths = []int{-4, -2, -1, 0, 1, 2, 3, 4, 5, 6, 7, 8, 12, 16, 1 << 32, 1<<32 + 1, 1<<32 + 4, math.MaxInt, math.MinInt, math.MinInt + 1}

// lookByte is the device in which one byte lies, of a place that may be beyond all.
func lookByte(size uint32, at uint64) int {
	for _, d := range chart(size) {
		if at >= d.first && at < d.first+d.size {
			return d.dev
		}
	}
	return 0
}

// find is what the chapter's words make of a place, byte for byte.
func find(size uint32, at uint32, n int) (int, uint32, api.Errno) {
	if n != 1 && n != 2 && n != 4 {
		return 0, 0, api.ErrWidth
	}
	if uint64(at)%uint64(n) != 0 {
		return 0, 0, api.ErrAlign
	}
	dev := lookByte(size, uint64(at))
	for i := 1; i < n; i++ {
		if lookByte(size, uint64(at)+uint64(i)) != dev {
			dev = 0
		}
	}
	if dev == 0 {
		return 0, 0, api.ErrBus
	}
	d := chart(size)[dev-1]
	if !slices.Contains(d.widths, n) {
		return 0, 0, api.ErrWidth
	}
	return dev, uint32(uint64(at) - d.first), 0
}

// checkFind holds Find against the chapter's words.
func checkFind(t *testing.T, size uint32, at uint32, n int) {
	t.Helper()
	dev, in, e := find(size, at, n)
	if d, i, err := bus.Find(size, at, n); d != dev || i != in || errno(err) != e {
		t.Errorf("Find(%d, %#x, %d): %d, %d, %v, not %d, %d, %d", size, at, n, d, i, err, dev, in, e)
	}
}

// TestNumbers: the devices' numbers (chapter 7, the map).
func TestNumbers(t *testing.T) {
	got := []int{bus.None, bus.Clint, bus.Plic, bus.Uart, bus.Dma, bus.Blk, bus.Nic, bus.Memory}
	for i, dev := range got {
		if dev != i {
			t.Errorf("the device %d has the number %d", i, dev)
		}
	}
}

// TestFindByHand: BU1, of answers that are written out.
func TestFindByHand(t *testing.T) {
	for _, c := range []struct {
		size, at uint32
		n        int
		dev      int
		in       uint32
		e        api.Errno
	}{
		{4096, 0x10000005, 1, bus.Uart, 5, 0},
		{4096, 0x10000005, 4, 0, 0, api.ErrAlign},
		{4096, 0x10000004, 4, 0, 0, api.ErrWidth},
		{4096, 0x10000006, 2, 0, 0, api.ErrWidth},
		{4096, 0x10000007, 1, bus.Uart, 7, 0},
		{4096, 0x10000008, 1, 0, 0, api.ErrBus},
		{4096, 0x0fffffff, 1, 0, 0, api.ErrBus},
		{4096, 0x02000000, 4, bus.Clint, 0, 0},
		{4096, 0x0200fffc, 4, bus.Clint, 0xfffc, 0},
		{4096, 0x02010000, 4, 0, 0, api.ErrBus},
		{4096, 0x02000000, 2, 0, 0, api.ErrWidth},
		{4096, 0x0200ffff, 1, 0, 0, api.ErrWidth},
		{4096, 0x01fffffc, 4, 0, 0, api.ErrBus},
		{4096, 0x0c200004, 4, bus.Plic, 0x200004, 0},
		{4096, 0x0c3ffffc, 4, bus.Plic, 0x3ffffc, 0},
		{4096, 0x0c400000, 4, 0, 0, api.ErrBus},
		{4096, 0x100100fc, 4, bus.Dma, 0xfc, 0},
		{4096, 0x10010100, 4, 0, 0, api.ErrBus},
		{4096, 0x10010001, 1, 0, 0, api.ErrWidth},
		{4096, 0x100201fc, 4, bus.Blk, 0x1fc, 0},
		{4096, 0x10020200, 4, 0, 0, api.ErrBus},
		{4096, 0x10030000, 4, bus.Nic, 0, 0},
		{4096, 0x100301fc, 4, bus.Nic, 0x1fc, 0},
		{4096, 0x10030200, 4, 0, 0, api.ErrBus},
		{4096, 0x80000000, 1, bus.Memory, 0, 0},
		{4096, 0x80000ffe, 2, bus.Memory, 0xffe, 0},
		{4096, 0x80000ffc, 4, bus.Memory, 0xffc, 0},
		{4096, 0x80001000, 1, 0, 0, api.ErrBus},
		{4096, 0x7fffffff, 1, 0, 0, api.ErrBus},
		{0, 0x80000000, 1, 0, 0, api.ErrBus},
		{1, 0x80000000, 1, bus.Memory, 0, 0},
		{1, 0x80000000, 2, 0, 0, api.ErrBus},
		{3, 0x80000002, 2, 0, 0, api.ErrBus},
		{3, 0x80000000, 4, 0, 0, api.ErrBus},
		{4, 0x80000000, 4, bus.Memory, 0, 0},
		{1 << 31, 0xfffffffc, 4, bus.Memory, 0x7ffffffc, 0},
		{1 << 31, 0xffffffff, 1, bus.Memory, 0x7fffffff, 0},
		{math.MaxUint32, 0xfffffffe, 2, bus.Memory, 0x7ffffffe, 0},
		{math.MaxUint32, 0, 4, 0, 0, api.ErrBus},
		{math.MaxUint32, 0x7ffffffc, 4, 0, 0, api.ErrBus},
		{1<<31 - 1, 0xffffffff, 1, 0, 0, api.ErrBus},
		{1<<31 - 1, 0xfffffffe, 2, 0, 0, api.ErrBus},
	} {
		d, in, err := bus.Find(c.size, c.at, c.n)
		if d != c.dev || in != c.in || errno(err) != c.e {
			t.Errorf("Find(%d, %#x, %d): %d, %d, %v, not %d, %d, %d", c.size, c.at, c.n, d, in, err, c.dev, c.in, c.e)
		}
	}
}

// TestFindFirstError: BU1, which error comes first: the width, then the multiple, then the map, then the device's width.
func TestFindFirstError(t *testing.T) {
	for _, c := range []struct {
		at uint32
		n  int
		e  api.Errno
	}{
		{0x00000001, 3, api.ErrWidth},  // no width, no multiple, no device
		{0x00000003, 3, api.ErrWidth},  // no width, no device
		{0x00000000, 8, api.ErrWidth},  // no width, no device
		{0x80000000, 0, api.ErrWidth},  // of memory, too
		{0x80000000, -4, api.ErrWidth}, // of memory, too
		{0x80000000, 8, api.ErrWidth},  // of memory, too
		{0x00000001, 4, api.ErrAlign},  // no multiple, no device
		{0x00000001, 2, api.ErrAlign},  // no multiple, no device
		{0x10000002, 4, api.ErrAlign},  // no multiple, not by 4
		{0x10000001, 2, api.ErrAlign},  // no multiple, not by 2
		{0x02000002, 4, api.ErrAlign},  // no multiple, but by 4
		{0x80000001, 2, api.ErrAlign},
		{0x80000002, 4, api.ErrAlign},
		{0x80000ffe, 4, api.ErrAlign}, // no multiple, and over the end
		{0x10000008, 2, api.ErrBus},   // no device: nobody says by what
		{0x02000002, 2, api.ErrWidth},
	} {
		if d, in, err := bus.Find(4096, c.at, c.n); d != 0 || in != 0 || errno(err) != c.e {
			t.Errorf("Find(4096, %#x, %d): %d, %d, %v, not %d", c.at, c.n, d, in, err, c.e)
		}
	}
}

// TestFindEdges: BU1, of each device its borders and what is about them, by each width, whatever memory has.
func TestFindEdges(t *testing.T) {
	for _, size := range sizes {
		places := []uint64{0, 1 << 31, 1 << 32, 0x0a000000, 0x10008000, 0x40000000, 0xc0000000}
		for _, d := range chart(size) {
			places = append(places, d.first, d.first+d.size/2, d.first+d.size)
		}
		for _, p := range places {
			for off := -9; off <= 9; off++ {
				for _, n := range widths {
					checkFind(t, size, uint32(int64(p)+int64(off)), n)
				}
			}
		}
	}
}

// TestFindAtRandom: BU1, of places anywhere, and of many in small devices.
func TestFindAtRandom(t *testing.T) {
	r := rand.New(rand.NewSource(7))
	for range 20000 {
		size := sizes[r.Intn(len(sizes))]
		n := 1 << r.Intn(3)
		checkFind(t, size, r.Uint32(), n)
		d := chart(size)[r.Intn(7)]
		checkFind(t, size, uint32(d.first+uint64(r.Int63n(int64(d.size+64)))), n)
	}
}

// TestOnePlaceOneDevice: BU3, no two devices of the map have a place in common, and Find is Base's other side.
func TestOnePlaceOneDevice(t *testing.T) {
	for _, size := range sizes {
		end := uint64(0)
		for dev := bus.Clint; dev <= bus.Memory; dev++ {
			first, n := bus.Base(dev, size)
			if uint64(first) < end {
				t.Errorf("memory of %d bytes: the device %d begins at %#x, ahead of %#x", size, dev, first, end)
			}
			end = uint64(first) + uint64(n)
			if n < 4 {
				continue
			}
			w := chart(size)[dev-1].widths[0]
			for _, at := range []uint32{0, n/2 - n/2%4, n - n%4 - 4} {
				if d, in, err := bus.Find(size, first+at, w); d != dev || in != at || err != nil {
					t.Errorf("Find(%d, %#x, %d): %d, %d, %v, not %d, %d", size, first+at, w, d, in, err, dev, at)
				}
			}
		}
		if end > 1<<32 {
			t.Errorf("memory of %d bytes ends at %#x", size, end)
		}
	}
}

// TestBase: BU1, where each device lies, and how many bytes it has.
func TestBase(t *testing.T) {
	for _, size := range sizes {
		for _, d := range chart(size) {
			if at, n := bus.Base(d.dev, size); uint64(at) != d.first || uint64(n) != d.size {
				t.Errorf("Base(%d, %d): %#x, %d, not %#x, %d", d.dev, size, at, n, d.first, d.size)
			}
		}
		for _, dev := range []int{math.MinInt, -8, -7, -1, 0, 8, 9, 15, 16, 256, 1<<32 + 1, math.MaxInt} {
			if at, n := bus.Base(dev, size); at != 0 || n != 0 {
				t.Errorf("Base(%d, %d): %#x, %d, not 0, 0", dev, size, at, n)
			}
		}
	}
}

// may tells by the chapter's words whether a write that waits may be.
func may(p bus.Post) bool {
	if p.Dev < 1 || p.Dev > 6 {
		return false
	}
	d := chart(0)[p.Dev-1]
	return p.N == d.widths[0] && uint64(p.At)%uint64(p.N) == 0 && uint64(p.At)+uint64(p.N) <= d.size
}

// good is a write that may be: the i-th of many, which all differ.
func good(i int) bus.Post {
	d := chart(0)[i%6]
	n := d.widths[0]
	return bus.Post{Dev: d.dev, At: uint32(i % 8 * n), N: n, Value: uint32(i)*0x01010101 + 0x80}
}

// goods are so many writes that may be, from the i-th on.
func goods(i, n int) []bus.Post {
	var l []bus.Post
	for k := range n {
		l = append(l, good(i+k))
	}
	return l
}

// bads are writes that may not be, each by one of its numbers.
func bads() []bus.Post {
	return []bus.Post{
		{},
		{Dev: 0, At: 0, N: 4},
		{Dev: -1, At: 0, N: 4},
		{Dev: math.MinInt, At: 0, N: 4},
		{Dev: bus.Memory, At: 0, N: 4},
		{Dev: bus.Memory, At: 0, N: 1},
		{Dev: 8, At: 0, N: 4},
		{Dev: 1<<32 + 1, At: 0, N: 4},
		{Dev: math.MaxInt, At: 0, N: 4},
		{Dev: bus.Clint, At: 0, N: 1},
		{Dev: bus.Clint, At: 0, N: 2},
		{Dev: bus.Plic, At: 0, N: 0},
		{Dev: bus.Plic, At: 0, N: -4},
		{Dev: bus.Plic, At: 0, N: math.MinInt},
		{Dev: bus.Dma, At: 0, N: 5},
		{Dev: bus.Dma, At: 0, N: 8},
		{Dev: bus.Dma, At: 0, N: 12},
		{Dev: bus.Dma, At: 0, N: 1<<32 + 4},
		{Dev: bus.Uart, At: 0, N: 2},
		{Dev: bus.Uart, At: 0, N: 3},
		{Dev: bus.Uart, At: 0, N: 4},
		{Dev: bus.Uart, At: 0, N: -1},
		{Dev: bus.Uart, At: 0, N: 1<<32 + 1},
		{Dev: bus.Clint, At: 1, N: 4},
		{Dev: bus.Blk, At: 2, N: 4},
		{Dev: bus.Nic, At: 0x1ff, N: 4},
		{Dev: bus.Clint, At: 65536, N: 4},
		{Dev: bus.Plic, At: 4194304, N: 4},
		{Dev: bus.Uart, At: 8, N: 1},
		{Dev: bus.Dma, At: 256, N: 4},
		{Dev: bus.Blk, At: 512, N: 4},
		{Dev: bus.Nic, At: 512, N: 4},
		{Dev: bus.Nic, At: 0xfffffffc, N: 4},
		{Dev: bus.Uart, At: 0xffffffff, N: 1},
		{Dev: bus.Uart, At: 0x10000000, N: 1},
		{Dev: bus.Clint, At: 0x02000000, N: 4},
	}
}

// TestCheckOne: BU2, which writes may wait, by each of their numbers.
func TestCheckOne(t *testing.T) {
	ats := []uint32{0, 1, 2, 3, 4, 6, 7, 8, 0x10000000, math.MaxUint32}
	for _, d := range chart(0) {
		for off := -8; off <= 8; off++ {
			ats = append(ats, uint32(int64(d.size)+int64(off)), uint32(int64(d.first)+int64(off)))
		}
	}
	for dev := -2; dev <= 10; dev++ {
		for _, n := range widths {
			for _, at := range ats {
				p := bus.Post{Dev: dev, At: at, N: n, Value: at * 7}
				want := api.Errno(0)
				if !may(p) {
					want = api.ErrArg
				}
				if err := bus.Check(bus.Queue{L: []bus.Post{p}}); errno(err) != want {
					t.Errorf("Check of %v: %v, not %d", p, err, want)
				}
				if _, err := bus.Push(bus.Queue{}, p); errno(err) != want {
					t.Errorf("Push of %v: %v, not %d", p, err, want)
				}
			}
		}
	}
}

// TestCheckValues: BU2, a write's value is anything.
func TestCheckValues(t *testing.T) {
	for _, v := range []uint32{0, 1, 0xff, 0x100, 0x10000, 1 << 31, math.MaxUint32} {
		for i := range 6 {
			p := good(i)
			p.Value = v
			q, err := bus.Push(bus.Queue{}, p)
			if err != nil || len(q.L) != 1 || q.L[0] != p {
				t.Errorf("Push of %v: %v, %v", p, q, err)
			}
		}
	}
}

// TestCheckLists: BU2, queues of up to 8, and of more, and an odd write at each place of them.
func TestCheckLists(t *testing.T) {
	if err := bus.Check(bus.Queue{}); err != nil {
		t.Errorf("Check of none: %v", err)
	}
	if err := bus.Check(bus.Queue{L: []bus.Post{}}); err != nil {
		t.Errorf("Check of an empty list: %v", err)
	}
	for n := range 20 {
		want := api.Errno(0)
		if n > 8 {
			want = api.ErrArg
		}
		if err := bus.Check(bus.Queue{L: goods(n, n)}); errno(err) != want {
			t.Errorf("Check of %d writes: %v, not %d", n, err, want)
		}
		for i := range n {
			for _, bad := range bads() {
				l := goods(n, n)
				l[i] = bad
				checkRefused(t, bus.Queue{L: l})
			}
		}
	}
	if err := bus.Check(bus.Queue{L: goods(0, 5000)}); errno(err) != api.ErrArg {
		t.Errorf("Check of 5000 writes: %v", err)
	}
}

// checkRefused asks each call of a queue that may not be: ErrArg, and nothing beside it.
func checkRefused(t *testing.T, q bus.Queue) {
	t.Helper()
	was := slices.Clone(q.L)
	if err := bus.Check(q); errno(err) != api.ErrArg {
		t.Errorf("Check of %v: %v", q, err)
	}
	for _, p := range []bus.Post{good(3), {}} {
		if r, err := bus.Push(q, p); errno(err) != api.ErrArg || len(r.L) != 0 {
			t.Errorf("Push onto %v: %v, %v", q, r, err)
		}
	}
	if r, p, err := bus.Pop(q); errno(err) != api.ErrArg || len(r.L) != 0 || p != (bus.Post{}) {
		t.Errorf("Pop of %v: %v, %v, %v", q, r, p, err)
	}
	if !slices.Equal(q.L, was) {
		t.Errorf("%v has become %v", was, q.L)
	}
}

// TestTooMany: BU2, a queue of more than 8 writes is none, not a full one.
func TestTooMany(t *testing.T) {
	for _, n := range []int{9, 10, 16, 300} {
		checkRefused(t, bus.Queue{L: goods(1, n)})
	}
}

// TestFull: BU2, the eighth write finds room, the ninth none; one that may not be comes first.
func TestFull(t *testing.T) {
	q, err := bus.Push(bus.Queue{L: goods(0, 7)}, good(7))
	if err != nil || !slices.Equal(q.L, goods(0, 8)) {
		t.Fatalf("Push onto 7: %v, %v", q, err)
	}
	if r, err := bus.Push(q, good(8)); errno(err) != api.ErrFull || len(r.L) != 0 {
		t.Errorf("Push onto 8: %v, %v", r, err)
	}
	for _, bad := range bads() {
		if r, err := bus.Push(q, bad); errno(err) != api.ErrArg || len(r.L) != 0 {
			t.Errorf("Push of %v onto 8: %v, %v", bad, r, err)
		}
	}
	if !slices.Equal(q.L, goods(0, 8)) {
		t.Errorf("the full queue has become %v", q.L)
	}
}

// TestEmpty: BU2, nothing comes out of an empty queue, however it became so.
func TestEmpty(t *testing.T) {
	one, _, err := bus.Pop(bus.Queue{L: goods(5, 1)})
	if err != nil {
		t.Fatal(err)
	}
	for _, q := range []bus.Queue{{}, {L: []bus.Post{}}, {L: goods(0, 8)[:0]}, one} {
		if r, p, err := bus.Pop(q); errno(err) != api.ErrNone || len(r.L) != 0 || p != (bus.Post{}) {
			t.Errorf("Pop of none: %v, %v, %v", r, p, err)
		}
	}
}

// TestInOrder: BU3, writes come out as they went in, also those that are alike, however Push and Pop are mixed.
func TestInOrder(t *testing.T) {
	r := rand.New(rand.NewSource(8))
	var q bus.Queue
	var want []bus.Post
	for step := range 20000 {
		if r.Intn(2) == 0 {
			p := good(r.Intn(9))
			got, err := bus.Push(q, p)
			if len(want) == 8 {
				if errno(err) != api.ErrFull {
					t.Fatalf("step %d: Push onto 8: %v", step, err)
				}
				continue
			}
			q, want = got, append(slices.Clone(want), p)
			if err != nil {
				t.Fatalf("step %d: Push: %v", step, err)
			}
		} else {
			got, p, err := bus.Pop(q)
			if len(want) == 0 {
				if errno(err) != api.ErrNone {
					t.Fatalf("step %d: Pop of none: %v", step, err)
				}
				continue
			}
			if err != nil || p != want[0] {
				t.Fatalf("step %d: Pop: %v, %v, not %v", step, p, err, want[0])
			}
			q, want = got, want[1:]
		}
		if !slices.Equal(q.L, want) || bus.Check(q) != nil {
			t.Fatalf("step %d: %v, not %v", step, q.L, want)
		}
	}
}

// roomy are so many writes in a list with room for some more, and all of that room.
func roomy(n int) (bus.Queue, []bus.Post) {
	all := goods(20, 16)
	return bus.Queue{L: all[:n]}, all
}

// spoil overwrites a list and all room behind it.
func spoil(l []bus.Post) {
	l = l[:cap(l)]
	for i := range l {
		l[i] = bus.Post{Dev: -9, At: 9, N: -9, Value: 9}
	}
}

// TestArgumentsStay: BU2, what is handed in is not changed, its spare room neither, and shares nothing with an answer.
func TestArgumentsStay(t *testing.T) {
	for n := range 9 {
		q, all := roomy(n)
		was := slices.Clone(all)
		pushed, _ := bus.Push(q, good(1))
		popped, _, _ := bus.Pop(q)
		_ = bus.Check(q)
		if !slices.Equal(all, was) || len(q.L) != n {
			t.Errorf("of %d writes: %v has become %v", n, was, all)
		}
		spoil(pushed.L)
		spoil(popped.L)
		if !slices.Equal(all, was) {
			t.Errorf("of %d writes: an answer shares room with the argument", n)
		}
		pushed, _ = bus.Push(q, good(1))
		popped, _, _ = bus.Pop(q)
		spoil(all)
		if n < 8 && !slices.Equal(pushed.L, append(slices.Clone(was[:n]), good(1))) {
			t.Errorf("Push onto %d: the answer shares room with the argument", n)
		}
		if n > 0 && !slices.Equal(popped.L, was[1:n]) {
			t.Errorf("Pop of %d: the answer shares room with the argument", n)
		}
	}
}

// TestTwoWays: BU2, of one queue two may be made, of which neither knows of the other.
func TestTwoWays(t *testing.T) {
	for n := range 8 {
		var q bus.Queue
		for i := range n {
			next, err := bus.Push(q, good(i))
			if err != nil {
				t.Fatal(err)
			}
			q = next
		}
		a, err1 := bus.Push(q, good(30))
		b, err2 := bus.Push(q, good(40))
		if err1 != nil || err2 != nil || a.L[n] != good(30) || b.L[n] != good(40) {
			t.Errorf("two writes behind %d: %v, %v, %v, %v", n, a, b, err1, err2)
		}
		for i := range b.L {
			b.L[i] = bus.Post{}
		}
		if !slices.Equal(a.L[:n], goods(0, n)) || !slices.Equal(q.L, goods(0, n)) {
			t.Errorf("of %d writes: %v, %v", n, a, q)
		}
	}
}
