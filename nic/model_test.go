package nic_test

import (
	"bytes"
	"math"
	"math/rand"
	"slices"
	"testing"

	"pinnace/api"
	"pinnace/mem"
	"pinnace/nic"
	"pinnace/ring"
	"pinnace/virtio"
)

// second is a net device after the chapter's words: memory is a list of bytes, and a chain is where its bytes stand in it,
// one by one.
type second struct {
	bytes []byte
	p     virtio.State
	bell  bool
	lost  uint64
}

// index is where the byte of a place stands in the list; -1: nowhere.
func (x *second) index(at uint64) int {
	if i := int64(at%(1<<32)) - base; i >= 0 && i < int64(len(x.bytes)) {
		return int(i)
	}
	return -1
}

// number is the number of n bytes at a place; false, if one of them is not there.
func (x *second) number(at uint64, n int) (uint64, bool) {
	v, factor := uint64(0), uint64(1)
	for d := range n {
		i := x.index(at + uint64(d))
		if i < 0 {
			return 0, false
		}
		v += factor * uint64(x.bytes[i])
		factor *= 256
	}
	return v, true
}

// put lays the number of n bytes at a place; false, if one of them is not there.
func (x *second) put(at uint64, n int, v uint64) bool {
	if _, is := x.number(at, n); !is {
		return false
	}
	for d := range n {
		x.bytes[x.index(at+uint64(d))] = byte(v)
		v /= 256
	}
	return true
}

// fail is what a P that fails becomes.
func (x *second) fail() {
	x.p.Status |= 64
	x.p.Irq |= 2
}

// looks tells whether a queue is looked at.
func (x *second) looks(queue int) bool {
	return x.p.Status&4 != 0 && x.p.Status&8 != 0 && x.p.Status&64 == 0 && x.p.Q[queue].Ready
}

// mayBe tells whether a ring may be.
func mayBe(r ring.Ring) bool {
	return slices.Contains([]int{1, 2, 4, 8, 16, 32, 64, 128, 256}, r.Size) && r.Desc%16 == 0 && r.Avail%2 == 0 && r.Used%4 == 0
}

// offered is a queue's next chain: its head, and where the bytes stand that are read, and written; a head of -1: there is
// none; false: it can't be walked. The ring is as it was.
func (x *second) offered(queue int) (head int, read, written []int, is bool) {
	r := x.p.Q[queue].R
	if !mayBe(r) {
		return 0, nil, nil, false
	}
	count, is := x.number(uint64(r.Avail)+2, 2)
	if !is {
		return 0, nil, nil, false
	}
	if count == uint64(r.Last) {
		return -1, nil, nil, true
	}
	n, is := x.number(uint64(r.Avail)+4+2*uint64(int(r.Last)%r.Size), 2)
	if !is || (count+1<<16-uint64(r.Last))%(1<<16) > uint64(r.Size) {
		return 0, nil, nil, false
	}
	head = int(n)
	wrote := false
	for steps := 0; ; steps++ {
		at := uint64(r.Desc) + 16*n
		place, is := x.number(at, 8)
		many, is2 := x.number(at+8, 4)
		marks, is3 := x.number(at+12, 2)
		next, is4 := x.number(at+14, 2)
		if n >= uint64(r.Size) || steps >= r.Size || !is || !is2 || !is3 || !is4 || marks > 3 || place >= 1<<32 || many > 1<<20 || wrote && marks < 2 {
			return 0, nil, nil, false
		}
		wrote = marks >= 2
		for d := range many {
			i := x.index(place + d)
			if i < 0 || place+d >= 1<<32 || len(read)+len(written) >= 1<<20 {
				return 0, nil, nil, false
			}
			if wrote {
				written = append(written, i)
			} else {
				read = append(read, i)
			}
		}
		if marks%2 == 0 {
			return head, read, written, true
		}
		n = next
	}
}

// give gives a queue's chain back; false, if P fails by that.
func (x *second) give(queue, head, n int) bool {
	r := &x.p.Q[queue].R
	at := uint64(r.Used) + 4 + 8*uint64(int(r.Put)%r.Size)
	if !x.put(at, 8, uint64(head)+uint64(n)<<32) || !x.put(uint64(r.Used)+2, 2, uint64(r.Put)+1) {
		x.fail()
		return false
	}
	r.Put++
	x.p.Irq |= 1
	return true
}

// send is what Send answers.
func (x *second) send() [][]byte {
	var out [][]byte
	for len(out) < 4 && x.bell && x.looks(1) {
		head, read, _, is := x.offered(1)
		if head == -1 {
			x.bell = false
			break
		}
		if !is || len(read) < 13 || len(read) > 1526 {
			x.fail()
			break
		}
		x.p.Q[1].R.Last++
		var frame []byte
		for _, i := range read[12:] {
			frame = append(frame, x.bytes[i])
		}
		out = append(out, frame)
		x.give(1, head, 0) // of a P that failed none is looked at
	}
	return out
}

// take is what Take answers.
func (x *second) take(frame []byte) (bool, api.Errno) {
	if len(frame) == 0 || len(frame) > 1514 {
		return false, api.ErrLong
	}
	head, is := -1, true
	var written []int
	if x.looks(0) {
		head, _, written, is = x.offered(0)
	}
	if !is {
		x.fail()
	}
	if !is || head == -1 {
		x.lost = (x.lost + 1) % (1 << 32)
		return false, 0
	}
	x.p.Q[0].R.Last++
	if len(written) < len(frame)+12 {
		x.give(0, head, 0)
		x.lost = (x.lost + 1) % (1 << 32)
		return false, 0
	}
	for d, v := range slices.Concat(make([]byte, 10), []byte{1, 0}, frame) {
		x.bytes[written[d]] = v
	}
	x.give(0, head, len(frame)+12)
	return true, 0
}

// write is what a driver writes to P's registers.
func (x *second) write(t *testing.T, at, v uint32) {
	t.Helper()
	p, n, err := virtio.Write(x.p, at, v)
	must(t, err)
	x.p, x.bell = p, x.bell || n == 1
	if p.Status == 0 {
		x.bell, x.lost = false, 0
	}
}

// state is what it would be as a state.
func (x *second) state() nic.State {
	return nic.State{P: x.p, Bell: x.bell, Lost: uint32(x.lost)}
}

// world is a driver by chance, and frames that come, of a device and the second one, side by side.
type world struct {
	t       *testing.T
	c       *rand.Rand
	m       *mem.Ram
	s       nic.State
	x       *second
	size    [2]int
	offered [2]uint16
	desc    [2]int // the next descriptor
	seen    map[string]int
}

// worldPages is how many pages of memory a world has: two of tables, and data behind them.
const worldPages = 6

// newWorld is a world whose device is set up.
func newWorld(t *testing.T, c *rand.Rand, seen map[string]int) *world {
	t.Helper()
	m, err := mem.New(worldPages)
	must(t, err)
	w := &world{t: t, c: c, m: m, seen: seen, size: [2]int{16 << c.Intn(4), 16 << c.Intn(4)}}
	w.s.Lost = []uint32{0, 7, math.MaxUint32 - 3}[c.Intn(3)]
	w.x = &second{bytes: make([]byte, worldPages*page), lost: uint64(w.s.Lost)}
	b := make([]byte, worldPages*page)
	c.Read(b)
	w.lay(0, b)
	w.setUp()
	return w
}

// lay lays bytes at a place of memory, for both.
func (w *world) lay(at uint32, b []byte) {
	w.t.Helper()
	must(w.t, w.m.Write(at, b))
	copy(w.x.bytes[at:], b)
}

// tell writes a register, of both.
func (w *world) tell(at, v uint32) {
	w.t.Helper()
	s, err := nic.Write(w.s, at, v)
	must(w.t, err)
	w.s = s
	w.x.write(w.t, at, v)
}

// table is where a queue's descriptors stand in memory; the other tables stand a page behind.
func table(queue int) uint32 {
	return uint32(2048 * queue)
}

// setUp sets the device up, from the beginning on, at times with a table where there is no memory.
func (w *world) setUp() {
	w.t.Helper()
	for _, v := range [][2]uint32{{0x70, 3}, {0x24, 1}, {0x20, 1}, {0x70, 11}} {
		w.tell(v[0], v[1])
	}
	for queue := range uint32(2) {
		at := base + table(int(queue))
		used := at + page + 512
		if w.c.Intn(10) == 0 {
			used = base + worldPages*page - 64
		}
		for _, v := range [][2]uint32{{0x30, queue}, {0x38, uint32(w.size[queue])}, {0x80, at}, {0x90, at + page}, {0xa0, used}, {0x44, 1}} {
			w.tell(v[0], v[1])
		}
		w.offered[queue] = 0
		w.lay(table(int(queue))+page, little(0, 4))
	}
	w.tell(0x70, 15)
}

// place is a place for so many bytes: mostly among the data, at times anywhere.
func (w *world) place(n int) uint64 {
	if w.c.Intn(150) == 0 {
		return uint64(base) + uint64(w.c.Intn((worldPages+1)*page)) - 64
	}
	return uint64(base + 2*page + w.c.Intn((worldPages-2)*page-n))
}

// parts cuts so many bytes into parts.
func (w *world) parts(n int, write bool) []ring.Seg {
	var out []ring.Seg
	for first := true; first || n > 0; first = false {
		part := n
		if w.c.Intn(2) == 0 && len(out) < 3 {
			part = w.c.Intn(n + 1)
		}
		out = append(out, ring.Seg{At: uint32(w.place(n)), N: part, Write: write})
		n -= part
	}
	return out
}

// length is how many bytes a frame has: mostly one that may be, often at an edge.
func (w *world) length() int {
	switch w.c.Intn(8) {
	case 0:
		return []int{1, 2, 1513, 1514}[w.c.Intn(4)]
	case 1:
		return w.c.Intn(1514) + 1
	}
	return w.c.Intn(80) + 1
}

// chain is a chain that a driver may offer in a queue.
func (w *world) chain(queue int) []ring.Seg {
	n := w.length() + 12
	if w.c.Intn(60) == 0 {
		n = []int{0, 11, 12, 1526, 1527, 4000}[w.c.Intn(6)]
	}
	if queue == 1 {
		l := w.parts(n, false)
		if w.c.Intn(3) == 0 {
			l = append(l, w.parts(w.c.Intn(50), true)...)
		}
		return l
	}
	if w.c.Intn(2) == 0 {
		n = 1526
	}
	l := w.parts(n, true)
	if w.c.Intn(3) == 0 {
		l = append(w.parts(w.c.Intn(50), false), l...)
	}
	return l
}

// offer offers a chain in a queue.
func (w *world) offer(queue int) {
	w.t.Helper()
	l, size := w.chain(queue), w.size[queue]
	first := w.desc[queue]
	w.desc[queue] = (first + len(l)) % size
	for i, p := range l {
		n := (first + i) % size
		marks, next := 1, (n+1)%size
		if i == len(l)-1 {
			marks = 0
		}
		if p.Write {
			marks += 2
		}
		if w.c.Intn(250) == 0 {
			marks = 1 << w.c.Intn(16)
		}
		if w.c.Intn(250) == 0 {
			next = w.c.Intn(size + 10)
		}
		w.lay(table(queue)+uint32(16*n), slices.Concat(little(uint64(p.At), 8), little(uint64(p.N), 4), little(uint64(marks), 2), little(uint64(next), 2)))
	}
	if w.c.Intn(200) == 0 {
		first = size
	}
	w.lay(table(queue)+page+4+2*uint32(int(w.offered[queue])%size), little(uint64(first), 2))
	w.offered[queue]++
	if w.c.Intn(200) == 0 {
		w.offered[queue] += uint16(w.c.Intn(2 * size))
	}
	w.lay(table(queue)+page+2, little(uint64(w.offered[queue]), 2))
}

// send lets frames go out of both.
func (w *world) send() {
	w.t.Helper()
	s, l := nic.Send(w.s, w.m)
	if want := w.x.send(); !slices.EqualFunc(l, want, bytes.Equal) {
		w.t.Fatalf("Send of %+v: %s, not %s", w.s, brief(l), brief(want))
	}
	if w.s.Bell && !s.Bell {
		w.seen["the bell is silent"]++
	}
	if len(l) == 4 {
		w.seen["four went out"]++
	}
	w.seen["went out"] += len(l)
	w.s = s
}

// take lets a frame come to both.
func (w *world) take() {
	w.t.Helper()
	n := w.length()
	if w.c.Intn(40) == 0 {
		n = []int{0, 1515, 3000}[w.c.Intn(3)]
	}
	frame := make([]byte, n)
	w.c.Read(frame)
	want, wantErr := w.x.take(frame)
	s, is, err := nic.Take(w.s, w.m, frame)
	if is != want || errno(err) != wantErr {
		w.t.Fatalf("Take of %d bytes by %+v: %v, %v, not %v, %d", n, w.s, is, err, want, wantErr)
	}
	if err != nil {
		w.seen["no frame"]++
		if s != (nic.State{}) {
			w.t.Fatalf("beside an error: %+v", s)
		}
		return
	}
	if is {
		w.seen["came"]++
	} else if s.P.Q[0].R.Last != w.s.P.Q[0].R.Last {
		w.seen["no room"]++
	} else {
		w.seen["no chain"]++
	}
	w.s = s
}

// step lets something be done.
func (w *world) step() {
	w.t.Helper()
	switch n := w.c.Intn(100); {
	case n < 40:
		queue := w.c.Intn(2)
		for range w.c.Intn(6) + 1 {
			if w.offered[queue]-w.s.P.Q[queue].R.Last < 6 {
				w.offer(queue)
			}
		}
		w.tell(0x50, uint32(queue))
	case n < 65:
		w.send()
	case n < 90:
		w.take()
	case n < 93:
		w.tell([]uint32{0x50, 0x64, 0x30, 0x44}[w.c.Intn(4)], uint32(w.c.Intn(4)))
	case n < 95:
		w.lay(uint32(w.c.Intn(worldPages*page)), []byte{byte(w.c.Intn(256))})
	default:
		if !virtio.Live(w.s.P) || !w.s.P.Q[0].Ready || !w.s.P.Q[1].Ready || w.c.Intn(10) == 0 {
			w.tell(0x70, 0)
			w.setUp()
		}
	}
}

// same fails the test, if both are not the same, or the state can't be.
func (w *world) same() {
	w.t.Helper()
	if want := w.x.state(); w.s != want {
		w.t.Fatalf("%+v, not %+v", w.s, want)
	}
	checks(w.t, "a state of the world", w.s, true)
	b, err := w.m.Read(0, worldPages*page)
	must(w.t, err)
	if !bytes.Equal(b, w.x.bytes) {
		w.t.Fatalf("memory is not the same behind %+v", w.s)
	}
	if w.s.P.Status&64 != 0 {
		w.seen["failed"]++
	}
}

// NC1 to NC4: whatever a driver lays into memory, and whatever comes, is as the second one has it.
func TestModel(t *testing.T) {
	seen := map[string]int{}
	for seed := range int64(150) {
		w := newWorld(t, rand.New(rand.NewSource(seed)), seen)
		for range 200 {
			w.step()
			w.same()
		}
	}
	for _, name := range []string{"went out", "four went out", "the bell is silent", "came", "no room", "no chain", "no frame", "failed"} {
		if seen[name] < 100 {
			t.Errorf("%s: seen %d times: too few", name, seen[name])
		}
	}
}

// anyBytes is memory by chance, of which most is what a driver would lay for two rings, all over one another.
func anyBytes(t *testing.T, c *rand.Rand, q [2]ring.Ring) *mem.Ram {
	t.Helper()
	m, err := mem.New(2)
	must(t, err)
	lay := func(at uint32, b []byte) {
		if err := m.Write(at-base, b); err != nil && errno(err) != api.ErrRange {
			t.Fatal(err)
		}
	}
	b := make([]byte, 2*page)
	for i := range b {
		b[i] = byte(c.Intn(1<<c.Intn(9)) >> 4)
	}
	lay(base, b)
	for queue, r := range q {
		for n := range r.Size {
			at, marks := uint32(base+c.Intn(2*page-100)), []int{0, 0, 1}[c.Intn(3)]
			if queue == 0 {
				marks |= 2
			}
			lay(r.Desc+uint32(16*n), slices.Concat(little(uint64(at), 8), little(uint64(c.Intn(100)+1), 4), little(uint64(marks), 2), little(uint64(n+1), 2)))
			lay(r.Avail+4+uint32(2*n), little(uint64(c.Intn(r.Size)), 2))
		}
		lay(r.Avail+2, little(uint64(int(r.Last)+c.Intn(r.Size)+1), 2))
	}
	return m
}

// Whatever bytes stand in memory, and whatever of it stands over the rings: all ends, as the second one has it, each time
// with a state that may be; four frames go out at most, of which each is one.
func TestAnyBytes(t *testing.T) {
	c := rand.New(rand.NewSource(51))
	out, in := 0, 0
	for range 3000 {
		var q [2]ring.Ring
		for i := range q {
			q[i] = ring.Ring{Size: 1 << c.Intn(7), Desc: uint32(base + 16*c.Intn(512)), Avail: uint32(base + 4*c.Intn(2048)), Used: uint32(base + 4*c.Intn(2048)), Last: uint16(c.Intn(4)), Put: uint16(c.Intn(4))}
			if c.Intn(10) == 0 {
				q[i].Used = q[i].Avail
			}
		}
		m := anyBytes(t, c, q)
		s := nic.State{P: live(), Bell: true, Lost: c.Uint32()}
		s.P.Q[0].R, s.P.Q[1].R = q[0], q[1]
		b, err := m.Read(0, 2*page)
		must(t, err)
		x := &second{bytes: b, p: s.P, bell: true, lost: uint64(s.Lost)}
		for range 4 {
			f := frame(c.Intn(90) + 1)
			next, is, err := nic.Take(s, m, f)
			if want, _ := x.take(f); is != want || err != nil {
				t.Fatalf("Take by %+v: %v, %v, not %v", s, is, err, want)
			}
			if is {
				in++
			}
			var l [][]byte
			next, l = nic.Send(next, m)
			if want := x.send(); !slices.EqualFunc(l, want, bytes.Equal) || len(l) > 4 {
				t.Fatalf("Send of %+v: %s, not %s", s, brief(l), brief(want))
			}
			for _, b := range l {
				if len(b) < 1 || len(b) > 1514 {
					t.Fatalf("no frame: %s", brief(l))
				}
			}
			out += len(l)
			got, err := m.Read(0, 2*page)
			must(t, err)
			if next != x.state() || !bytes.Equal(got, x.bytes) {
				t.Fatalf("%+v became %+v, not %+v", s, next, x.state())
			}
			s = next
			checks(t, "of any bytes", s, true)
		}
	}
	if out < 1000 || in < 500 {
		t.Errorf("%d frames went out, %d came: too few", out, in)
	}
}
