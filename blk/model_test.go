package blk_test

import (
	"bytes"
	"fmt"
	"math"
	"math/rand"
	"slices"
	"testing"

	"pinnace/api"
	"pinnace/blk"
	"pinnace/mem"
	"pinnace/ring"
	"pinnace/virtio"
)

// second is a disk after the chapter's words: memory is a list of bytes, a chain is where its bytes stand in it, one by
// one, and what waits stands by its ID in a map.
type second struct {
	bytes   []byte
	p       virtio.State
	sectors uint64
	bell    bool
	next    uint64
	order   []uint64
	wait    map[uint64]*request
}

// request is a chain, byte by byte.
type request struct {
	head          int
	read, written []int // where bytes stand
	parts         []ring.Seg
	write         bool
	sector        uint64
	n             int
}

// index is where the byte of a place stands in the list; -1: nowhere.
func (x *second) index(at uint64) int {
	if i := int64(at%(1<<32)) - base; i >= 0 && i < int64(len(x.bytes)) {
		return int(i)
	}
	return -1
}

// number is the number of n bytes at a place; false, if one of them is not there.
func (x *second) number(at uint64, n int) (uint64, bool) {
	v, factor := uint64(0), uint64(1)
	for d := range n {
		i := x.index(at + uint64(d))
		if i < 0 {
			return 0, false
		}
		v += factor * uint64(x.bytes[i])
		factor *= 256
	}
	return v, true
}

// put puts a number of n bytes at a place; false, and nothing is done, if one of them is not there.
func (x *second) put(at uint64, n int, v uint64) bool {
	if _, is := x.number(at, n); !is {
		return false
	}
	for d, b := range little(v, n) {
		x.bytes[x.index(at+uint64(d))] = b
	}
	return true
}

// fail lets P fail.
func (x *second) fail() {
	x.p.Status |= 64
	x.p.Irq |= 2
}

// take is the next head that is offered: -1, if there is none, -2, if that can't be told.
func (x *second) take() int {
	r := x.p.Q[0].R
	count, is := x.number(uint64(r.Avail)+2, 2)
	if !is {
		return -2
	}
	if count == uint64(r.Last) {
		return -1
	}
	head, is := x.number(uint64(r.Avail)+4+2*uint64(int(r.Last)%r.Size), 2)
	ahead := (count + 65536 - uint64(r.Last)) % 65536
	if !is || head >= uint64(r.Size) || ahead > uint64(r.Size) {
		return -2
	}
	return int(head)
}

// walk is a chain; nil, if it can't be walked.
func (x *second) walk(head int) *request {
	r, out := x.p.Q[0].R, &request{head: head}
	for n, steps := uint64(head), 0; ; steps++ {
		at := uint64(r.Desc) + 16*n
		place, is := x.number(at, 8)
		many, is2 := x.number(at+8, 4)
		marks, is3 := x.number(at+12, 2)
		next, is4 := x.number(at+14, 2)
		if !is || !is2 || !is3 || !is4 || n >= uint64(r.Size) || steps >= r.Size || marks > 3 || place >= 1<<32 || many > most {
			return nil
		}
		if marks < 2 && slices.ContainsFunc(out.parts, func(p ring.Seg) bool { return p.Write }) {
			return nil
		}
		for d := range many {
			i := x.index(place + d)
			if i < 0 || place+d >= 1<<32 || len(out.read)+len(out.written) >= most {
				return nil
			}
			if marks >= 2 {
				out.written = append(out.written, i)
			} else {
				out.read = append(out.read, i)
			}
		}
		out.parts = append(out.parts, ring.Seg{At: uint32(place), N: int(many), Write: marks >= 2})
		if marks%2 == 0 {
			return out
		}
		n = next
	}
}

// answer writes bytes to the last places of what a chain has to be written, and gives it back.
func (x *second) answer(q *request, b []byte) {
	r := &x.p.Q[0].R
	for d, v := range b {
		x.bytes[q.written[len(q.written)-len(b)+d]] = v
	}
	at := uint64(r.Used) + 4 + 8*uint64(int(r.Put)%max(r.Size, 1))
	may := slices.Contains([]int{1, 2, 4, 8, 16, 32, 64, 128, 256}, r.Size) && r.Desc%16 == 0 && r.Avail%2 == 0 && r.Used%4 == 0 && q.head < r.Size
	if !may || !x.put(at, 8, uint64(q.head)+uint64(len(b))<<32) || !x.put(uint64(r.Used)+2, 2, uint64(r.Put)+1) {
		x.fail()
		return
	}
	r.Put++
	x.p.Irq |= 1
}

// poll is what Poll answers.
func (x *second) poll() []blk.Ask {
	var asks []blk.Ask
	works := x.p.Status&4 != 0 && x.p.Status&8 != 0 && x.p.Status&64 == 0
	for works && x.bell && x.p.Q[0].Ready && len(x.order) < 8 {
		head := x.take()
		if head == -1 {
			x.bell = false
			break
		}
		var q *request
		if head >= 0 {
			q = x.walk(head)
		}
		if q == nil || len(q.read) < 16 || len(q.written) == 0 {
			x.fail()
			break
		}
		var h []byte
		for _, i := range q.read {
			h = append(h, x.bytes[i])
		}
		kind := uint64(h[0]) + uint64(h[1])<<8 + uint64(h[2])<<16 + uint64(h[3])<<24
		q.n, q.write = len(q.written)-1, kind == 1
		if q.write {
			q.n = len(q.read) - 16
		}
		if kind < 2 && (q.n == 0 || q.n%512 != 0 || !q.write && len(h) != 16) {
			x.fail()
			break
		}
		x.p.Q[0].R.Last++
		for d := 7; d >= 0; d-- {
			q.sector = q.sector*256 + uint64(h[8+d])
		}
		switch {
		case kind == 4:
			x.answer(q, []byte{0})
		case kind > 1:
			x.answer(q, []byte{2})
		case q.sector > 1<<32 || q.sector+uint64(q.n/512) > x.sectors:
			x.answer(q, []byte{1})
		default:
			asks = append(asks, x.enter(q, h[16:]))
		}
	}
	return asks
}

// enter lets a request wait.
func (x *second) enter(q *request, data []byte) blk.Ask {
	id := x.next
	x.order, x.wait[id] = append(x.order, id), q
	for x.wait[x.next] != nil {
		x.next = (x.next + 1) % (1 << 32)
	}
	return blk.Ask{ID: uint32(id), Write: q.write, Sector: uint32(q.sector), N: q.n, Data: data}
}

// finish is what Finish answers.
func (x *second) finish(id uint64, ok bool, data []byte) api.Errno {
	q := x.wait[id]
	if q == nil {
		return api.ErrNone
	}
	if ok && q.write && len(data) > 0 || ok && !q.write && len(data) != q.n {
		return api.ErrLong
	}
	delete(x.wait, id)
	x.order = slices.DeleteFunc(x.order, func(v uint64) bool { return v == id })
	switch {
	case !ok:
		x.answer(q, []byte{1})
	case q.write:
		x.answer(q, []byte{0})
	default:
		x.answer(q, slices.Concat(data, []byte{0}))
	}
	return 0
}

// write is what a driver writes to P's registers.
func (x *second) write(t *testing.T, at, v uint32) {
	t.Helper()
	p, n, err := virtio.Write(x.p, at, v)
	must(t, err)
	x.p, x.bell = p, x.bell || n == 0
	if p.Status == 0 {
		x.bell, x.order, x.wait = false, nil, map[uint64]*request{}
	}
}

// state is what it would be as a state.
func (x *second) state() blk.State {
	s := blk.State{P: x.p, Sectors: uint32(x.sectors), Bell: x.bell, Next: uint32(x.next)}
	for _, id := range x.order {
		q := x.wait[id]
		r := blk.Req{ID: uint32(id), Head: q.head, Write: q.write, Sector: uint32(q.sector), N: q.n}
		for _, p := range q.parts {
			if p.Write {
				r.L = append(r.L, p)
			}
		}
		s.In = append(s.In, r)
	}
	return s
}

// world is a driver by chance, the disk, and the second one, side by side.
type world struct {
	t       *testing.T
	c       *rand.Rand
	m       *mem.Ram
	s       blk.State
	x       *second
	offered uint16
	desc    int            // the next descriptor: what is offered never takes as many as there are
	heads   int            // the next head
	asked   map[uint32]int // how many bytes, by the ID, of what was asked for and not answered
	seen    map[string]int
}

// Where a world's ring stands, and how many pages of memory there are.
const (
	worldPages = 8
	worldSize  = 128
)

// newWorld is a world whose device is set up.
func newWorld(t *testing.T, c *rand.Rand, seen map[string]int) *world {
	t.Helper()
	m, err := mem.New(worldPages)
	must(t, err)
	w := &world{t: t, c: c, m: m, seen: seen, asked: map[uint32]int{}}
	w.s = blk.State{Sectors: uint32(c.Intn(20) + 1), Next: []uint32{0, 7, math.MaxUint32 - 3}[c.Intn(3)]}
	w.x = &second{bytes: make([]byte, worldPages*page), sectors: uint64(w.s.Sectors), next: uint64(w.s.Next), wait: map[uint64]*request{}}
	w.setUp()
	return w
}

// lay lays bytes at a place of memory, for both.
func (w *world) lay(at uint32, b []byte) {
	w.t.Helper()
	must(w.t, w.m.Write(at, b))
	copy(w.x.bytes[at:], b)
}

// tell writes a register, of both.
func (w *world) tell(at, v uint32) {
	w.t.Helper()
	s, err := blk.Write(w.s, at, v)
	must(w.t, err)
	w.s = s
	w.x.write(w.t, at, v)
	if w.s.P.Status == 0 {
		clear(w.asked)
	}
}

// setUp sets the device up, from the beginning on, at times with a table where there is no memory.
func (w *world) setUp() {
	w.t.Helper()
	used := uint32(base + page + 1024)
	if w.c.Intn(10) == 0 {
		used = base + worldPages*page - 64
	}
	for _, v := range [][2]uint32{{0x70, 0}, {0x70, 3}, {0x24, 1}, {0x20, 1}, {0x70, 11}, {0x38, worldSize}, {0x80, base}, {0x90, base + page}, {0xa0, used}, {0x44, 1}, {0x70, 15}} {
		w.tell(v[0], v[1])
	}
	w.offered = 0
	w.lay(page, little(0, 4))
}

// place is a place for so many bytes: mostly among the data, at times anywhere.
func (w *world) place(n int) uint64 {
	if w.c.Intn(200) == 0 {
		return uint64(base) + uint64(w.c.Intn((worldPages+1)*page)) - 64
	}
	return uint64(base + 3*page + w.c.Intn((worldPages-3)*page-n))
}

// sizes are how many bytes of a chain of a kind are read, and written; at times by one or some off.
func (w *world) sizes(kind uint32) (int, int) {
	n := 512 * (w.c.Intn(3) + 1)
	read, written := 16, n+1
	if kind == 1 {
		read, written = 16+n, w.c.Intn(40)+1
	}
	if kind > 1 {
		read, written = 16+w.c.Intn(100), w.c.Intn(600)+1
	}
	if w.c.Intn(80) == 0 {
		read = max(0, read+w.c.Intn(33)-16)
	}
	if w.c.Intn(80) == 0 {
		written = []int{0, 1, written - 1, written + 1, 512, 1024}[w.c.Intn(6)]
	}
	return read, written
}

// parts cuts so many bytes into parts, the first of which stands at a place.
func (w *world) parts(n int, at uint64, write bool) []ring.Seg {
	var out []ring.Seg
	for first := true; first || n > 0; first = false {
		part := n
		if w.c.Intn(2) == 0 {
			part = w.c.Intn(n + 1)
		}
		if first && !write { // so that the head stands in one piece
			part = min(n, max(part, 16))
		}
		if len(out) == 4 {
			part = n
		}
		out = append(out, ring.Seg{At: uint32(at), N: part, Write: write})
		n -= part
		at = w.place(n)
	}
	return out
}

// offer offers a chain.
func (w *world) offer() {
	w.t.Helper()
	kind := []uint32{0, 0, 0, 0, 1, 1, 1, 4, 4, 2, 1 << 16}[w.c.Intn(11)]
	sector := uint64(w.c.Intn(int(w.s.Sectors) + 1))
	if w.c.Intn(15) == 0 {
		sector = []uint64{uint64(w.s.Sectors) - 1, math.MaxUint32, 1 << 32, 1<<32 + 1, 1 << 63, math.MaxUint64}[w.c.Intn(6)]
	}
	read, written := w.sizes(kind)
	head := uint64(base + 2*page + 16*w.heads)
	w.heads = (w.heads + 1) % 256
	w.lay(uint32(head-base), slices.Concat(little(uint64(kind), 4), little(w.c.Uint64(), 4), little(sector, 8)))
	l := append(w.parts(read, head, false), w.parts(written, w.place(written), true)...)
	first := w.desc
	w.desc = (w.desc + len(l)) % worldSize
	for i, p := range l {
		n := (first + i) % worldSize
		marks, next := 1, (n+1)%worldSize
		if i == len(l)-1 {
			marks = 0
		}
		if p.Write {
			marks += 2
		}
		if w.c.Intn(300) == 0 {
			marks = 1 << w.c.Intn(16)
		}
		if w.c.Intn(300) == 0 {
			next = w.c.Intn(worldSize + 10)
		}
		w.lay(uint32(16*n), slices.Concat(little(uint64(p.At), 8), little(uint64(p.N), 4), little(uint64(marks), 2), little(uint64(next), 2)))
	}
	if w.c.Intn(200) == 0 {
		first = worldSize
	}
	w.lay(page+4+2*uint32(w.offered%worldSize), little(uint64(first), 2))
	w.offered++
	if w.c.Intn(200) == 0 {
		w.offered += uint16(w.c.Intn(160))
	}
	w.lay(page+2, little(uint64(w.offered), 2))
}

// poll polls both, and looks at what BK5 says.
func (w *world) poll() {
	w.t.Helper()
	s, asks := blk.Poll(w.s, w.m)
	if want := w.x.poll(); !sameAsks(asks, want) {
		w.t.Fatalf("Poll of %+v: %s, not %s", w.s, brief(asks), brief(want))
	}
	for _, a := range asks {
		if _, is := w.asked[a.ID]; is {
			w.t.Fatalf("the ID %d is asked for twice", a.ID)
		}
		if a.N <= 0 || a.N%512 != 0 || uint64(a.Sector)+uint64(a.N/512) > uint64(s.Sectors) || a.Write && len(a.Data) != a.N || !a.Write && len(a.Data) > 0 {
			w.t.Fatalf("not within the disk: %s", brief([]blk.Ask{a}))
		}
		w.asked[a.ID] = a.N
		w.seen[fmt.Sprint("asked, Write ", a.Write)]++
	}
	if s.P.Q[0].R.Put != w.s.P.Q[0].R.Put {
		w.seen["answered at once"]++
	}
	w.s = s
}

// finish lets the disk answer: mostly what waits, mostly right.
func (w *world) finish() {
	w.t.Helper()
	id, ok := w.c.Uint32(), w.c.Intn(4) > 0
	if len(w.s.In) > 0 && w.c.Intn(8) > 0 {
		id = w.s.In[w.c.Intn(len(w.s.In))].ID
	}
	n := w.asked[id]
	if i := slices.IndexFunc(w.s.In, func(r blk.Req) bool { return r.ID == id }); i >= 0 && w.s.In[i].Write {
		n = 0
	}
	if w.c.Intn(8) == 0 {
		n = max(0, n+w.c.Intn(3)-1)
	}
	data := make([]byte, n)
	w.c.Read(data)
	s, err := blk.Finish(w.s, w.m, id, ok, data)
	if want := w.x.finish(uint64(id), ok, data); errno(err) != want {
		w.t.Fatalf("Finish of %d, %v, %d bytes of %+v: %v, not %d", id, ok, n, w.s, err, want)
	}
	if err != nil {
		w.seen[fmt.Sprint("error ", int(errno(err)))]++
		return
	}
	if _, is := w.asked[id]; !is {
		w.t.Fatalf("%d is answered, and does not wait", id)
	}
	delete(w.asked, id)
	w.s = s
	w.seen[fmt.Sprint("finished, ok ", ok)]++
}

// step lets something be done.
func (w *world) step() {
	w.t.Helper()
	switch n := w.c.Intn(100); {
	case n < 35:
		for range w.c.Intn(6) + 1 {
			if w.offered-w.s.P.Q[0].R.Last < 10 {
				w.offer()
			}
		}
		w.tell(0x50, 0)
	case n < 60:
		w.poll()
	case n < 92:
		w.finish()
	case n < 94:
		w.tell([]uint32{0x50, 0x64, 0x30, 0x44}[w.c.Intn(4)], uint32(w.c.Intn(4)))
	case n < 96:
		w.lay(uint32(w.c.Intn(worldPages*page)), []byte{byte(w.c.Intn(256))})
	default:
		if !virtio.Live(w.s.P) || !w.s.P.Q[0].Ready || w.c.Intn(10) == 0 {
			w.setUp()
		}
	}
}

// same fails the test, if both are not the same, or the state can't be.
func (w *world) same() {
	w.t.Helper()
	if want := w.x.state(); told(w.s) != told(want) {
		w.t.Fatalf("%+v, not %+v", w.s, want)
	}
	if err := blk.Check(w.s, worldPages); err != nil || len(w.s.In) != len(w.asked) {
		w.t.Fatalf("%v: %+v, of which %d were asked for", err, w.s, len(w.asked))
	}
	b, err := w.m.Read(0, worldPages*page)
	must(w.t, err)
	if !bytes.Equal(b, w.x.bytes) {
		w.t.Fatalf("memory is not the same behind %+v", w.s)
	}
	if len(w.s.In) == 8 {
		w.seen["eight wait"]++
	}
	if w.s.P.Status&64 != 0 {
		w.seen["failed"]++
	}
}

// BK5, and BK1 to BK4: whatever a driver lays into memory, and whatever the disk answers, is as the second one has it;
// each request is asked for, and answered, once at most, no more than 8 wait, and what is asked for lies within the disk.
func TestModel(t *testing.T) {
	seen := map[string]int{}
	for seed := range int64(150) {
		w := newWorld(t, rand.New(rand.NewSource(seed)), seen)
		for range 200 {
			w.step()
			w.same()
		}
	}
	for _, name := range []string{"asked, Write true", "asked, Write false", "answered at once", "finished, ok true", "finished, ok false", "error 8", "error 2", "eight wait", "failed"} {
		if seen[name] < 200 {
			t.Errorf("%s: seen %d times: too few", name, seen[name])
		}
	}
}

// anyBytes is memory by chance for a ring, of which most is what a driver would lay, all over one another.
func anyBytes(t *testing.T, c *rand.Rand, r ring.Ring) *mem.Ram {
	t.Helper()
	m, err := mem.New(2)
	must(t, err)
	lay := func(at uint32, b []byte) {
		if err := m.Write(at-base, b); err != nil && errno(err) != api.ErrRange {
			t.Fatal(err)
		}
	}
	b := make([]byte, 2*page)
	for i := range b {
		b[i] = byte(c.Intn(1<<c.Intn(9)) >> 4)
	}
	lay(base, b)
	for n := range r.Size {
		many, marks, at := 16, 1, uint32(base+c.Intn(2*page-1025))
		if n%2 == 1 {
			many, marks = []int{513, 513, 1025, 1}[c.Intn(4)], 2
		} else {
			lay(at, slices.Concat(little([]uint64{0, 0, 0, 4, 9}[c.Intn(5)], 8), little(uint64(c.Intn(4)), 8)))
		}
		lay(r.Desc+uint32(16*n), slices.Concat(little(uint64(at), 8), little(uint64(many), 4), little(uint64(marks), 2), little(uint64(n+1), 2)))
		lay(r.Avail+4+uint32(2*n), little(uint64(c.Intn(r.Size)&^1), 2))
	}
	lay(r.Avail+2, little(uint64(int(r.Last)+c.Intn(r.Size)+1), 2))
	return m
}

// BK5: whatever bytes stand in memory, whatever of it stands over the ring, and whatever is answered: all ends, each time
// with a state that may be; 8 wait at most, and what the disk is asked for lies within it.
func TestAnyBytes(t *testing.T) {
	c := rand.New(rand.NewSource(45))
	taken, asked := 0, 0
	for range 3000 {
		r := ring.Ring{Size: 1 << c.Intn(9), Desc: uint32(base + 16*c.Intn(512)), Avail: uint32(base + 4*c.Intn(2048)), Used: uint32(base + 4*c.Intn(2048)), Last: uint16(c.Intn(4)), Put: uint16(c.Intn(4))}
		if c.Intn(10) == 0 {
			r.Used = r.Avail
		}
		m := anyBytes(t, c, r)
		s := blk.State{P: live(), Sectors: c.Uint32() >> c.Intn(32), Bell: true, Next: c.Uint32()}
		s.P.Q[0].R = r
		for range 4 {
			was := s
			var asks []blk.Ask
			s, asks = blk.Poll(s, m)
			if blk.Check(s, 2) != nil || len(s.In) != len(was.In)+len(asks) {
				t.Fatalf("%+v: %+v, %s", was, s, brief(asks))
			}
			for i, q := range s.In[len(was.In):] {
				a := asks[i]
				if a.ID != q.ID || a.Write != q.Write || a.Sector != q.Sector || a.N != q.N || uint64(a.Sector)+uint64(a.N/512) > uint64(s.Sectors) {
					t.Fatalf("%s, not %+v", brief(asks[i:i+1]), q)
				}
			}
			if s.P.Q[0].R.Last != was.P.Q[0].R.Last {
				taken++
			}
			asked += len(asks)
			for _, q := range slices.Clone(s.In) {
				if c.Intn(2) == 0 {
					var err error
					s, err = blk.Finish(s, m, q.ID, false, nil)
					if err != nil || blk.Check(s, 2) != nil {
						t.Fatalf("Finish of %+v: %v, %+v", q, err, s)
					}
				}
			}
		}
	}
	if taken < 1000 || asked < 500 {
		t.Errorf("%d polls took a chain, %d were asked for: too few", taken, asked)
	}
}
