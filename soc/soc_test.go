package soc_test

import (
	"bytes"
	"errors"
	"fmt"
	"math"
	"reflect"
	"slices"
	"testing"

	"pinnace/api"
	"pinnace/asm"
	"pinnace/blk"
	"pinnace/bus"
	"pinnace/clint"
	"pinnace/csr"
	"pinnace/dma"
	"pinnace/hart"
	"pinnace/mem"
	"pinnace/nic"
	"pinnace/plic"
	"pinnace/ring"
	"pinnace/soc"
	"pinnace/uart"
	"pinnace/virtio"
)

// base is memory's first place on the bus, page how many bytes a page has, by hand.
const (
	base = 0x80000000
	page = 4096
)

// never is a time that does not come.
const never = 1 << 40

// laid is how most machines of the tests are laid.
var laid = soc.Config{Pages: 4, Sectors: 100}

// errno is the number that errors.As finds in an error; 0 of nil, -1 of another error.
func errno(err error) api.Errno {
	if err == nil {
		return 0
	}
	var e api.Errno
	if errors.As(err, &e) {
		return e
	}
	return -1
}

// must fails the test at an error.
func must(t *testing.T, err error) {
	t.Helper()
	if err != nil {
		t.Fatal(err)
	}
}

// refused fails the test, if an error is not one of a number.
func refused(t *testing.T, what string, err error, want api.Errno) {
	t.Helper()
	if errno(err) != want {
		t.Errorf("%s: %v, not %d", what, err, want)
	}
}

// words are a program's words.
func words(t *testing.T, text string) []uint32 {
	t.Helper()
	l, at, err := asm.Program(text)
	if err != nil {
		t.Fatalf("line %d of %q: %v", at, text, err)
	}
	return l
}

// little are the lowest n bytes of a number, the lowest one first.
func little(v uint64, n int) []byte {
	var b []byte
	for range n {
		b = append(b, byte(v))
		v /= 256
	}
	return b
}

// code are a program's bytes.
func code(t *testing.T, text string) []byte {
	t.Helper()
	var b []byte
	for _, w := range words(t, text) {
		b = append(b, little(uint64(w), 4)...)
	}
	return b
}

// ram is memory of so many pages.
func ram(t *testing.T, pages int) *mem.Ram {
	t.Helper()
	m, err := mem.New(pages)
	must(t, err)
	return m
}

// all are memory's bytes.
func all(t *testing.T, m *mem.Ram) []byte {
	t.Helper()
	b, err := m.Read(0, m.Pages()*page)
	must(t, err)
	return b
}

// told is a state as a text; lists that are nil and empty ones are told alike.
func told(s soc.State) string { return fmt.Sprintf("%+v", s) }

// outs are what went out, as a text.
func outs(l []soc.Out) string { return fmt.Sprintf("%+v", l) }

// isState fails the test, if a machine's state is not as it must be; it tells the parts that are not.
func isState(t *testing.T, what string, x *soc.Machine, want soc.State) {
	t.Helper()
	got := x.State()
	if told(got) == told(want) {
		return
	}
	a, b := reflect.ValueOf(got), reflect.ValueOf(want)
	for i := range a.NumField() {
		if is, ought := fmt.Sprintf("%+v", a.Field(i)), fmt.Sprintf("%+v", b.Field(i)); is != ought {
			t.Errorf("%s: %s is %s, not %s", what, a.Type().Field(i).Name, is, ought)
		}
	}
}

// atFirst is what all is at first.
func atFirst(c soc.Config) soc.State {
	return soc.State{H: hart.State{Pc: base}, B: blk.State{Sectors: c.Sectors}}
}

// live is a setting that is Live, of which both queues are Ready, with their tables in a page.
func live(n uint32) virtio.State {
	at := base + n*page
	s := virtio.State{Status: 15, Drv: [2]uint32{0, 1}}
	s.Q[0] = virtio.Queue{Ready: true, R: ring.Ring{Size: 16, Desc: at, Avail: at + 0x200, Used: at + 0x400}}
	s.Q[1] = virtio.Queue{Ready: true, R: ring.Ring{Size: 16, Desc: at + 0x800, Avail: at + 0xa00, Used: at + 0xc00}}
	return s
}

// request is one that may wait for the disk.
func request(id uint32) blk.Req {
	return blk.Req{ID: id, Head: 3, Sector: 7, N: 512, L: []ring.Seg{{At: base + 3*page, N: 513, Write: true}}}
}

// busy is a state in which no part is as at first.
func busy() soc.State {
	s := soc.State{Ticks: 1 << 50}
	s.H = hart.State{Pc: base + 8, Wait: true, C: csr.State{Status: 8, Enable: 0x80, Vector: base + 0x101, Scratch: 1, Epc: 4, Cause: 2, Value: 3, Count: 9}}
	for i := 1; i < 32; i++ {
		s.H.X[i] = uint32(i) * 1000
	}
	s.Q = bus.Queue{L: []bus.Post{{Dev: bus.Dma, At: 8, N: 4, Value: 77}, {Dev: bus.Uart, At: 7, N: 1, Value: 5}}}
	s.C = clint.State{Soft: 1, Time: 6, Cmp: never}
	s.P = plic.State{Priority: [8]uint32{0, 1, 2, 3, 4, 5, 6, 7}, Enable: 6, Threshold: 1, Pending: 8, Busy: 16}
	s.U = uart.State{Rx: uart.Fifo{B: [16]byte{1, 2}, N: 2}, Tx: uart.Fifo{B: [16]byte{3}, N: 1}, Ier: 1, Lcr: 3, Mcr: 4, Scr: 5, Dll: 6, Dlm: 7, Over: true, Wait: 2}
	s.D = dma.State{Code: dma.Busy, Head: base, At: base + 16, Steps: 2, Moved: 9, Have: true, From: base, To: base + 64, Left: 100, Next: 4}
	s.B = blk.State{P: live(1), Sectors: laid.Sectors, Bell: true, Next: 9, In: []blk.Req{request(4), request(2)}}
	s.N = nic.State{P: live(2), Bell: true, Lost: 3}
	return s
}

// isNone fails the test, if there is a machine, or the error is not ErrArg.
func isNone(t *testing.T, what string, x *soc.Machine, err error) {
	t.Helper()
	if x != nil || errno(err) != api.ErrArg {
		t.Errorf("%s: %v, %v, not nil and 1", what, x, err)
	}
}

// SO1: which configs may be.
func TestConfigs(t *testing.T) {
	for _, e := range []struct {
		c   soc.Config
		may bool
	}{
		{soc.Config{}, false}, {soc.Config{Pages: -1}, false}, {soc.Config{Pages: math.MinInt}, false}, {soc.Config{Pages: 0, Sectors: 5}, false},
		{soc.Config{Pages: 1}, true}, {soc.Config{Pages: 2, Sectors: 1}, true}, {soc.Config{Pages: api.MaxPages}, true},
		{soc.Config{Pages: api.MaxPages + 1}, false}, {soc.Config{Pages: math.MaxInt}, false}, {soc.Config{Pages: 1<<32 + 1}, false},
		{soc.Config{Pages: 1, Sectors: 1 << 20}, true}, {soc.Config{Pages: 1, Sectors: 1<<20 + 1}, false},
		{soc.Config{Pages: 1, Sectors: math.MaxUint32}, false}, {soc.Config{Pages: api.MaxPages, Sectors: 1 << 20}, true},
	} {
		pages := e.c.Pages
		if pages < 1 || pages > api.MaxPages {
			pages = 1
		}
		x, err := soc.New(e.c, nil)
		y, err2 := soc.Load(e.c, atFirst(e.c), ram(t, pages))
		err3 := soc.Check(e.c, atFirst(e.c))
		if !e.may {
			isNone(t, fmt.Sprintf("New of %+v", e.c), x, err)
			isNone(t, fmt.Sprintf("Load of %+v", e.c), y, err2)
			refused(t, fmt.Sprintf("Check of %+v", e.c), err3, api.ErrArg)
			continue
		}
		if err != nil || err2 != nil || err3 != nil {
			t.Errorf("%+v: New %v, Load %v, Check %v", e.c, err, err2, err3)
			continue
		}
		for _, z := range []*soc.Machine{x, y} {
			isState(t, fmt.Sprintf("of %+v", e.c), z, atFirst(e.c))
			if z.Config() != e.c || z.Mem().Pages() != e.c.Pages {
				t.Errorf("%+v, %d pages, not %+v", z.Config(), z.Mem().Pages(), e.c)
			}
		}
	}
}

// SO1: what code may be, and where it lies.
func TestCode(t *testing.T) {
	row := func(n int) []uint32 {
		l := make([]uint32, n)
		for i := range l {
			l[i] = 0x04030201 + uint32(i)*0x01010101
		}
		return l
	}
	for _, e := range []struct {
		pages, words int
		may          bool
	}{
		{1, 0, true}, {1, 1, true}, {1, 1023, true}, {1, 1024, true}, {1, 1025, false}, {2, 1025, true}, {2, 2048, true}, {2, 2049, false},
		{api.MaxPages, api.MaxPages * 1024, true}, {api.MaxPages, api.MaxPages*1024 + 1, false},
	} {
		what := fmt.Sprintf("%d words in %d pages", e.words, e.pages)
		l := row(e.words)
		x, err := soc.New(soc.Config{Pages: e.pages}, l)
		if !e.may {
			isNone(t, what, x, err)
			continue
		}
		must(t, err)
		isState(t, what, x, atFirst(soc.Config{Pages: e.pages}))
		if d := x.Mem().Dirty(); len(d) != 0 {
			t.Errorf("%s: dirty are %v", what, d)
		}
		want := make([]byte, e.pages*page)
		for i, w := range l {
			copy(want[4*i:], []byte{byte(w), byte(w >> 8), byte(w >> 16), byte(w >> 24)})
		}
		if !bytes.Equal(all(t, x.Mem()), want) {
			t.Errorf("%s: they are not in memory", what)
		}
	}
}

// SO1: the hart begins with the code's first word; the list that was handed in is nobody's.
func TestNewBegins(t *testing.T) {
	l := words(t, "addi x1, x0, 7\naddi x2, x1, 1")
	x, err := soc.New(laid, l)
	must(t, err)
	if l[0] != 0x00700093 || l[1] != 0x00108113 {
		t.Errorf("the code became %x", l)
	}
	l[0], l[1] = 0, 0
	if o := slices.Concat(x.Tick(), x.Tick()); len(o) != 0 {
		t.Errorf("what went out: %v", o)
	}
	want := atFirst(laid)
	want.H.Pc, want.H.C.Count, want.H.X[1], want.H.X[2] = base+8, 2, 7, 8
	want.Ticks, want.C.Time = 2, 2
	isState(t, "two ticks", x, want)
}

// oddStates are what a state may not be, each with one part that may not.
var oddStates = []struct {
	name  string
	spoil func(s *soc.State)
}{
	{"an odd Pc", func(s *soc.State) { s.H.Pc = base + 2 }},
	{"a first register", func(s *soc.State) { s.H.X[0] = 1 }},
	{"a Status that can't be", func(s *soc.State) { s.H.C.Status = 1 }},
	{"an odd Epc", func(s *soc.State) { s.H.C.Epc = 1 }},
	{"nine writes that wait", func(s *soc.State) { s.Q.L = slices.Repeat(s.Q.L[:1], 9) }},
	{"a write to memory that waits", func(s *soc.State) { s.Q.L[1] = bus.Post{Dev: bus.Memory, At: 0, N: 4} }},
	{"a write behind a device's end", func(s *soc.State) { s.Q.L[0].At = 256 }},
	{"a write by the wrong bytes", func(s *soc.State) { s.Q.L[1].N = 4 }},
	{"a Soft that can't be", func(s *soc.State) { s.C.Soft = 2 }},
	{"a priority above 7", func(s *soc.State) { s.P.Priority[7] = 8 }},
	{"a source 0", func(s *soc.State) { s.P.Enable = 1 }},
	{"a byte behind a fifo's", func(s *soc.State) { s.U.Rx.B[2] = 1 }},
	{"a Wait of the port of 4", func(s *soc.State) { s.U.Wait = 4 }},
	{"a code of the engine of 4", func(s *soc.State) { s.D.Code = 4 }},
	{"an order of an engine that is Done", func(s *soc.State) { s.D.Code = dma.Done }},
	{"a Status of the disk that can't be", func(s *soc.State) { s.B.P.Status = 16 }},
	{"a request behind memory", func(s *soc.State) { s.B.In[0].L[0].At = base + 4*page - 512 }},
	{"a request behind the disk", func(s *soc.State) { s.B.In[1].Sector = 100 }},
	{"a request of 257 parts", func(s *soc.State) {
		s.B.In[1].L = append(s.B.In[1].L, slices.Repeat([]ring.Seg{{At: base, Write: true}}, 256)...)
	}},
	{"two requests of an ID", func(s *soc.State) { s.B.In[1].ID = 4 }},
	{"a disk of more sectors", func(s *soc.State) { s.B.Sectors = 101 }},
	{"a disk of fewer sectors", func(s *soc.State) { s.B.Sectors = 99 }},
	{"a ring of the net device's that can't be", func(s *soc.State) { s.N.P.Q[1].R.Size = 3 }},
	{"all of them", func(s *soc.State) {
		*s = soc.State{H: hart.State{Pc: 1}, Q: bus.Queue{L: make([]bus.Post, 9)}, C: clint.State{Soft: 2}, P: plic.State{Busy: 1}, U: uart.State{Ier: 8}, D: dma.State{Code: 9}, B: blk.State{Next: 1, In: make([]blk.Req, 9)}}
	}},
}

// SO1: a state that is the config's is a machine's; one with a part that may not be is none's, nor is one without its memory.
func TestLoad(t *testing.T) {
	m := ram(t, laid.Pages)
	x, err := soc.Load(laid, busy(), m)
	must(t, err)
	must(t, soc.Check(laid, busy()))
	isState(t, "busy", x, busy())
	if x.Mem() != m || x.Config() != laid {
		t.Errorf("%p, %+v, not %p, %+v", x.Mem(), x.Config(), m, laid)
	}
	for _, e := range oddStates {
		s := busy()
		e.spoil(&s)
		before := told(s)
		y, err := soc.Load(laid, s, ram(t, laid.Pages))
		isNone(t, e.name, y, err)
		refused(t, e.name, soc.Check(laid, s), api.ErrArg)
		if told(s) != before {
			t.Errorf("%s: the state became %s", e.name, told(s))
		}
	}
	y, err := soc.Load(laid, busy(), nil)
	isNone(t, "no memory", y, err)
	for _, pages := range []int{1, 3, 5, 8} {
		y, err := soc.Load(laid, busy(), ram(t, pages))
		isNone(t, fmt.Sprintf("%d pages", pages), y, err)
	}
	y, err = soc.Load(soc.Config{}, soc.State{H: hart.State{Pc: 1}}, nil)
	isNone(t, "all wrong", y, err)
}

// SO1: what may be in memory hangs on the config's Pages, and on no other number.
func TestCheckPages(t *testing.T) {
	s := atFirst(laid)
	s.B.P, s.B.Next, s.B.In = live(1), 5, []blk.Req{request(4)}
	for pages, want := range map[int]api.Errno{1: api.ErrArg, 3: api.ErrArg, 4: 0, 5: 0, api.MaxPages: 0} {
		refused(t, fmt.Sprintf("%d pages", pages), soc.Check(soc.Config{Pages: pages, Sectors: laid.Sectors}, s), want)
	}
	for sectors, want := range map[uint32]api.Errno{0: api.ErrArg, 99: api.ErrArg, 100: 0, 101: api.ErrArg} {
		refused(t, fmt.Sprintf("%d sectors", sectors), soc.Check(soc.Config{Pages: 4, Sectors: sectors}, s), want)
	}
}

// SO1: a disk's request of 256 parts is a machine's, one of 257 none's.
func TestLoadParts(t *testing.T) {
	for _, n := range []int{255, 256, 257} {
		s := busy()
		s.B.In[1].L = append(slices.Repeat([]ring.Seg{{At: base, Write: true}}, n-1), s.B.In[1].L...)
		x, err := soc.Load(laid, s, ram(t, laid.Pages))
		if n > 256 {
			isNone(t, fmt.Sprintf("%d parts", n), x, err)
			continue
		}
		must(t, err)
		isState(t, fmt.Sprintf("%d parts", n), x, s)
	}
}

// SO1: memory is kept as it is, dirty pages and all; of the state nothing is kept.
func TestLoadKeeps(t *testing.T) {
	m := ram(t, laid.Pages)
	must(t, m.Write(2*page+1, []byte{1, 2, 3}))
	must(t, m.Write(page-4, code(t, "addi x1, x0, 7")))
	s := busy()
	s.H = hart.State{Pc: base + page - 4}
	x, err := soc.Load(laid, s, m)
	must(t, err)
	want := told(s)
	if d := x.Mem().Dirty(); !slices.Equal(d, []int{0, 2}) || m.Writes() != 2 {
		t.Errorf("dirty are %v, behind %d writes", d, m.Writes())
	}
	s.Q.L[0].Value, s.B.In[0].Sector, s.B.In[1].L[0].At = 1, 1, base
	s.Q.L = append(s.Q.L[:1], bus.Post{})
	if got := told(x.State()); got != want {
		t.Errorf("what was handed in is kept: %s, not %s", got, want)
	}
	must(t, m.Write(page-4, code(t, "addi x1, x0, 9")))
	x.Tick()
	if got := x.State().H.X[1]; got != 9 {
		t.Errorf("the instruction in memory wrote %d, not 9", got)
	}
}
