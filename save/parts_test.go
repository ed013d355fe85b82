package save_test

import (
	"bytes"
	"fmt"
	"math"
	"math/rand"
	"strings"
	"testing"

	"pinnace/blk"
	"pinnace/bus"
	"pinnace/clint"
	"pinnace/csr"
	"pinnace/dma"
	"pinnace/hart"
	"pinnace/nic"
	"pinnace/plic"
	"pinnace/ring"
	"pinnace/save"
	"pinnace/soc"
	"pinnace/uart"
	"pinnace/virtio"
)

// areBytes fails the test, if the sections are not 1 to 13, of these bytes (in hexadecimal digits; blanks are nothing).
func areBytes(t *testing.T, name string, h held, want [13]string) {
	t.Helper()
	l := save.Parts(h.c, h.s)
	if len(l) != 13 {
		t.Fatalf("%s: %d sections", name, len(l))
	}
	for i, s := range l {
		if got := fmt.Sprintf("%x", s.B); s.Tag != uint32(i+1) || got != strings.ReplaceAll(want[i], " ", "") {
			t.Errorf("%s: the section %d has the tag %d and\n%s, not\n%s", name, i+1, s.Tag, got, want[i])
		}
	}
}

// noughts are so many bytes 0.
func noughts(n int) string { return strings.Repeat("00", n) }

// SV1: all sections of a new machine's state, byte by byte.
func TestPartsOfANewMachine(t *testing.T) {
	want := [13]string{
		"02010000 39300000", // 258 pages, 12345 sectors
		noughts(8),
		"00000080" + noughts(31*4+1),
		noughts(7*4 + 8),
		"00",
		noughts(1 + 8 + 8),
		noughts(7 + 4 + 1 + 4 + 4),
		noughts(4 + 4 + 6 + 1 + 1),
		noughts(1 + 8 + 1 + 4 + 1 + 16 + 1),
		noughts(7*4 + 2*(1+2+12+4)),
		noughts(1 + 4 + 1),
		noughts(7*4 + 2*(1+2+12+4)),
		noughts(1 + 4),
	}
	x := newMachine(t, soc.Config{Pages: 258, Sectors: 12345})
	areBytes(t, "a new machine", held{x.Config(), x.State()}, want)
	areBytes(t, "at first", held{x.Config(), soc.State{H: hart.Reset(base), B: blk.State{Sectors: 12345}}}, want)
}

// SV1: of nothing at all.
func TestPartsOfNothing(t *testing.T) {
	sizes := [13]int{8, 8, 129, 36, 1, 17, 20, 16, 32, 66, 6, 66, 5}
	var want [13]string
	for i, n := range sizes {
		want[i] = noughts(n)
	}
	areBytes(t, "nothing", held{}, want)
}

// someSetting is a setting of numbers that follow one another, from a first one on.
func someSetting(first uint32) virtio.State {
	n := func(i uint32) uint32 { return 0x01010100*(first+i) + i }
	s := virtio.State{Status: n(0), FeatSel: n(1), DrvSel: n(2), Sel: n(3), Irq: n(4), Drv: [2]uint32{n(5), n(6)}}
	s.Q[0] = virtio.Queue{R: ring.Ring{Size: 0x0100, Desc: n(7), Avail: n(8), Used: n(9), Last: 0x1234, Put: 0x5678}}
	s.Q[1] = virtio.Queue{Ready: true, R: ring.Ring{Size: 0x0080, Desc: n(10), Avail: n(11), Used: n(12), Last: 0x9abc, Put: 0xdef0}}
	return s
}

// everyNumber is a config and a state in which every number is another one.
func everyNumber() held {
	s := soc.State{Ticks: 0x0123456789abcdef}
	s.H = hart.State{Pc: 0xa0a1a2a3, Wait: true}
	for i := range s.H.X {
		s.H.X[i] = 0xb0000000 + uint32(i)*0x00010203
	}
	s.H.C = csr.State{Status: 0xc0c1c2c3, Enable: 0xc4c5c6c7, Vector: 0xc8c9cacb, Scratch: 0xcccdcecf, Epc: 0xd0d1d2d3, Cause: 0xd4d5d6d7, Value: 0xd8d9dadb, Count: 0xdcdddedfe0e1e2e3}
	s.Q.L = []bus.Post{{Dev: 6, At: 0x01020304, N: 4, Value: 0x05060708}, {Dev: 3, At: 0x090a0b0c, N: 1, Value: 0x0d0e0f10}}
	s.C = clint.State{Soft: 0x11, Time: 0x1213141516171819, Cmp: 0x1a1b1c1d1e1f2021}
	s.P = plic.State{Priority: [8]uint32{0x30, 0x31, 0x32, 0x33, 0x34, 0x35, 0x36, 0x37}, Enable: 0x38393a3b, Threshold: 0x3c, Pending: 0x3d3e3f40, Busy: 0x41424344}
	s.U = uart.State{Rx: uart.Fifo{B: [16]byte{0x51, 0x52, 0x53}, N: 2}, Tx: uart.Fifo{B: [16]byte{0x54, 0x55, 0x56}, N: 3}, Ier: 0x57, Lcr: 0x58, Mcr: 0x59, Scr: 0x5a, Dll: 0x5b, Dlm: 0x5c, Over: true, Wait: 0x5d}
	s.D = dma.State{Code: 0x61, Head: 0x62636465, At: 0x66676869, Steps: 0x6a, Moved: 0x6b6c6d6e, Have: true, From: 0x6f707172, To: 0x73747576, Left: 0x7778797a, Next: 0x7b7c7d7e}
	s.B = blk.State{P: someSetting(0x10), Sectors: 0xeeeeeeee, Bell: true, Next: 0xf0f1f2f3}
	s.B.In = []blk.Req{
		{ID: 0x21222324, Head: 0x2526, Write: true, Sector: 0x2728292a, N: 0x2b2c2d2e, L: []ring.Seg{{At: 0x2f303132, N: 0x33343536, Write: true}, {At: 0x3738393a, N: 0x3b3c3d3e}}},
		{ID: 0x3f404142, Head: 0x4344, Sector: 0x45464748, N: 0x494a4b4c},
	}
	s.N = nic.State{P: someSetting(0x40), Lost: 0xf4f5f6f7}
	return held{soc.Config{Pages: 0x01020304, Sectors: 0x05060708}, s}
}

// SV1: a state in which every number is another one, byte by byte.
func TestPartsOfEveryNumber(t *testing.T) {
	var x strings.Builder
	for i := 1; i < 32; i++ {
		fmt.Fprintf(&x, "%02x%02x%02xb0", 3*i, 2*i, i)
	}
	areBytes(t, "every number", everyNumber(), [13]string{
		"04030201 08070605",
		"efcdab8967452301",
		"a3a2a1a0" + x.String() + "01",
		"c3c2c1c0 c7c6c5c4 cbcac9c8 cfcecdcc d3d2d1d0 d7d6d5d4 dbdad9d8 e3e2e1e0dfdedddc",
		"02 06 04030201 04 08070605 03 0c0b0a09 01 100f0e0d",
		"11 1918171615141312 21201f1e1d1c1b1a",
		"31323334353637 3b3a3938 3c 403f3e3d 44434241",
		"02000000 5152 03000000 545556 5758595a5b5c 01 5d",
		"61 65646362 69686766 6a 6e6d6c6b 01 7271706f 76757473 7a797877 7e7d7c7b 00",
		"00101010 01111111 02121212 03131313 04141414 05151515 06161616" +
			"00 0001 07171717 08181818 09191919 3412 7856" +
			"01 8000 0a1a1a1a 0b1b1b1b 0c1c1c1c bc9a f0de",
		"01 f3f2f1f0 02" +
			"24232221 2625 01 2a292827 2e2d2c2b 0200 3231302f 36353433 3a393837 3e3d3c3b" +
			"4241403f 4443 00 48474645 4c4b4a49 0000",
		"00404040 01414141 02424242 03434343 04444444 05454545 06464646" +
			"00 0001 07474747 08484848 09494949 3412 7856" +
			"01 8000 0a4a4a4a 0b4b4b4b 0c4c4c4c bc9a f0de",
		"00 f7f6f5f4",
	})
}

// spot is where a number stands: in which section, from which byte on, and how many it has.
type spot struct {
	name          string
	tag, at, size int
	isTruth       bool
	set           func(h *held, v uint64)
	get           func(h *held) uint64
}

// spotOf is the spot of a number.
func spotOf[T ~int | ~byte | ~uint16 | ~uint32 | ~uint64](name string, tag, at, size int, p func(h *held) *T) spot {
	return spot{name, tag, at, size, false, func(h *held, v uint64) { *p(h) = T(v) }, func(h *held) uint64 { return uint64(*p(h)) }}
}

// truthOf is the spot of a truth.
func truthOf(name string, tag, at int, p func(h *held) *bool) spot {
	get := func(h *held) uint64 {
		if *p(h) {
			return 1
		}
		return 0
	}
	return spot{name, tag, at, 1, true, func(h *held, v uint64) { *p(h) = v&1 == 1 }, get}
}

// settingSpots are the spots of a setting.
func settingSpots(tag int, p func(h *held) *virtio.State) []spot {
	l := []spot{
		spotOf("Status", tag, 0, 4, func(h *held) *uint32 { return &p(h).Status }),
		spotOf("FeatSel", tag, 4, 4, func(h *held) *uint32 { return &p(h).FeatSel }),
		spotOf("DrvSel", tag, 8, 4, func(h *held) *uint32 { return &p(h).DrvSel }),
		spotOf("Sel", tag, 12, 4, func(h *held) *uint32 { return &p(h).Sel }),
		spotOf("Irq", tag, 16, 4, func(h *held) *uint32 { return &p(h).Irq }),
		spotOf("Drv[0]", tag, 20, 4, func(h *held) *uint32 { return &p(h).Drv[0] }),
		spotOf("Drv[1]", tag, 24, 4, func(h *held) *uint32 { return &p(h).Drv[1] }),
	}
	for i, at := range []int{28, 47} {
		l = append(l,
			truthOf("Ready", tag, at, func(h *held) *bool { return &p(h).Q[i].Ready }),
			spotOf("Size", tag, at+1, 2, func(h *held) *int { return &p(h).Q[i].R.Size }),
			spotOf("Desc", tag, at+3, 4, func(h *held) *uint32 { return &p(h).Q[i].R.Desc }),
			spotOf("Avail", tag, at+7, 4, func(h *held) *uint32 { return &p(h).Q[i].R.Avail }),
			spotOf("Used", tag, at+11, 4, func(h *held) *uint32 { return &p(h).Q[i].R.Used }),
			spotOf("Last", tag, at+15, 2, func(h *held) *uint16 { return &p(h).Q[i].R.Last }),
			spotOf("Put", tag, at+17, 2, func(h *held) *uint16 { return &p(h).Q[i].R.Put }),
		)
	}
	return l
}

// hartSpots are the spots of the config, the ticks, and the hart.
func hartSpots() []spot {
	l := []spot{
		spotOf("Pages", 1, 0, 4, func(h *held) *int { return &h.c.Pages }),
		spotOf("Sectors", 1, 4, 4, func(h *held) *uint32 { return &h.c.Sectors }),
		spotOf("Ticks", 2, 0, 8, func(h *held) *uint64 { return &h.s.Ticks }),
		spotOf("Pc", 3, 0, 4, func(h *held) *uint32 { return &h.s.H.Pc }),
		truthOf("Wait", 3, 128, func(h *held) *bool { return &h.s.H.Wait }),
		spotOf("Status", 4, 0, 4, func(h *held) *uint32 { return &h.s.H.C.Status }),
		spotOf("Enable", 4, 4, 4, func(h *held) *uint32 { return &h.s.H.C.Enable }),
		spotOf("Vector", 4, 8, 4, func(h *held) *uint32 { return &h.s.H.C.Vector }),
		spotOf("Scratch", 4, 12, 4, func(h *held) *uint32 { return &h.s.H.C.Scratch }),
		spotOf("Epc", 4, 16, 4, func(h *held) *uint32 { return &h.s.H.C.Epc }),
		spotOf("Cause", 4, 20, 4, func(h *held) *uint32 { return &h.s.H.C.Cause }),
		spotOf("Value", 4, 24, 4, func(h *held) *uint32 { return &h.s.H.C.Value }),
		spotOf("Count", 4, 28, 8, func(h *held) *uint64 { return &h.s.H.C.Count }),
	}
	for i := 1; i < 32; i++ {
		l = append(l, spotOf("X", 3, 4*i, 4, func(h *held) *uint32 { return &h.s.H.X[i] }))
	}
	return l
}

// interruptSpots are the spots of the timer, and of the controller of the sources.
func interruptSpots() []spot {
	l := []spot{
		spotOf("Soft", 6, 0, 1, func(h *held) *uint32 { return &h.s.C.Soft }),
		spotOf("Time", 6, 1, 8, func(h *held) *uint64 { return &h.s.C.Time }),
		spotOf("Cmp", 6, 9, 8, func(h *held) *uint64 { return &h.s.C.Cmp }),
		spotOf("Enable", 7, 7, 4, func(h *held) *uint32 { return &h.s.P.Enable }),
		spotOf("Threshold", 7, 11, 1, func(h *held) *uint32 { return &h.s.P.Threshold }),
		spotOf("Pending", 7, 12, 4, func(h *held) *uint32 { return &h.s.P.Pending }),
		spotOf("Busy", 7, 16, 4, func(h *held) *uint32 { return &h.s.P.Busy }),
	}
	for i := 1; i < 8; i++ {
		l = append(l, spotOf("Priority", 7, i-1, 1, func(h *held) *uint32 { return &h.s.P.Priority[i] }))
	}
	return l
}

// portSpots are the spots of the port, behind so many bytes of its fifos.
func portSpots(more int) []spot {
	return []spot{
		spotOf("Ier", 8, more+8, 1, func(h *held) *byte { return &h.s.U.Ier }),
		spotOf("Lcr", 8, more+9, 1, func(h *held) *byte { return &h.s.U.Lcr }),
		spotOf("Mcr", 8, more+10, 1, func(h *held) *byte { return &h.s.U.Mcr }),
		spotOf("Scr", 8, more+11, 1, func(h *held) *byte { return &h.s.U.Scr }),
		spotOf("Dll", 8, more+12, 1, func(h *held) *byte { return &h.s.U.Dll }),
		spotOf("Dlm", 8, more+13, 1, func(h *held) *byte { return &h.s.U.Dlm }),
		truthOf("Over", 8, more+14, func(h *held) *bool { return &h.s.U.Over }),
		spotOf("Wait", 8, more+15, 1, func(h *held) *int { return &h.s.U.Wait }),
	}
}

// engineSpots are the spots of the engine.
func engineSpots() []spot {
	return []spot{
		spotOf("Code", 9, 0, 1, func(h *held) *uint32 { return &h.s.D.Code }),
		spotOf("Head", 9, 1, 4, func(h *held) *uint32 { return &h.s.D.Head }),
		spotOf("At", 9, 5, 4, func(h *held) *uint32 { return &h.s.D.At }),
		spotOf("Steps", 9, 9, 1, func(h *held) *uint32 { return &h.s.D.Steps }),
		spotOf("Moved", 9, 10, 4, func(h *held) *uint32 { return &h.s.D.Moved }),
		truthOf("Have", 9, 14, func(h *held) *bool { return &h.s.D.Have }),
		spotOf("From", 9, 15, 4, func(h *held) *uint32 { return &h.s.D.From }),
		spotOf("To", 9, 19, 4, func(h *held) *uint32 { return &h.s.D.To }),
		spotOf("Left", 9, 23, 4, func(h *held) *uint32 { return &h.s.D.Left }),
		spotOf("Next", 9, 27, 4, func(h *held) *uint32 { return &h.s.D.Next }),
		truthOf("Asks", 9, 31, func(h *held) *bool { return &h.s.D.Asks }),
	}
}

// deviceSpots are the spots of the disk and of the net device, but for their settings.
func deviceSpots() []spot {
	return []spot{
		truthOf("Bell", 11, 0, func(h *held) *bool { return &h.s.B.Bell }),
		spotOf("Next", 11, 1, 4, func(h *held) *uint32 { return &h.s.B.Next }),
		truthOf("Bell", 13, 0, func(h *held) *bool { return &h.s.N.Bell }),
		spotOf("Lost", 13, 1, 4, func(h *held) *uint32 { return &h.s.N.Lost }),
	}
}

// listSpots are the spots within lists: of two writes, a fifo of two bytes, one of three, and two requests, of two parts
// and of one.
func listSpots() []spot {
	l := []spot{
		spotOf("Rx's byte", 8, 4, 1, func(h *held) *byte { return &h.s.U.Rx.B[0] }),
		spotOf("Rx's last byte", 8, 5, 1, func(h *held) *byte { return &h.s.U.Rx.B[1] }),
		spotOf("Tx's byte", 8, 10, 1, func(h *held) *byte { return &h.s.U.Tx.B[0] }),
		spotOf("Tx's last byte", 8, 12, 1, func(h *held) *byte { return &h.s.U.Tx.B[2] }),
	}
	for i, at := range []int{1, 11} {
		l = append(l,
			spotOf("Dev", 5, at, 1, func(h *held) *int { return &h.s.Q.L[i].Dev }),
			spotOf("At", 5, at+1, 4, func(h *held) *uint32 { return &h.s.Q.L[i].At }),
			spotOf("N", 5, at+5, 1, func(h *held) *int { return &h.s.Q.L[i].N }),
			spotOf("Value", 5, at+6, 4, func(h *held) *uint32 { return &h.s.Q.L[i].Value }),
		)
	}
	for i, at := range []int{6, 39} {
		l = append(l,
			spotOf("ID", 11, at, 4, func(h *held) *uint32 { return &h.s.B.In[i].ID }),
			spotOf("Head", 11, at+4, 2, func(h *held) *int { return &h.s.B.In[i].Head }),
			truthOf("Write", 11, at+6, func(h *held) *bool { return &h.s.B.In[i].Write }),
			spotOf("Sector", 11, at+7, 4, func(h *held) *uint32 { return &h.s.B.In[i].Sector }),
			spotOf("N", 11, at+11, 4, func(h *held) *int { return &h.s.B.In[i].N }),
			spotOf("a part's At", 11, at+17, 4, func(h *held) *uint32 { return &h.s.B.In[i].L[0].At }),
			spotOf("a part's N", 11, at+21, 4, func(h *held) *int { return &h.s.B.In[i].L[0].N }),
		)
	}
	return append(l,
		spotOf("the second part's At", 11, 31, 4, func(h *held) *uint32 { return &h.s.B.In[0].L[1].At }),
		spotOf("the second part's N", 11, 35, 4, func(h *held) *int { return &h.s.B.In[0].L[1].N }),
	)
}

// spots are all of them, in a state whose fifos have so many bytes.
func spots(more int) []spot {
	l := append(hartSpots(), interruptSpots()...)
	l = append(append(l, portSpots(more)...), engineSpots()...)
	l = append(l, settingSpots(10, func(h *held) *virtio.State { return &h.s.B.P })...)
	l = append(l, settingSpots(12, func(h *held) *virtio.State { return &h.s.N.P })...)
	return append(l, deviceSpots()...)
}

// withLists is a config and a state that may be, with the lists that listSpots tells of.
func withLists() *held {
	h := held{c: soc.Config{Pages: 3, Sectors: 1000}}
	h.s = soc.State{H: hart.Reset(base), B: blk.State{Sectors: 1000, Next: 50, P: virtio.State{Status: 1}}}
	h.s.Q.L = []bus.Post{{Dev: 4, At: 8, N: 4, Value: 9}, {Dev: 3, At: 7, N: 1, Value: 5}}
	h.s.U.Rx, h.s.U.Tx = uart.Fifo{B: [16]byte{'a', 'b'}, N: 2}, uart.Fifo{B: [16]byte{'c', 'd', 'e'}, N: 3}
	h.s.B.In = []blk.Req{
		{ID: 7, Head: 3, Sector: 20, N: 512, L: []ring.Seg{{At: base + 100, N: 500, Write: true}, {At: base + page, N: 13, Write: true}}},
		{ID: 8, Head: 4, Write: true, Sector: 996, N: 2048, L: []ring.Seg{{At: base, N: 1, Write: true}}},
	}
	return &h
}

// isAt fails the test, if a number does not stand at its spot, with its lowest bytes, and changes more than these.
func isAt(t *testing.T, p spot, h *held, v uint64) {
	t.Helper()
	want := save.Parts(h.c, h.s)
	p.set(h, v)
	want = with(want, p.tag, p.at, little(p.get(h), p.size))
	if got := save.Parts(h.c, h.s); !sameSections(got, want) {
		t.Errorf("%s of the section %d being %x: %x, not %x", p.name, p.tag, v, got[p.tag-1].B, want[p.tag-1].B)
	}
}

// SV1: each number stands at its place, with its lowest bytes, and changes nothing but these.
func TestPartsNumberByNumber(t *testing.T) {
	values := []uint64{0x8877665544332211, math.MaxUint64, 0, 1, 0x80, 0x100, 0x10000, 1 << 32, 1 << 63, 0xfffffffffffffffe}
	for _, v := range values {
		for _, p := range spots(0) {
			isAt(t, p, &held{}, v)
		}
		for _, p := range append(spots(5), listSpots()...) {
			isAt(t, p, withLists(), v)
		}
	}
}

// SV1: numbers that need more bytes than they have, by hand.
func TestPartsOfGreatNumbers(t *testing.T) {
	h := withLists()
	h.c.Pages = 0x123456789a
	h.s.Q.L[0].Dev, h.s.Q.L[0].N = -2, 0x1ff
	h.s.C.Soft, h.s.P.Priority[7], h.s.P.Threshold = 0xffffff01, 0x107, 0xabcd
	h.s.U.Wait, h.s.D.Code, h.s.D.Steps = -1, 0x301, 0x8040
	h.s.B.P.Q[0].R.Size, h.s.N.P.Q[1].R.Size = 0x10100, -1
	h.s.B.In[0].Head, h.s.B.In[0].N, h.s.B.In[0].L[1].N = 0x7ffff, 0x1_0000_0200, -3
	for _, c := range []struct {
		tag, at int
		want    string
	}{
		{1, 0, "9a785634 e8030000"}, {5, 1, "fe 08000000 ff"}, {6, 0, "01"}, {7, 6, "07"}, {7, 11, "cd"}, {8, 20, "ff"},
		{9, 0, "01"}, {9, 9, "40"}, {10, 29, "0001"}, {12, 48, "ffff"}, {11, 10, "ffff"}, {11, 17, "00020000"}, {11, 35, "fdffffff"},
	} {
		got, want := fmt.Sprintf("%x", save.Parts(h.c, h.s)[c.tag-1].B)[2*c.at:], strings.ReplaceAll(c.want, " ", "")
		if !strings.HasPrefix(got, want) {
			t.Errorf("the section %d, from %d on: %s, not %s", c.tag, c.at, got, want)
		}
	}
}

// SV1: fifos of any N; of one that is none: no bytes.
func TestPartsOfFifos(t *testing.T) {
	full := [16]byte{1, 2, 3, 4, 5, 6, 7, 8, 9, 10, 11, 12, 13, 14, 15, 16}
	for _, n := range []int{0, 1, 2, 15, 16, 17, -1, -16, 255, 256, 1 << 32, 1<<32 + 3, math.MaxInt, math.MinInt} {
		run := little(0, 4)
		if n > 0 && n <= 16 {
			run = append(little(uint64(n), 4), full[:n]...)
		}
		f := uart.Fifo{B: full, N: n}
		rx, tx := soc.State{U: uart.State{Rx: f, Ier: 7}}, soc.State{U: uart.State{Tx: f, Ier: 7}}
		rest := append([]byte{7}, make([]byte, 7)...)
		if got, want := save.Parts(soc.Config{}, rx)[7].B, bytes.Join([][]byte{run, little(0, 4), rest}, nil); !bytes.Equal(got, want) {
			t.Errorf("Rx of %d: %x, not %x", n, got, want)
		}
		if got, want := save.Parts(soc.Config{}, tx)[7].B, bytes.Join([][]byte{little(0, 4), run, rest}, nil); !bytes.Equal(got, want) {
			t.Errorf("Tx of %d: %x, not %x", n, got, want)
		}
	}
}

// SV1: any number of writes that wait; their number's lowest byte, and all of them.
func TestPartsOfPosts(t *testing.T) {
	for _, n := range []int{0, 1, 2, 8, 9, 255, 256, 300} {
		var s soc.State
		want := []byte{byte(n)}
		for i := range n {
			s.Q.L = append(s.Q.L, bus.Post{Dev: i, At: uint32(i) << 20, N: i + 1, Value: uint32(i) * 0x01010101})
			want = append(append(want, byte(i)), little(uint64(i)<<20, 4)...)
			want = append(append(want, byte(i+1)), little(uint64(i)*0x01010101, 4)...)
		}
		if got := save.Parts(soc.Config{}, s)[4].B; !bytes.Equal(got, want) {
			t.Errorf("%d writes: %x, not %x", n, got, want)
		}
	}
}

// SV1: any number of requests, with any number of parts.
func TestPartsOfRequests(t *testing.T) {
	for _, c := range []struct{ requests, parts int }{{0, 0}, {1, 0}, {1, 1}, {8, 0}, {8, 3}, {9, 1}, {255, 1}, {258, 2}, {2, 256}, {2, 257}, {1, 65538}} {
		var s soc.State
		want := append(make([]byte, 5), byte(c.requests))
		for i := range c.requests {
			r := blk.Req{ID: uint32(i + 1), Head: i, Write: i%2 == 1, Sector: 5, N: 6}
			want = append(append(want, little(uint64(i+1), 4)...), little(uint64(i), 2)...)
			want = append(append(want, byte(i%2), 5, 0, 0, 0, 6, 0, 0, 0), little(uint64(c.parts), 2)...)
			for k := range c.parts {
				r.L = append(r.L, ring.Seg{At: base + uint32(k), N: k + 1, Write: k%2 == 0})
				want = append(append(want, little(base+uint64(k), 4)...), little(uint64(k+1), 4)...)
			}
			s.B.In = append(s.B.In, r)
		}
		if got := save.Parts(soc.Config{}, s)[10].B; !bytes.Equal(got, want) {
			t.Errorf("%d requests of %d parts: %d bytes, not %d, or other ones", c.requests, c.parts, len(got), len(want))
		}
	}
}

// SV1: of X's first, of the source 0's priority, of a part's Write, and of the disk's own Sectors, nothing.
func TestPartsOfWhatIsNothing(t *testing.T) {
	h := withLists()
	want := save.Parts(h.c, h.s)
	h.s.H.X[0], h.s.P.Priority[0], h.s.B.Sectors = 0xffffffff, 7, 77
	h.s.B.In[0].L[0].Write, h.s.B.In[1].L[0].Write = false, false
	h.s.U.Rx.B[2], h.s.U.Tx.B[15] = 1, 2
	if got := save.Parts(h.c, h.s); !sameSections(got, want) {
		t.Errorf("%x\nnot\n%x", got, want)
	}
}

// SV1: whatever the config and the state are.
func TestPartsByChance(t *testing.T) {
	r := rand.New(rand.NewSource(1))
	for i := range 2000 {
		h := anyHeld(r)
		if i%2 == 1 {
			h = someHeld(r)
		}
		if got, want := save.Parts(h.c, h.s), plainParts(h); !sameSections(got, want) {
			t.Fatalf("Parts of %s:\n%x\nnot\n%x", told(h.c, h.s), got, want)
		}
	}
}

// SV1: what is handed in to Parts is not changed, and what it answers is new memory.
func TestPartsAnswersNewMemory(t *testing.T) {
	h := withLists()
	before := told(h.c, h.s)
	one, two := save.Parts(h.c, h.s), save.Parts(h.c, h.s)
	want := copied(two)
	for i := range one {
		fill(one[i].B, byte(i))
	}
	for i := len(one) - 1; i >= 0; i-- {
		if !bytes.Equal(one[i].B, bytes.Repeat([]byte{byte(i)}, len(one[i].B))) {
			t.Errorf("two sections of one answer share memory: %d", i+1)
		}
		fill(one[i].B, 0xff)
	}
	for i := range one {
		fill(one[i].B, 0xee)
		for k := i + 1; k < len(one); k++ {
			if !bytes.Equal(one[k].B, bytes.Repeat([]byte{0xff}, len(one[k].B))) {
				t.Errorf("two sections of one answer share memory: %d", k+1)
			}
		}
	}
	if !sameSections(two, want) || told(h.c, h.s) != before {
		t.Error("an answer of Parts shares memory")
	}
}
