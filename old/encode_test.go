package old_test

import (
	"bytes"
	"fmt"
	"math"
	"math/rand"
	"slices"
	"strings"
	"testing"

	"pinnace/api"
	"pinnace/blk"
	"pinnace/bus"
	"pinnace/clint"
	"pinnace/csr"
	"pinnace/dma"
	"pinnace/hart"
	"pinnace/nic"
	"pinnace/old"
	"pinnace/plic"
	"pinnace/ring"
	"pinnace/soc"
	"pinnace/sum"
	"pinnace/tlv"
	"pinnace/uart"
	"pinnace/virtio"
)

// someSetting is a setting of numbers that follow one another, from a first one on.
func someSetting(first uint32) virtio.State {
	n := func(i uint32) uint32 { return 0x01010100*(first+i) + 16*i }
	p := virtio.State{Status: 0x87, FeatSel: n(1), DrvSel: n(2), Sel: n(3), Irq: 2, Drv: [2]uint32{n(5), n(6)}}
	p.Q[0] = virtio.Queue{R: ring.Ring{Size: 0x0100, Desc: n(7), Avail: n(8), Used: n(9), Last: 0x1234, Put: 0x5678}}
	p.Q[1] = virtio.Queue{Ready: true, R: ring.Ring{Size: 0x0080, Desc: n(10), Avail: n(11), Used: n(12), Last: 0x9abc, Put: 0xdef0}}
	return p
}

// everyNumber is a world that may be, in which every number is another one.
func everyNumber() world {
	s := soc.State{Ticks: 0x0123456789abcdef}
	s.H = hart.State{Pc: 0xa0a1a2a4, Wait: true}
	for i := range s.H.X {
		s.H.X[i] = uint32(i) * 0x01020304
	}
	s.H.C = csr.State{Status: 0x88, Enable: 0x880, Vector: 0xc8c9cac9, Scratch: 0xcccdcecf, Epc: 0xd0d1d2d4, Cause: 0xd4d5d6d7, Value: 0xd8d9dadb, Count: 0xdcdddedfe0e1e2e3}
	s.Q.L = []bus.Post{{Dev: 4, At: 8, N: 4, Value: 0x05060708}, {Dev: 3, At: 7, N: 1, Value: 0x0d0e0f10}}
	s.C = clint.State{Soft: 1, Time: 0x1213141516171819, Cmp: 0x1a1b1c1d1e1f2021}
	s.P = plic.State{Priority: [8]uint32{0, 1, 2, 3, 4, 5, 6, 7}, Enable: 0x3a, Threshold: 6, Pending: 0x5c, Busy: 0xa2}
	s.U = uart.State{Rx: uart.Fifo{B: [16]byte{0x51, 0x52}, N: 2}, Tx: uart.Fifo{B: [16]byte{0x54, 0x55, 0x56}, N: 3}, Ier: 5, Lcr: 0x58, Mcr: 0x19, Scr: 0x5a, Dll: 0x5b, Dlm: 0x5c, Over: true, Wait: 2}
	s.D = dma.State{Code: 1, Head: 0x62636465, At: 0x66676869, Steps: 0x3a, Moved: 0x6b6c6d6e, Have: true, From: 0x6f707172, To: 0x73747576, Left: 0x7778, Next: 0x7b7c7d7e}
	s.B = blk.State{P: someSetting(0x10), Sectors: 0x000e0f10, Next: 0xf0f1f2f3}
	s.B.In = []blk.Req{
		{ID: 0x21222324, Head: 0x25, Write: true, Sector: 0x00027282, N: 0x600, L: []ring.Seg{{At: 0x80000010, N: 1, Write: true}, {At: 0x3738393a, Write: true}}},
		{ID: 0x3f404142, Head: 0x43, Sector: 0x000a4748, N: 0x200, L: []ring.Seg{{At: 0x80001000, N: 0x201, Write: true}}},
	}
	s.N = nic.State{P: someSetting(0x40), Bell: true, Lost: 0xf4f5f6f7}
	m := make([]byte, 3*page)
	for i := range m {
		m[i] = byte(i + i/page + i/256*7)
	}
	return world{soc.Config{Pages: 3, Sectors: 0x000e0f10}, s, m}
}

// byHand is a file, laid by hand but for the sums: tags may be any.
func byHand(version, count uint32, l []tlv.Section) []byte {
	out := lay([]byte("PNCE"), version, count)
	for _, s := range l {
		out = append(out, sum.Tail(lay(s.Tag, uint32(len(s.B)), s.B))...)
	}
	return sum.Tail(out)
}

// areBytes fails the test, if a machine's file of some version has not just these sections, with the tags from 1 on (in
// hexadecimal digits; blanks are nothing), and memory behind them.
func areBytes(t *testing.T, name string, w world, version int, want ...string) {
	t.Helper()
	want = append(want, fmt.Sprintf("%x", w.m))
	b := encoded(t, w.machine(t), version)
	l := sectionsOf(t, uint32(version), b)
	if len(l) != len(want) {
		t.Fatalf("%s, version %d: %d sections", name, version, len(l))
	}
	for i, s := range l {
		if got := fmt.Sprintf("%x", s.B); s.Tag != uint32(i+1) || got != strings.ReplaceAll(want[i], " ", "") {
			t.Errorf("%s, version %d: the section %d has the tag %d and\n%s, not\n%s", name, version, i+1, s.Tag, got, want[i])
		}
	}
	if !bytes.Equal(b, byHand(uint32(version), uint32(len(want)), l)) {
		t.Errorf("%s, version %d: not a file of these sections: %x", name, version, b)
	}
}

// nought are so many bytes 0.
func nought(n int) string { return strings.Repeat("00", n) }

// OL1: a new machine, byte by byte.
func TestFilesOfANewMachine(t *testing.T) {
	w := worldOf(t, newMachine(t, soc.Config{Pages: 2, Sectors: 0x12345}, 0x11223344, 0x55667788))
	areBytes(t, "a new machine", w, 1,
		"0200",
		"00000080"+nought(31*4),
		nought(5*4),
		nought(8+8),
		nought(4+4+1))
	areBytes(t, "a new machine", w, 2,
		"02000000 45230100",
		nought(8),
		"00000080"+nought(31*4+1),
		nought(7*4),
		nought(1+8+8),
		nought(7+4+1+4+4),
		nought(4+4+6+1+1),
		nought(7*4+2*(1+2+12+4)),
		nought(4+1))
	if b := encoded(t, w.machine(t), 1); len(b) != 16+6*12+2+128+20+16+9+2*page {
		t.Errorf("version 1: %d bytes", len(b))
	}
	if b := encoded(t, w.machine(t), 2); len(b) != 16+10*12+8+8+129+28+17+20+16+66+5+2*page {
		t.Errorf("version 2: %d bytes", len(b))
	}
}

// OL1: a machine in which every number is another one, byte by byte.
func TestFilesOfEveryNumber(t *testing.T) {
	var x strings.Builder
	for i := 1; i < 32; i++ {
		fmt.Fprintf(&x, "%02x%02x%02x%02x", 4*i, 3*i, 2*i, i)
	}
	w := everyNumber()
	areBytes(t, "every number", w, 1,
		"0300",
		"a4a2a1a0"+x.String(),
		"88000000 80080000 c9cac9c8 d4d2d1d0 d7d6d5d4",
		"1918171615141312 21201f1e1d1c1b1a",
		"02000000 5152 03000000 545556 05")
	areBytes(t, "every number", w, 2,
		"03000000 100f0e00",
		"efcdab8967452301",
		"a4a2a1a0"+x.String()+"01",
		"88000000 80080000 c9cac9c8 cfcecdcc d4d2d1d0 d7d6d5d4 dbdad9d8",
		"01 1918171615141312 21201f1e1d1c1b1a",
		"01020304050607 3a000000 06 5c000000 a2000000",
		"02000000 5152 03000000 545556 05 58 19 5a 5b 5c 01 02",
		"87000000 10111111 20121212 30131313 02000000 50151515 60161616"+
			"00 0001 70171717 80181818 90191919 3412 7856"+
			"01 8000 a01a1a1a b01b1b1b c01c1c1c bc9a f0de",
		"f3f2f1f0 02"+
			"24232221 2500 01 82720200 00060000 0200 10000080 01000000 3a393837 00000000"+
			"4241403f 4300 00 48470a00 00020000 0100 00100080 01020000")
}

// OL1: of no machine, whichever the version is.
func TestEncodeOfNoMachine(t *testing.T) {
	for _, version := range []int{math.MinInt, -3, -1, 0, 1, 2, 3, 4, math.MaxInt} {
		if b, err := old.Encode(nil, version); len(b) != 0 || errno(err) != api.ErrArg {
			t.Errorf("Encode of nil, version %d: %x, %v", version, b, err)
		}
	}
}

// OL1: of a version that is none.
func TestEncodeOfOtherVersions(t *testing.T) {
	x := everyNumber().machine(t)
	for _, version := range []int{math.MinInt, math.MinInt32, -255, -3, -2, -1, 0, 4, 5, 10, 14, 257, 258, 259, 1 << 16, math.MaxInt32, math.MaxInt} {
		if b, err := old.Encode(x, version); len(b) != 0 || errno(err) != api.ErrArg {
			t.Errorf("Encode of version %d: %x, %v", version, b, err)
		}
	}
	for _, version := range []int{1, 2, 3} {
		if b, err := old.Encode(x, version); len(b) == 0 || err != nil {
			t.Errorf("Encode of version %d: %d bytes, %v", version, len(b), err)
		}
	}
}

// OL1: of version 3 the file that save.Encode answers.
func TestEncodeOfTheLastVersion(t *testing.T) {
	r := rand.New(rand.NewSource(1))
	machines := []*soc.Machine{newMachine(t, soc.Config{Pages: 1}), everyNumber().machine(t)}
	for range 50 {
		machines = append(machines, someWorld(r).machine(t))
	}
	for i, x := range machines {
		if b := encoded(t, x, 3); !bytes.Equal(b, saved(t, x)) {
			t.Errorf("Encode of machine %d, version 3: %d bytes, not %d, or other ones", i, len(b), len(saved(t, x)))
		}
	}
}

// OL1: none panics of a machine that no call answered; none of the files becomes a machine.
func TestEncodeOfMachineOfNothing(t *testing.T) {
	for version, want := range map[int]api.Errno{1: api.ErrForm, 2: api.ErrForm, 3: api.ErrState} {
		isRefused(t, fmt.Sprintf("a machine of nothing, version %d", version), encoded(t, &soc.Machine{}, version), want)
	}
}

// OL1: any machines; they stay as they are, and what is answered shares nothing with another answer.
func TestEncodeByChance(t *testing.T) {
	r := rand.New(rand.NewSource(2))
	for i := range 300 {
		w := someWorld(r)
		x := w.machine(t)
		x.Mem().Harvest()
		must(t, x.Mem().Write(0, w.m[:7]))
		writes, before := x.Mem().Writes(), x.Clone()
		for version := 1; version <= 3; version++ {
			b := encoded(t, x, version)
			if want := fileOf(t, uint32(version), sections(t, w, version)); !bytes.Equal(b, want) {
				t.Fatalf("world %d, version %d: %d bytes, not %d, or other ones", i, version, len(b), len(want))
			}
			fill(encoded(t, x, version), 0xee)
			if !bytes.Equal(encoded(t, x, version), b) {
				t.Fatalf("world %d, version %d: an answer shares memory", i, version)
			}
		}
		if !soc.Same(x, before) || told(x.Config(), x.State()) != told(w.c, w.s) || !slices.Equal(x.Mem().Dirty(), []int{0}) || x.Mem().Writes() != writes {
			t.Fatalf("world %d is changed", i)
		}
	}
}

// OL1: the file is that of the machine as it is now, not as it was.
func TestEncodeGoesByNow(t *testing.T) {
	x := everyNumber().machine(t)
	for version := 1; version <= 3; version++ {
		last := encoded(t, x, version)
		for name, change := range map[string]func() error{
			"a tick": func() error { x.Tick(); return nil },
			"a byte": func() error { return x.Put('q') },
			"memory": func() error { v, _ := x.Mem().Load(page, 4); return x.Mem().Store(page, 4, v+1) },
		} {
			must(t, change())
			b := encoded(t, x, version)
			if bytes.Equal(b, last) {
				t.Errorf("version %d behind %s: the same bytes", version, name)
			}
			last = b
		}
	}
}

// OL1, OL2: as much memory as there may be, all of which holds something.
func TestAllPages(t *testing.T) {
	m := make([]byte, 16384*page)
	for i := range 16384 {
		m[i*page+i%page] = byte(i>>6) | 1
	}
	c := soc.Config{Pages: 16384, Sectors: 1 << 20}
	w := world{c, soc.State{B: blk.State{Sectors: 1 << 20}}, m}
	x := w.machine(t)
	for version, size := range map[int]int{1: 263, 2: 433} {
		b := encoded(t, x, version)
		if len(b) != size+len(m) {
			t.Errorf("version %d: %d bytes, not %d", version, len(b), size+len(m))
		}
		y, err := old.Read(b)
		if err != nil || !soc.Same(y, w.of(version).machine(t)) {
			t.Errorf("version %d: Read: %v, or another machine", version, err)
		}
	}
}
