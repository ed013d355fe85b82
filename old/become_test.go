package old_test

import (
	"bytes"
	"fmt"
	"math/rand"
	"slices"
	"testing"

	"pinnace/api"
	"pinnace/blk"
	"pinnace/bus"
	"pinnace/dma"
	"pinnace/nic"
	"pinnace/old"
	"pinnace/ring"
	"pinnace/soc"
	"pinnace/uart"
	"pinnace/virtio"
)

// spot is where a number stands in an elder file: in which section, and from which byte on.
type spot struct{ tag, at int }

// none is the spot of a number that a version does not hold.
var none = spot{}

// held is a number of a state: its spots in files of both elder versions, with how many bytes, another one that it may
// be, and what it becomes where it is not held.
type held struct {
	name          string
	first, second spot
	size          int
	v             uint64
	becomes       uint64
	of            func(s *soc.State) any
}

// got is the number, or the truth, that a pointer points to.
func got(p any) uint64 {
	switch p := p.(type) {
	case *bool:
		if *p {
			return 1
		}
		return 0
	case *byte:
		return uint64(*p)
	case *uint16:
		return uint64(*p)
	case *uint32:
		return uint64(*p)
	case *uint64:
		return *p
	case *int:
		return uint64(*p)
	}
	panic("no number")
}

// hartNumbers are those of the hart.
func hartNumbers() []held {
	out := []held{
		{"Pc", spot{2, 0}, spot{3, 0}, 4, 0x91929394, 0, func(s *soc.State) any { return &s.H.Pc }},
		{"Wait", none, spot{3, 128}, 1, 0, 0, func(s *soc.State) any { return &s.H.Wait }},
		{"Status", spot{3, 0}, spot{4, 0}, 4, 8, 0, func(s *soc.State) any { return &s.H.C.Status }},
		{"Enable", spot{3, 4}, spot{4, 4}, 4, 0x808, 0, func(s *soc.State) any { return &s.H.C.Enable }},
		{"Vector", spot{3, 8}, spot{4, 8}, 4, 0x9596979c, 0, func(s *soc.State) any { return &s.H.C.Vector }},
		{"Scratch", none, spot{4, 12}, 4, 0x999a9b9c, 0, func(s *soc.State) any { return &s.H.C.Scratch }},
		{"Epc", spot{3, 12}, spot{4, 16}, 4, 0x9d9e9f98, 0, func(s *soc.State) any { return &s.H.C.Epc }},
		{"Cause", spot{3, 16}, spot{4, 20}, 4, 0x91919192, 0, func(s *soc.State) any { return &s.H.C.Cause }},
		{"Value", none, spot{4, 24}, 4, 0x93939394, 0, func(s *soc.State) any { return &s.H.C.Value }},
		{"Count", none, none, 8, 0x9191929293939494, 0, func(s *soc.State) any { return &s.H.C.Count }},
	}
	for i := 1; i < 32; i++ {
		out = append(out, held{fmt.Sprintf("X[%d]", i), spot{2, 4 * i}, spot{3, 4 * i}, 4, 0x81828384, 0, func(s *soc.State) any { return &s.H.X[i] }})
	}
	return out
}

// deviceNumbers are those of the devices, but for the disk's setting. Ticks becomes what Time is in the state of every
// number.
func deviceNumbers() []held {
	out := []held{
		{"Ticks", none, spot{2, 0}, 8, 0x8182838485868788, 0x1213141516171819, func(s *soc.State) any { return &s.Ticks }},
		{"Soft", none, spot{5, 0}, 1, 0, 0, func(s *soc.State) any { return &s.C.Soft }},
		{"Cmp", spot{4, 8}, spot{5, 9}, 8, 0x8182838485868788, 0, func(s *soc.State) any { return &s.C.Cmp }},
		{"the sources that are enabled", none, spot{6, 7}, 4, 0xc4, 0, func(s *soc.State) any { return &s.P.Enable }},
		{"the threshold", none, spot{6, 11}, 1, 2, 0, func(s *soc.State) any { return &s.P.Threshold }},
		{"the sources that wait", none, spot{6, 12}, 4, 0xa2, 0, func(s *soc.State) any { return &s.P.Pending }},
		{"the sources that are served", none, spot{6, 16}, 4, 0x5c, 0, func(s *soc.State) any { return &s.P.Busy }},
		{"a byte that came", spot{5, 4}, spot{7, 4}, 1, 0xe1, 0, func(s *soc.State) any { return &s.U.Rx.B[0] }},
		{"the next one", spot{5, 5}, spot{7, 5}, 1, 0xe2, 0, func(s *soc.State) any { return &s.U.Rx.B[1] }},
		{"a byte that goes out", spot{5, 10}, spot{7, 10}, 1, 0xe3, 0, func(s *soc.State) any { return &s.U.Tx.B[0] }},
		{"the last one", spot{5, 12}, spot{7, 12}, 1, 0xe4, 0, func(s *soc.State) any { return &s.U.Tx.B[2] }},
		{"Ier", spot{5, 13}, spot{7, 13}, 1, 6, 0, func(s *soc.State) any { return &s.U.Ier }},
		{"Lcr", none, spot{7, 14}, 1, 0xe5, 3, func(s *soc.State) any { return &s.U.Lcr }},
		{"Mcr", none, spot{7, 15}, 1, 6, 0, func(s *soc.State) any { return &s.U.Mcr }},
		{"Scr", none, spot{7, 16}, 1, 0xe6, 0, func(s *soc.State) any { return &s.U.Scr }},
		{"Dll", none, spot{7, 17}, 1, 0xe7, 0, func(s *soc.State) any { return &s.U.Dll }},
		{"Dlm", none, spot{7, 18}, 1, 0xe8, 0, func(s *soc.State) any { return &s.U.Dlm }},
		{"Over", none, spot{7, 19}, 1, 0, 0, func(s *soc.State) any { return &s.U.Over }},
		{"the port's Wait", none, spot{7, 20}, 1, 1, 0, func(s *soc.State) any { return &s.U.Wait }},
		{"Bell", none, none, 1, 1, 1, func(s *soc.State) any { return &s.B.Bell }},
		{"Next", none, spot{9, 0}, 4, 0xe9eaebec, 0, func(s *soc.State) any { return &s.B.Next }},
		{"the engine's Head", none, none, 4, 5, 0, func(s *soc.State) any { return &s.D.Head }},
		{"the engine's At", none, none, 4, 5, 0, func(s *soc.State) any { return &s.D.At }},
		{"the engine's Steps", none, none, 1, 5, 0, func(s *soc.State) any { return &s.D.Steps }},
		{"the engine's Moved", none, none, 4, 5, 0, func(s *soc.State) any { return &s.D.Moved }},
		{"the engine's From", none, none, 4, 5, 0, func(s *soc.State) any { return &s.D.From }},
		{"the engine's To", none, none, 4, 5, 0, func(s *soc.State) any { return &s.D.To }},
		{"the engine's Left", none, none, 4, 5, 0, func(s *soc.State) any { return &s.D.Left }},
		{"the engine's Next", none, none, 4, 5, 0, func(s *soc.State) any { return &s.D.Next }},
		{"the net device's Bell", none, none, 1, 0, 0, func(s *soc.State) any { return &s.N.Bell }},
		{"the net device's Lost", none, none, 4, 5, 0, func(s *soc.State) any { return &s.N.Lost }},
	}
	for i := 1; i < 8; i++ {
		out = append(out, held{fmt.Sprintf("the priority of %d", i), none, spot{6, i - 1}, 1, uint64(i) ^ 7, 0, func(s *soc.State) any { return &s.P.Priority[i] }})
	}
	return out
}

// settingSpots are those of how a device is set up; the section is 0, if it is not held.
func settingSpots(name string, tag int, p func(s *soc.State) *virtio.State) []held {
	var out []held
	add := func(what string, at, size int, v uint64, of func(p *virtio.State) any) {
		where := spot{tag, at}
		if tag == 0 {
			where = none
		}
		out = append(out, held{name + what, none, where, size, v, 0, func(s *soc.State) any { return of(p(s)) }})
	}
	add("Status", 0, 4, 0x45, func(p *virtio.State) any { return &p.Status })
	add("FeatSel", 4, 4, 0x81828384, func(p *virtio.State) any { return &p.FeatSel })
	add("DrvSel", 8, 4, 0x81828384, func(p *virtio.State) any { return &p.DrvSel })
	add("Sel", 12, 4, 0x81828384, func(p *virtio.State) any { return &p.Sel })
	add("Irq", 16, 4, 1, func(p *virtio.State) any { return &p.Irq })
	add("Drv", 20, 4, 0x81828384, func(p *virtio.State) any { return &p.Drv[0] })
	add("Drv's second", 24, 4, 0x81828384, func(p *virtio.State) any { return &p.Drv[1] })
	for i := range 2 {
		at := 28 + 19*i
		size := []uint64{0xff, 0x40}[i]
		q := fmt.Sprintf("the queue %d's ", i)
		add(q+"Size", at+1, 2, size, func(p *virtio.State) any { return &p.Q[i].R.Size })
		add(q+"Desc", at+3, 4, 0x81828380, func(p *virtio.State) any { return &p.Q[i].R.Desc })
		add(q+"Avail", at+7, 4, 0x81828380, func(p *virtio.State) any { return &p.Q[i].R.Avail })
		add(q+"Used", at+11, 4, 0x81828380, func(p *virtio.State) any { return &p.Q[i].R.Used })
		add(q+"Last", at+15, 2, 0x8182, func(p *virtio.State) any { return &p.Q[i].R.Last })
		add(q+"Put", at+17, 2, 0x8182, func(p *virtio.State) any { return &p.Q[i].R.Put })
	}
	add("the queue 1's Ready", 28+19, 1, 0, func(p *virtio.State) any { return &p.Q[1].Ready })
	return out
}

// requestNumbers are those of requests that wait.
func requestNumbers() []held {
	in := func(name string, at, size int, v uint64, of func(l []blk.Req) any) held {
		return held{"a request's " + name, none, spot{9, at}, size, v, 0, func(s *soc.State) any { return of(s.B.In) }}
	}
	return []held{
		in("ID", 5, 4, 0x81828384, func(l []blk.Req) any { return &l[0].ID }),
		in("Head", 9, 2, 0xfe, func(l []blk.Req) any { return &l[0].Head }),
		in("Sector", 12, 4, 0x00081828, func(l []blk.Req) any { return &l[0].Sector }),
		in("N", 16, 4, 0x0400, func(l []blk.Req) any { return &l[0].N }),
		in("place", 22, 4, 0x80000123, func(l []blk.Req) any { return &l[0].L[0].At }),
		in("bytes", 26, 4, 0x0234, func(l []blk.Req) any { return &l[0].L[0].N }),
		in("second place", 30, 4, 0x81828384, func(l []blk.Req) any { return &l[0].L[1].At }),
		in("second ID", 38, 4, 0x81828384, func(l []blk.Req) any { return &l[1].ID }),
		in("second Head", 42, 2, 0xfe, func(l []blk.Req) any { return &l[1].Head }),
		in("second Sector", 45, 4, 0x00081828, func(l []blk.Req) any { return &l[1].Sector }),
		in("last place", 55, 4, 0x80000123, func(l []blk.Req) any { return &l[1].L[0].At }),
	}
}

// numbers are all numbers of a state, but for Time (which Ticks goes by) and Sectors.
func numbers() []held {
	return slices.Concat(hartNumbers(), deviceNumbers(), requestNumbers(),
		settingSpots("the disk's ", 8, func(s *soc.State) *virtio.State { return &s.B.P }),
		settingSpots("the net device's ", 0, func(s *soc.State) *virtio.State { return &s.N.P }))
}

// OL1, OL3: each number stands at its place, with its bytes, and changes nothing but these; it is that number again in
// the machine that the file becomes. One that a version does not hold changes nothing, and becomes what the words say.
func TestNumberByNumber(t *testing.T) {
	base := everyNumber()
	for _, h := range numbers() {
		w := base.own()
		if got(h.of(&w.s)) == h.v {
			t.Fatalf("%s: it is %x already", h.name, h.v)
		}
		put(h.of(&w.s), h.v)
		for version, where := range map[int]spot{1: h.first, 2: h.second} {
			want := sections(t, base, version)
			becomes := h.becomes
			if where != none {
				want = with(want, where.tag, where.at, lay(h.v)[:h.size]...)
				becomes = h.v
			}
			b := encoded(t, w.machine(t), version)
			if !sameSections(sectionsOf(t, uint32(version), b), want) {
				t.Errorf("%s being %x, version %d: other bytes", h.name, h.v, version)
			}
			x, err := old.Read(b)
			must(t, err)
			isWorld(t, h.name, x, w.of(version))
			s := x.State()
			if len(s.B.In) == 0 && h.second.tag == 9 && h.second.at > 0 {
				continue // of version 1 no request is there
			}
			if v := got(h.of(&s)); v != becomes {
				t.Errorf("%s being %x becomes %x of version %d, not %x", h.name, h.v, v, version, becomes)
			}
		}
	}
}

// OL3: Ticks is as Time is.
func TestTicksGoByTime(t *testing.T) {
	for _, time := range []uint64{0, 1, 0xff, 0x100, 1<<32 - 1, 1 << 32, 0x8182838485868788, 1<<64 - 1} {
		w := everyNumber()
		w.s.C.Time = time
		for version, want := range map[int]uint64{1: time, 2: 0x0123456789abcdef, 3: 0x0123456789abcdef} {
			x, err := old.Read(encoded(t, w.machine(t), version))
			must(t, err)
			if s := x.State(); s.Ticks != want || s.C.Time != time {
				t.Errorf("Time %d, version %d: Ticks is %d, and Time %d", time, version, s.Ticks, s.C.Time)
			}
		}
	}
}

// OL3: of version 1 no sectors are held, and no disk; of version 2 both are, but for the bell, which has rung.
func TestDisk(t *testing.T) {
	for _, sectors := range []uint32{0, 1, 255, 0x1234, 1 << 20} {
		for _, bell := range []bool{false, true} {
			c := soc.Config{Pages: 1, Sectors: sectors}
			w := world{c, soc.State{B: blk.State{P: someSetting(3), Sectors: sectors, Bell: bell, Next: 7}}, onePage(1)}
			if sectors > 255 {
				w.s.B.In = []blk.Req{{ID: 3, Sector: sectors - 1, N: 512, Write: true, L: []ring.Seg{{At: base, N: 1, Write: true}}}}
			}
			wants := []blk.State{{Bell: true}, w.s.B, w.s.B}
			wants[1].Bell = true
			for version, want := range wants {
				x, err := old.Read(encoded(t, w.machine(t), version+1))
				must(t, err)
				if s := x.State(); fmt.Sprintf("%+v", s.B) != fmt.Sprintf("%+v", want) || x.Config() != (soc.Config{Pages: 1, Sectors: want.Sectors}) {
					t.Errorf("version %d: %+v, %+v, not %+v", version+1, x.Config(), s.B, want)
				}
			}
		}
	}
}

// OL3: no elder version holds the writes that wait, the engine, or the net device.
func TestWhatNoElderVersionHolds(t *testing.T) {
	for name, change := range map[string]func(s *soc.State){
		"a write that waits": func(s *soc.State) { s.Q.L = []bus.Post{{Dev: 1, At: 0, N: 4, Value: 1}} },
		"eight writes":       func(s *soc.State) { s.Q.L = slices.Repeat([]bus.Post{{Dev: 3, At: 3, N: 1, Value: 9}}, 8) },
		"an engine that is busy": func(s *soc.State) {
			s.D = dma.State{Code: 1, Head: base, At: base, Steps: 1, Have: true, From: base, To: base, Left: 9}
		},
		"an engine that is done":   func(s *soc.State) { s.D = dma.State{Code: 2, Moved: 7, Asks: true} },
		"an engine that failed":    func(s *soc.State) { s.D = dma.State{Code: 3, Head: 1, Steps: 64, Asks: true} },
		"a net device":             func(s *soc.State) { s.N = nic.State{P: someSetting(9)} },
		"a net device's bell":      func(s *soc.State) { s.N = nic.State{Bell: true} },
		"frames that were lost":    func(s *soc.State) { s.N = nic.State{Lost: 1 << 31} },
		"the bell":                 func(s *soc.State) { s.B.Bell = true },
		"how many steps were done": func(s *soc.State) { s.H.C.Count = 1 << 63 },
	} {
		x := newMachine(t, soc.Config{Pages: 1, Sectors: 9}, 0x13)
		w := worldOf(t, x)
		change(&w.s)
		y := w.machine(t)
		if soc.Same(x, y) {
			t.Fatalf("%s: nothing is changed", name)
		}
		for version := 1; version <= 2; version++ {
			b := encoded(t, y, version)
			if !bytes.Equal(b, encoded(t, x, version)) {
				t.Errorf("%s is in the file of version %d", name, version)
			}
			z, err := old.Read(b)
			must(t, err)
			s := z.State()
			if len(s.Q.L) > 0 || s.D != (dma.State{}) || s.N != (nic.State{}) || s.H.C.Count != 0 || !s.B.Bell {
				t.Errorf("%s, version %d, becomes %+v", name, version, s)
			}
		}
	}
}

// OL3: bytes that wait at the port are held by all versions, any number of them.
func TestPortBytes(t *testing.T) {
	for rx := range 17 {
		for _, tx := range []int{0, 1, 7, 15, 16, rx} {
			w := everyNumber()
			w.s.U.Rx, w.s.U.Tx, w.s.U.Wait = uart.Fifo{N: rx}, uart.Fifo{N: tx}, 0
			for i := range 16 {
				if i < rx {
					w.s.U.Rx.B[i] = byte(200 + i)
				}
				if i < tx {
					w.s.U.Tx.B[i] = byte(100 + i)
				}
			}
			for version := 1; version <= 3; version++ {
				isTaken(t, fmt.Sprintf("%d bytes in and %d out", rx, tx), encoded(t, w.machine(t), version), version, w.of(version))
			}
		}
	}
}

// OL3: all bytes of memory are held by all versions, of any number of pages; pages of noughts, too.
func TestMemory(t *testing.T) {
	r := rand.New(rand.NewSource(6))
	for pages := range 20 {
		m := make([]byte, (pages+1)*page)
		for at := range pages + 1 {
			if r.Intn(2) == 0 {
				m[at*page+[]int{0, page - 1, r.Intn(page)}[r.Intn(3)]] = byte(1 + r.Intn(255))
			}
		}
		w := world{c: soc.Config{Pages: pages + 1}, m: m}
		for version := 1; version <= 3; version++ {
			b := encoded(t, w.machine(t), version)
			l := sectionsOf(t, uint32(version), b)
			if version < 3 && !bytes.Equal(l[len(l)-1].B, m) {
				t.Errorf("%d pages, version %d: other bytes", pages+1, version)
			}
			isTaken(t, fmt.Sprintf("%d pages", pages+1), b, version, w.of(version))
		}
	}
}

// OL3: version by version, or at once, a file becomes the same bytes; a file of version 3 stays.
func TestStepByStepOrAtOnce(t *testing.T) {
	r := rand.New(rand.NewSource(7))
	for i := range 100 {
		w := someWorld(r)
		for version := 1; version <= 3; version++ {
			b := encoded(t, w.machine(t), version)
			once, err := old.Upgrade(b)
			must(t, err)
			step := b
			for v := version; v < 5; v++ {
				sectionsOf(t, uint32(min(v, 3)), step)
				again, err := old.Upgrade(step)
				must(t, err)
				x, err := old.Read(step)
				must(t, err)
				if !bytes.Equal(again, once) || !bytes.Equal(saved(t, x), once) {
					t.Fatalf("world %d of version %d, as version %d: other bytes", i, version, v)
				}
				step, err = old.Up(step)
				must(t, err)
			}
			if !bytes.Equal(step, once) {
				t.Fatalf("world %d of version %d: step by step it becomes other bytes", i, version)
			}
			if version == 3 && !bytes.Equal(once, b) {
				t.Fatalf("world %d: a file of version 3 does not stay", i)
			}
		}
	}
}

// OL3: of every machine there is a file of each version, and the machine that it becomes has that file again.
func TestFilesOfWhatFilesBecome(t *testing.T) {
	r := rand.New(rand.NewSource(8))
	worlds := []world{everyNumber(), {c: soc.Config{Pages: 1}, m: make([]byte, page)}}
	for range 150 {
		worlds = append(worlds, someWorld(r))
	}
	for i, w := range worlds {
		x := w.machine(t)
		for version := 1; version <= 3; version++ {
			b := encoded(t, x, version)
			isTaken(t, fmt.Sprintf("world %d", i), b, version, w.of(version))
			y, err := old.Read(b)
			must(t, err)
			for elder := 1; elder <= version; elder++ {
				if !bytes.Equal(encoded(t, y, elder), encoded(t, x, elder)) {
					t.Fatalf("world %d: what its file of version %d becomes has another file of version %d", i, version, elder)
				}
			}
		}
	}
}

// OL2, OL3: what is taken out of an elder file is what the file holds: no two files become the same.
func TestNoTwoFilesBecomeTheSame(t *testing.T) {
	r := rand.New(rand.NewSource(9))
	seen := 0
	for range 400 {
		w, version := someWorld(r), 1+r.Intn(2)
		b := fileOf(t, uint32(version), spoil(r, slices.Clone(sections(t, w, version))))
		x, err := old.Read(b)
		if err != nil {
			continue
		}
		seen++
		if !bytes.Equal(encoded(t, x, version), b) {
			t.Fatalf("a file of version %d becomes a machine that has another one: %s", version, told(x.Config(), x.State()))
		}
	}
	if seen < 100 {
		t.Errorf("%d were taken out", seen)
	}
}

// OL1 to OL3: a machine whose request has as many parts as it may have has a file of each version, which is taken out.
func TestRequestOfMostParts(t *testing.T) {
	w := everyNumber()
	for n := len(w.s.B.In[0].L); n <= 256; n++ {
		if n < 4 || n > 253 {
			x := w.machine(t)
			if got := len(sectionsOf(t, 2, encoded(t, x, 2))[8].B); got != 5+17+17+8*(n+1) {
				t.Errorf("the section 9 has %d bytes of %d parts", got, n)
			}
			name := fmt.Sprintf("a request of %d parts", n)
			isTaken(t, name, encoded(t, x, 1), 1, w.first())
			isTaken(t, name, encoded(t, x, 2), 2, w.second())
			isTaken(t, name, encoded(t, x, 3), 3, w)
		}
		w.s.B.In[0].L = append(w.s.B.In[0].L, ring.Seg{At: base, Write: true})
	}
	if _, err := soc.Load(w.c, w.s, ram(t, w.m)); errno(err) != api.ErrArg {
		t.Errorf("a request of 257 parts: Load answers %v", err)
	}
}
