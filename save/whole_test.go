package save_test

import (
	"bytes"
	"fmt"
	"math/rand"
	"slices"
	"testing"

	"pinnace/api"
	"pinnace/blk"
	"pinnace/bus"
	"pinnace/dma"
	"pinnace/ring"
	"pinnace/save"
	"pinnace/soc"
	"pinnace/tlv"
	"pinnace/uart"
	"pinnace/virtio"
)

// wholes are configs and states that may be: at first, with lists of all kinds, and by chance.
func wholes() []held {
	out := []held{{c: soc.Config{Pages: 1}}, {c: soc.Config{Pages: 16384, Sectors: 1 << 20}, s: soc.State{B: blk.State{Sectors: 1 << 20}}}, *withLists()}
	r := rand.New(rand.NewSource(2))
	for range 300 {
		out = append(out, someHeld(r))
	}
	return out
}

// SV1: Whole of Parts is what Parts was made of.
func TestWholeOfParts(t *testing.T) {
	seen := map[string]int{}
	for i, h := range wholes() {
		must(t, soc.Check(h.c, h.s))
		isWhole(t, fmt.Sprintf("state %d", i), save.Parts(h.c, h.s), h.c, h.s)
		isWhole(t, fmt.Sprintf("state %d's plain sections", i), plainParts(h), h.c, h.s)
		seen[fmt.Sprintf("%d writes", len(h.s.Q.L))]++
		seen[fmt.Sprintf("%d requests", len(h.s.B.In))]++
	}
	for n := range 9 {
		if seen[fmt.Sprintf("%d writes", n)] < 10 || seen[fmt.Sprintf("%d requests", n)] < 5 {
			t.Errorf("%d writes, or requests, were seen too seldom: %v", n, seen)
		}
	}
}

// SV1: Whole of bytes by hand.
func TestWholeByHand(t *testing.T) {
	l := save.Parts(soc.Config{Pages: 2, Sectors: 9}, soc.State{H: soc.State{}.H, B: blk.State{}})
	l = instead(l, 2, []byte{1, 2, 3, 4, 5, 6, 7, 8})
	l = with(l, 3, 0, []byte{4, 0, 0, 0x80, 0x11, 0x22, 0x33, 0x44})
	l = with(l, 3, 124, []byte{1, 0, 0, 0, 1})
	l = instead(l, 5, []byte{2, 5, 0x50, 0, 0, 0, 4, 1, 0, 0, 0, 3, 7, 0, 0, 0, 1, 0xff, 0, 0, 0})
	l = instead(l, 8, []byte{1, 0, 0, 0, 'x', 2, 0, 0, 0, 'y', 'z', 1, 2, 3, 4, 5, 6, 1, 3})
	l = with(l, 10, 0, []byte{3})
	l = instead(l, 11, slices.Concat([]byte{1, 9, 0, 0, 0, 1}, []byte{2, 0, 0, 0, 255, 0, 0}, []byte{8, 0, 0, 0, 0, 2, 0, 0, 2, 0},
		[]byte{0, 0x10, 0, 0x80, 0, 2, 0, 0}, []byte{0xff, 0x1f, 0, 0x80, 1, 0, 0, 0}))
	want := soc.State{Ticks: 0x0807060504030201}
	want.H.Pc, want.H.X[1], want.H.X[31], want.H.Wait = 0x80000004, 0x44332211, 1, true
	want.Q.L = []bus.Post{{Dev: 5, At: 0x50, N: 4, Value: 1}, {Dev: 3, At: 7, N: 1, Value: 255}}
	want.U = uart.State{Rx: uart.Fifo{B: [16]byte{'x'}, N: 1}, Tx: uart.Fifo{B: [16]byte{'y', 'z'}, N: 2}, Ier: 1, Lcr: 2, Mcr: 3, Scr: 4, Dll: 5, Dlm: 6, Over: true, Wait: 3}
	want.B = blk.State{P: virtio.State{Status: 3}, Sectors: 9, Bell: true, Next: 9}
	want.B.In = []blk.Req{{ID: 2, Head: 255, Sector: 8, N: 512, L: []ring.Seg{{At: base + page, N: 512, Write: true}, {At: base + 2*page - 1, N: 1, Write: true}}}}
	isWhole(t, "sections by hand", l, soc.Config{Pages: 2, Sectors: 9}, want)
}

// SV1: sections whose tags are not 1 to 13, in this order.
func TestWholeOfOtherTags(t *testing.T) {
	l := save.Parts(withLists().c, withLists().s)
	isRefused(t, "nil", nil, api.ErrOrder)
	isRefused(t, "nothing", []tlv.Section{}, api.ErrOrder)
	for i := range l {
		isRefused(t, fmt.Sprintf("all but %d", i+1), slices.Delete(copied(l), i, i+1), api.ErrOrder)
		isRefused(t, fmt.Sprintf("all, and %d again", i+1), append(copied(l), l[i]), api.ErrOrder)
		isRefused(t, fmt.Sprintf("all, with %d twice", i+1), slices.Insert(copied(l), i, l[i]), api.ErrOrder)
		for k := range l {
			if k == i {
				continue
			}
			other := copied(l)
			other[i], other[k] = other[k], other[i]
			isRefused(t, fmt.Sprintf("%d and %d changed", i+1, k+1), other, api.ErrOrder)
			other = copied(l)
			other[i] = l[k]
			isRefused(t, fmt.Sprintf("%d instead of %d", k+1, i+1), other, api.ErrOrder)
		}
		for _, tag := range []uint32{0, 14, 256 + uint32(i) + 1, 1<<31 + uint32(i) + 1, 0xffffffff} {
			other := copied(l)
			other[i].Tag = tag
			isRefused(t, fmt.Sprintf("the tag %d instead of %d", tag, i+1), other, api.ErrOrder)
		}
		isRefused(t, fmt.Sprintf("the first %d", i), l[:i], api.ErrOrder)
	}
	isRefused(t, "one too many", append(copied(l), tlv.Section{Tag: 14, B: make([]byte, 4)}), api.ErrOrder)
	isRefused(t, "the tag 0 ahead", slices.Insert(copied(l), 0, tlv.Section{}), api.ErrOrder)
	for _, by := range []uint32{1, 2, 0xffffffff} {
		other := copied(l)
		for i := range other {
			other[i].Tag += by
		}
		isRefused(t, "all tags further", other, api.ErrOrder)
	}
	slices.Reverse(l)
	isRefused(t, "the last one first", l, api.ErrOrder)
}

// SV1: each section a byte too short, a byte too long, and more of both.
func TestWholeOfOtherLengths(t *testing.T) {
	for _, h := range wholes()[:30] {
		l := save.Parts(h.c, h.s)
		for i, s := range l {
			for _, more := range [][]byte{{0}, {1}, {255}, {0, 0, 0, 0}, s.B, bytes.Repeat([]byte{0}, 5000)} {
				isRefused(t, fmt.Sprintf("the section %d, and %d bytes more", i+1, len(more)), instead(l, i+1, slices.Concat(s.B, more)), api.ErrForm)
			}
			for size := range s.B {
				if size == len(s.B)-1 || size < 6 || size%7 == 0 {
					isRefused(t, fmt.Sprintf("%d bytes of the section %d", size, i+1), instead(l, i+1, s.B[:size]), api.ErrForm)
				}
			}
		}
	}
}

// truthSpots are the spots of all truths, in a state with lists.
func truthSpots() []spot {
	return slices.DeleteFunc(append(spots(5), listSpots()...), func(p spot) bool { return !p.isTruth })
}

// SV1: a truth is 0 or 1.
func TestWholeOfOtherTruths(t *testing.T) {
	h := withLists()
	l := save.Parts(h.c, h.s)
	if len(truthSpots()) != 12 {
		t.Fatalf("%d truths", len(truthSpots()))
	}
	for _, p := range truthSpots() {
		for v := range 256 {
			_, _, err := save.Whole(with(l, p.tag, p.at, []byte{byte(v)}))
			if is := errno(err) == api.ErrForm; is != (v > 1) {
				t.Errorf("%s of the section %d being %d: %v", p.name, p.tag, v, err)
			}
		}
	}
}

// SV1: what is no truth is of its form, whatever it is; that it may not be is another error.
func TestWholeOfOtherNumbers(t *testing.T) {
	h := withLists()
	l := save.Parts(h.c, h.s)
	for _, p := range append(spots(5), listSpots()...) {
		for _, c := range []byte{0, 1, 2, 0x7f, 0x80, 0xff} {
			other := with(l, p.tag, p.at, bytes.Repeat([]byte{c}, p.size))
			_, _, err := save.Whole(other)
			if want := soc.Check(changed(p, h, other)); !p.isTruth && (errno(err) == api.ErrForm || (err == nil) != (want == nil)) {
				t.Errorf("%s of the section %d being all %x: %v; and Check: %v", p.name, p.tag, c, err, want)
			}
		}
	}
}

// changed are a config and a state in which the number at a spot is the one that sections have there.
func changed(p spot, h *held, l []tlv.Section) (soc.Config, soc.State) {
	out := h.own()
	v := uint64(0)
	for i := range p.size {
		v |= uint64(l[p.tag-1].B[p.at+i]) << (8 * i)
	}
	p.set(out, v)
	out.s.B.Sectors = out.c.Sectors
	return out.c, out.s
}

// withCounts are the sections of a state that may be, with so many writes, requests, parts of the last request, and bytes
// in both fifos.
func withCounts(writes, requests, parts, rx, tx int) []tlv.Section {
	h := *withLists()
	l := save.Parts(h.c, h.s)
	b := []byte{byte(writes)}
	for i := range writes {
		b = append(b, 4, byte(4*i), 0, 0, 0, 4, 1, 2, 3, 4)
	}
	l = instead(l, 5, b)
	l = instead(l, 8, slices.Concat(little(uint64(rx), 4), bytes.Repeat([]byte{'r'}, rx), little(uint64(tx), 4), bytes.Repeat([]byte{'t'}, tx), make([]byte, 8)))
	b = []byte{0, 0, 0, 0, 9, byte(requests)}
	for i := range requests {
		n := 1
		if i == requests-1 {
			n = parts
		}
		b = slices.Concat(b, little(uint64(i), 4), []byte{1, 0, 1, 0, 0, 0, 0, 0, 2, 0, 0}, little(uint64(n), 2))
		b = append(b, bytes.Repeat([]byte{5, 0, 0, 0x80, 1, 0, 0, 0}, n)...)
	}
	return instead(l, 11, b)
}

// SV1: at most 8 writes, 8 requests, 256 parts, 16 bytes of a fifo, though all bytes of one more are there.
func TestWholeOfCounts(t *testing.T) {
	for _, c := range []struct {
		writes, requests, parts, rx, tx int
		want                            api.Errno
	}{
		{0, 0, 0, 0, 0, 0}, {8, 8, 256, 16, 16, 0}, {8, 0, 0, 0, 0, 0}, {0, 8, 1, 0, 0, 0}, {0, 1, 256, 0, 0, 0}, {0, 0, 0, 16, 0, 0}, {0, 0, 0, 0, 16, 0},
		{9, 0, 0, 0, 0, api.ErrForm}, {0, 9, 1, 0, 0, api.ErrForm}, {0, 1, 257, 0, 0, api.ErrForm}, {0, 0, 0, 17, 0, api.ErrForm}, {0, 0, 0, 0, 17, api.ErrForm},
		{255, 0, 0, 0, 0, api.ErrForm}, {0, 255, 1, 0, 0, api.ErrForm}, {0, 1, 65535, 0, 0, api.ErrForm}, {0, 0, 0, 300, 0, api.ErrForm}, {0, 8, 257, 0, 0, api.ErrForm},
	} {
		l := withCounts(c.writes, c.requests, c.parts, c.rx, c.tx)
		if c.want != 0 {
			isRefused(t, fmt.Sprintf("%+v", c), l, c.want)
			continue
		}
		_, s, err := save.Whole(l)
		if err != nil || len(s.Q.L) != c.writes || len(s.B.In) != c.requests || s.U.Rx.N != c.rx || s.U.Tx.N != c.tx {
			t.Errorf("%+v: %v, %+v", c, err, s)
		}
		if n := c.requests; err == nil && n > 0 && len(s.B.In[n-1].L) != c.parts {
			t.Errorf("%+v: the last request has %d parts", c, len(s.B.In[n-1].L))
		}
	}
}

// SV1: counts that are greater than what is there, or less.
func TestWholeOfWrongCounts(t *testing.T) {
	l := withCounts(3, 3, 4, 5, 6)
	isWholeAt := func(tag, at, n int, want api.Errno) {
		t.Helper()
		other := with(l, tag, at, []byte{byte(n)})
		if _, _, err := save.Whole(other); errno(err) != want {
			t.Errorf("the section %d with a count of %d: %v, not %v", tag, n, err, want)
		}
	}
	isWholeAt(5, 0, 3, 0)
	isWholeAt(8, 0, 5, 0)
	isWholeAt(11, 5, 3, 0)
	for _, n := range []int{0, 1, 2, 4, 5, 8, 9, 255} {
		isWholeAt(5, 0, n, api.ErrForm)
		isWholeAt(11, 5, n, api.ErrForm)
	}
	for _, n := range []int{0, 1, 3, 4, 6, 7, 16, 17, 255} {
		isWholeAt(8, 0, n, api.ErrForm)
		isWholeAt(8, 9, n+1, api.ErrForm)
	}
	for _, n := range []int{0, 3, 4, 200} {
		isWholeAt(11, 21, n, api.ErrForm)
	}
	isWholeAt(11, 22, 1, api.ErrForm)
	for at := 1; at < 4; at++ {
		isWholeAt(8, at, 1, api.ErrForm)
		isWholeAt(8, at, 255, api.ErrForm)
	}
}

// oddStates are changes by which a state can't be the config's.
func oddStates() map[string]func(h *held) {
	part := func(at uint32, n int) []ring.Seg { return []ring.Seg{{At: at, N: n, Write: true}} }
	return map[string]func(h *held){
		"no page":                       func(h *held) { h.c.Pages = 0 },
		"too many pages":                func(h *held) { h.c.Pages = 16385 },
		"2^32 - 1 pages":                func(h *held) { h.c.Pages = -1 },
		"too many sectors":              func(h *held) { h.c.Sectors = 1<<20 + 1 },
		"fewer sectors than a request":  func(h *held) { h.c.Sectors = 999 },
		"fewer pages than a request":    func(h *held) { h.c.Pages = 1 },
		"Pc":                            func(h *held) { h.s.H.Pc++ },
		"Status":                        func(h *held) { h.s.H.C.Status = 1 },
		"Enable":                        func(h *held) { h.s.H.C.Enable = 1 },
		"Vector":                        func(h *held) { h.s.H.C.Vector = 2 },
		"Epc":                           func(h *held) { h.s.H.C.Epc = 2 },
		"a write to nobody":             func(h *held) { h.s.Q.L[1].Dev = 0 },
		"a write to memory":             func(h *held) { h.s.Q.L[1].Dev = 7 },
		"a write's place":               func(h *held) { h.s.Q.L[0].At = 256 },
		"a write's odd place":           func(h *held) { h.s.Q.L[0].At = 2 },
		"a write's bytes":               func(h *held) { h.s.Q.L[0].N = 1 },
		"a write of no bytes":           func(h *held) { h.s.Q.L[1].N = 0 },
		"Soft":                          func(h *held) { h.s.C.Soft = 2 },
		"a priority":                    func(h *held) { h.s.P.Priority[7] = 8 },
		"the source 0":                  func(h *held) { h.s.P.Enable = 1 },
		"Threshold":                     func(h *held) { h.s.P.Threshold = 8 },
		"Pending":                       func(h *held) { h.s.P.Pending = 0x100 },
		"Busy":                          func(h *held) { h.s.P.Busy = 1 << 31 },
		"Ier":                           func(h *held) { h.s.U.Ier = 8 },
		"Mcr":                           func(h *held) { h.s.U.Mcr = 32 },
		"the port's Wait":               func(h *held) { h.s.U.Wait = 4 },
		"a Wait of nothing":             func(h *held) { h.s.U.Tx, h.s.U.Wait = uart.Fifo{}, 1 },
		"Code":                          func(h *held) { h.s.D.Code = 4 },
		"Steps":                         func(h *held) { h.s.D.Steps = 65 },
		"an order of none":              func(h *held) { h.s.D = dma.State{Have: true, Left: 1} },
		"an order of 0 bytes":           func(h *held) { h.s.D = dma.State{Code: 1, Have: true} },
		"an order of too many":          func(h *held) { h.s.D = dma.State{Code: 1, Have: true, Left: 65537} },
		"From of none":                  func(h *held) { h.s.D.From = 1 },
		"Next of none":                  func(h *held) { h.s.D.Next = 1 },
		"it asks, but is not over":      func(h *held) { h.s.D = dma.State{Code: 1, Asks: true} },
		"the disk's Status":             func(h *held) { h.s.B.P.Status |= 16 },
		"the disk's Irq":                func(h *held) { h.s.B.P.Irq = 4 },
		"requests of one that is reset": func(h *held) { h.s.B.P.Status = 0 },
		"what was settled":              func(h *held) { h.s.N.P.Status = 8 },
		"a ring's Size":                 func(h *held) { h.s.N.P.Q[1].R.Size = 257 },
		"a ring that is Ready":          func(h *held) { h.s.B.P.Q[1] = virtio.Queue{Ready: true, R: ring.Ring{Size: 3}} },
		"a ring's Desc":                 func(h *held) { h.s.N.P.Q[0] = virtio.Queue{Ready: true, R: ring.Ring{Size: 4, Desc: 8}} },
		"one ID twice":                  func(h *held) { h.s.B.In[1].ID = 7 },
		"Next is one of these":          func(h *held) { h.s.B.Next = 8 },
		"a Head":                        func(h *held) { h.s.B.In[0].Head = 256 },
		"N of 0":                        func(h *held) { h.s.B.In[1].N = 0 },
		"an odd N":                      func(h *held) { h.s.B.In[1].N = 1000 },
		"a great N":                     func(h *held) { h.s.B.In[1].N = 1<<20 + 512 },
		"N below 0":                     func(h *held) { h.s.B.In[1].N = -512 },
		"a Sector":                      func(h *held) { h.s.B.In[1].Sector++ },
		"no parts of a Write":           func(h *held) { h.s.B.In[1].L = nil },
		"parts of fewer bytes":          func(h *held) { h.s.B.In[0].L[1].N-- },
		"parts of more bytes":           func(h *held) { h.s.B.In[0].L[0].N++ },
		"a part below 0":                func(h *held) { h.s.B.In[0].L[0].N, h.s.B.In[0].L[1].N = 514, -1 },
		"a part behind memory":          func(h *held) { h.s.B.In[1].L = part(base+3*page, 1) },
		"a part ahead of memory":        func(h *held) { h.s.B.In[1].L = part(base-1, 1) },
	}
}

// SV1: states that can't be the config's.
func TestWholeOfOddStates(t *testing.T) {
	for name, change := range oddStates() {
		h := withLists()
		change(h)
		isRefused(t, name, save.Parts(h.c, h.s), api.ErrState)
	}
}

// SV1: which error comes first.
func TestWholeErrorsInOrder(t *testing.T) {
	for name, change := range oddStates() {
		h := withLists()
		change(h)
		l := save.Parts(h.c, h.s)
		for tag := 1; tag <= 13; tag++ {
			short := instead(l, tag, l[tag-1].B[1:])
			if tag == 5 || tag == 8 || tag == 11 {
				short = instead(l, tag, append(slices.Clone(l[tag-1].B), 0))
			}
			isRefused(t, fmt.Sprintf("%s, with the section %d not of its form", name, tag), short, api.ErrForm)
			short[(tag+5)%13].Tag = 99
			isRefused(t, fmt.Sprintf("%s, with the section %d not of its form, and another tag", name, tag), short, api.ErrOrder)
			isRefused(t, fmt.Sprintf("%s, with the section %d not of its form, and one too many", name, tag), append(instead(l, tag, nil), tlv.Section{Tag: 14}), api.ErrOrder)
		}
		isRefused(t, name+", without the last section", l[:12], api.ErrOrder)
	}
}

// SV1: sections of which some bytes are other ones, by chance: each is told as the chapter's words have it.
func TestWholeByChance(t *testing.T) {
	r := rand.New(rand.NewSource(3))
	seen := map[api.Errno]int{}
	for range 20000 {
		h := someHeld(r)
		l := save.Parts(h.c, h.s)
		for range 1 + r.Intn(2) {
			spoil(r, l)
		}
		want, number := plainWhole(l)
		c, s, err := save.Whole(l)
		if errno(err) != number || told(c, s) != told(want.c, want.s) {
			t.Fatalf("Whole of %x: %v, not %v:\n%s\nnot\n%s", l, err, number, told(c, s), told(want.c, want.s))
		}
		seen[number]++
	}
	for _, n := range []api.Errno{0, api.ErrForm, api.ErrState, api.ErrOrder} {
		if seen[n] < 200 {
			t.Errorf("%v was seen %d times", n, seen[n])
		}
	}
}

// spoil changes something in sections.
func spoil(r *rand.Rand, l []tlv.Section) {
	s := &l[r.Intn(len(l))]
	at := r.Intn(len(s.B) + 1)
	switch n := r.Intn(20); {
	case n == 0:
		s.Tag = uint32(r.Intn(15))
	case n == 1:
		s.B = s.B[:at]
	case n == 2:
		s.B = slices.Insert(slices.Clone(s.B), at, byte(r.Intn(3)))
	case n < 12 && at < len(s.B):
		s.B[at] = byte(r.Intn(256))
	case at < len(s.B):
		s.B[at] = byte(r.Intn(4))
	}
}

// SV1: what is handed in to Whole is neither changed nor kept, and no two lists that it answers share memory.
func TestWholeAnswersNewMemory(t *testing.T) {
	l := withCounts(8, 8, 256, 16, 16)
	mine := copied(l)
	c, s, err := save.Whole(mine)
	must(t, err)
	if !sameSections(mine, l) {
		t.Error("Whole changed what was handed in")
	}
	before := told(c, s)
	for i := range mine {
		fill(mine[i].B, 0x5a)
	}
	if told(c, s) != before {
		t.Error("what Whole answers shares memory with what was handed in")
	}
	_, other, err := save.Whole(l)
	must(t, err)
	fillState(&other)
	if told(c, s) != before {
		t.Error("two answers of Whole share memory")
	}
	for i := range s.B.In {
		s.B.In[i].L = fillParts(s.B.In[i].L, i)
	}
	for i := len(s.B.In) - 1; i >= 0; i-- {
		for _, p := range s.B.In[i].L[:cap(s.B.In[i].L)] {
			if p.N != i {
				t.Fatalf("two lists of one answer share memory: %d", i)
			}
		}
		fillParts(s.B.In[i].L, 1000)
	}
	for i := range s.B.In {
		fillParts(s.B.In[i].L, i)
		for k := range i {
			if s.B.In[k].L[:cap(s.B.In[k].L)][0].N != k {
				t.Fatalf("two lists of one answer share memory: %d and %d", k, i)
			}
		}
	}
}

// fillParts writes to parts, and to the room behind them.
func fillParts(l []ring.Seg, n int) []ring.Seg {
	room := l[:cap(l)]
	for i := range room {
		room[i] = ring.Seg{N: n}
	}
	return l
}

// fillState writes to all lists of a state.
func fillState(s *soc.State) {
	for i := range s.B.In {
		fillParts(s.B.In[i].L, -1)
	}
	for i := range s.B.In[:cap(s.B.In)] {
		s.B.In[:cap(s.B.In)][i] = blk.Req{}
	}
	for i := range s.Q.L[:cap(s.Q.L)] {
		s.Q.L[:cap(s.Q.L)][i] = bus.Post{}
	}
}
