package old_test

import (
	"bytes"
	"fmt"
	"math/rand"
	"slices"
	"strings"
	"testing"

	"pinnace/api"
	"pinnace/blk"
	"pinnace/old"
	"pinnace/ring"
	"pinnace/save"
	"pinnace/soc"
	"pinnace/tlv"
	"pinnace/uart"
)

// refuses fails the test, if a file of these sections is not refused by each call, by this error.
func refuses(t *testing.T, name string, version int, l []tlv.Section, want api.Errno) {
	t.Helper()
	isRefused(t, fmt.Sprintf("%s, version %d", name, version), fileOf(t, uint32(version), l), want)
}

// hex are the bytes that hexadecimal digits tell.
func hex(s string) []byte {
	s = strings.ReplaceAll(s, " ", "")
	out := make([]byte, len(s)/2)
	for i := range out {
		fmt.Sscanf(s[2*i:2*i+2], "%x", &out[i])
	}
	return out
}

// onePage is a page's bytes, of which the first ones are these.
func onePage(b ...byte) []byte { return append(b, make([]byte, page-len(b))...) }

// hartDigits are the second to last of X: 31 words.
var hartDigits = strings.Repeat("01020304 00000000 ", 15) + "aabbccdd"

// OL2, OL3: a file of version 1 by hand, byte by byte as one of version 2, and of version 3.
func TestUpByHand(t *testing.T) {
	m := onePage(0x13, 5, 0x50)
	first := byHand(1, 6, tags(
		hex("0100"), hex("10000080"+hartDigits), hex("08000000 80080000 01010080 20000080 07000080"),
		hex("1112131415161718 2122232425262728"), hex("01000000 78 02000000 797a 07"), m))
	second := byHand(2, 10, tags(
		hex("01000000 00000000"), hex("1112131415161718"), hex("10000080"+hartDigits+"00"),
		hex("08000000 80080000 01010080 00000000 20000080 07000080 00000000"),
		hex("00 1112131415161718 2122232425262728"), make([]byte, 20), hex("01000000 78 02000000 797a 07 03 00 00 00 00 00 00"),
		make([]byte, 66), make([]byte, 5), m))
	last := byHand(3, 14, tags(
		hex("01000000 00000000"), hex("1112131415161718"), hex("10000080"+hartDigits+"00"),
		hex("08000000 80080000 01010080 00000000 20000080 07000080 00000000 0000000000000000"), hex("00"),
		hex("00 1112131415161718 2122232425262728"), make([]byte, 20), hex("01000000 78 02000000 797a 07 03 00 00 00 00 00 00"),
		make([]byte, 32), make([]byte, 66), hex("01 00000000 00"), make([]byte, 66), make([]byte, 5), lay(uint32(1), uint32(0), m)))
	for i, c := range []struct{ from, next []byte }{{first, second}, {second, last}, {last, last}} {
		if b, err := old.Up(c.from); err != nil || !bytes.Equal(b, c.next) {
			t.Errorf("Up of version %d: %v\n%x, not\n%x", i+1, err, b, c.next)
		}
		if b, err := old.Upgrade(c.from); err != nil || !bytes.Equal(b, last) {
			t.Errorf("Upgrade of version %d: %v\n%x, not\n%x", i+1, err, b, last)
		}
		x, err := old.Read(c.from)
		must(t, err)
		if !bytes.Equal(saved(t, x), last) {
			t.Errorf("Read of version %d is another machine: %s", i+1, told(x.Config(), x.State()))
		}
	}
}

// OL2: bytes that are no file, by the errors of the layer 19.
func TestNoFile(t *testing.T) {
	isRefused(t, "nil", nil, api.ErrEnd)
	isRefused(t, "nothing", []byte{}, api.ErrEnd)
	isRefused(t, "too many bytes", make([]byte, 1<<27+1), api.ErrLong)
	isRefused(t, "16 noughts", make([]byte, 16), api.ErrForm)
	isRefused(t, "a text", []byte("PNCE and more that is none"), api.ErrSum)
	isRefused(t, "4,097 sections", byHand(1, 4097, nil), api.ErrLong)
	for version := 1; version <= 3; version++ {
		b := encoded(t, everyNumber().machine(t), version)
		name := func(s string) string { return fmt.Sprintf("%s, version %d", s, version) }
		isRefused(t, name("15 bytes"), b[:15], api.ErrEnd)
		isRefused(t, name("a file without its last byte"), b[:len(b)-1], api.ErrSum)
		isRefused(t, name("a file without its first byte"), b[1:], api.ErrForm)
		isRefused(t, name("a file, and a byte"), append(slices.Clone(b), 1), api.ErrSum)
		isRefused(t, name("a file, and a nought"), append(slices.Clone(b), 0), api.ErrForm)
		isRefused(t, name("a file twice"), slices.Concat(b, b), api.ErrSum)
		l := sectionsOf(t, uint32(version), b)
		isRefused(t, name("one more is told"), byHand(uint32(version), uint32(len(l)+1), l), api.ErrEnd)
		isRefused(t, name("one fewer is told"), byHand(uint32(version), uint32(len(l)-1), l), api.ErrForm)
		for i := range 400 {
			bad := slices.Clone(b)
			bad[i*len(b)/400] ^= byte(1 << (i % 8))
			if i*len(b)/400 >= 4 {
				isRefused(t, name(fmt.Sprintf("the byte %d is another one", i*len(b)/400)), bad, api.ErrSum)
			}
		}
	}
}

// OL2: files of another version, ahead of all that is wrong with their sections.
func TestOtherVersions(t *testing.T) {
	w := everyNumber()
	for _, version := range []uint32{0, 4, 5, 10, 14, 0x101, 0x102, 0x103, 1 << 24, 2 << 24, 3 << 24, 0x80000001, 0x80000003, 0x7fffffff, 0xfffffffe, 0xffffffff} {
		name := fmt.Sprintf("version %d", version)
		for of := 1; of <= 3; of++ {
			l := sections(t, w, of)
			isRefused(t, name, fileOf(t, version, l), api.ErrVersion)
			isRefused(t, name+" of too few sections", fileOf(t, version, l[:3]), api.ErrVersion)
			isRefused(t, name+" with an odd section", fileOf(t, version, instead(l, 1, nil)), api.ErrVersion)
			isRefused(t, name+" with an odd state", fileOf(t, version, with(l, of/2+2, 0, 1)), api.ErrVersion)
		}
		isRefused(t, name+" of no sections", fileOf(t, version, nil), api.ErrVersion)
	}
}

// OL2: files whose tags are not those of their version, ahead of all that is wrong within the sections.
func TestOtherTags(t *testing.T) {
	w := everyNumber()
	for version := 1; version <= 3; version++ {
		whole := sections(t, w, version)
		for _, l := range [][]tlv.Section{whole, instead(whole, 1, []byte{1}), with(whole, version/2+2, 0, 1), instead(whole, len(whole), nil)} {
			refuses(t, "no sections", version, nil, api.ErrOrder)
			for i := range l {
				refuses(t, fmt.Sprintf("all but %d", i+1), version, slices.Delete(slices.Clone(l), i, i+1), api.ErrOrder)
				refuses(t, fmt.Sprintf("the first %d", i), version, l[:i], api.ErrOrder)
				further := slices.Clone(l)
				for k := i; k < len(further); k++ {
					further[k].Tag++
				}
				refuses(t, fmt.Sprintf("all from %d on one further", i+1), version, further, api.ErrOrder)
			}
			refuses(t, "one too many", version, append(slices.Clone(l), tlv.Section{Tag: uint32(len(l) + 1)}), api.ErrOrder)
			refuses(t, "one too many, far behind", version, append(slices.Clone(l), tlv.Section{Tag: 0xffffffff, B: []byte{1}}), api.ErrOrder)
			refuses(t, "the tag 0 ahead", version, slices.Insert(slices.Clone(l), 0, tlv.Section{}), api.ErrOrder)
			zero := slices.Clone(l)
			zero[0].Tag = 0
			refuses(t, "the tag 0 instead of 1", version, zero, api.ErrOrder)
		}
		for other := 1; other <= 3; other++ {
			if other != version {
				refuses(t, fmt.Sprintf("the sections of version %d", other), version, sections(t, w, other), api.ErrOrder)
			}
		}
	}
}

// OL2: tags that are doubled, or not in their order.
func TestTagsThatDoNotAscend(t *testing.T) {
	w := everyNumber()
	for version := 1; version <= 3; version++ {
		l := sections(t, w, version)
		for i := range l {
			double := slices.Insert(slices.Clone(l), i, l[i])
			isRefused(t, fmt.Sprintf("%d twice, version %d", i+1, version), byHand(uint32(version), uint32(len(double)), double), api.ErrOrder)
			if i == 0 {
				continue
			}
			turned := slices.Clone(l)
			turned[i], turned[i-1] = turned[i-1], turned[i]
			isRefused(t, fmt.Sprintf("%d ahead of %d, version %d", i+1, i, version), byHand(uint32(version), uint32(len(turned)), turned), api.ErrOrder)
			again := slices.Clone(l)
			again[i].Tag = uint32(i)
			isRefused(t, fmt.Sprintf("%d instead of %d, version %d", i, i+1, version), byHand(uint32(version), uint32(len(again)), again), api.ErrOrder)
		}
		slices.Reverse(l)
		isRefused(t, fmt.Sprintf("the last one first, version %d", version), byHand(uint32(version), uint32(len(l)), l), api.ErrOrder)
	}
}

// OL2: each section a byte too short, a byte too long, and more of both.
func TestOtherLengths(t *testing.T) {
	worlds := []world{everyNumber(), {c: soc.Config{Pages: 1}, m: make([]byte, page)}}
	r := rand.New(rand.NewSource(3))
	for range 2 {
		worlds = append(worlds, someWorld(r))
	}
	for _, w := range worlds {
		for version := 1; version <= 3; version++ {
			l := sections(t, w, version)
			for i, s := range l {
				for _, more := range [][]byte{{0}, {1}, {255}, {3, 0}, make([]byte, 4), make([]byte, 7), make([]byte, page)} {
					refuses(t, fmt.Sprintf("the section %d, and %d bytes more", i+1, len(more)), version, instead(l, i+1, slices.Concat(s.B, more)), api.ErrForm)
					refuses(t, fmt.Sprintf("%d bytes, and the section %d", len(more), i+1), version, instead(l, i+1, slices.Concat(make([]byte, len(more)), s.B)), api.ErrForm)
				}
				for size := range s.B {
					if size == len(s.B)-1 || size < 5 || size < 200 && size%7 == 0 {
						refuses(t, fmt.Sprintf("%d bytes of the section %d", size, i+1), version, instead(l, i+1, s.B[:size]), api.ErrForm)
					}
				}
			}
		}
	}
}

// OL2: of fewer bytes of memory than Pages tells, and of more.
func TestMemoryOfOtherLengths(t *testing.T) {
	w := everyNumber()
	w.s.B.In = nil
	for version := 1; version <= 2; version++ {
		for pages := range 6 {
			for _, more := range []int{-page, -page + 1, -4, -1, 0, 1, 4, 4095} {
				size := pages*page + more
				if size < 0 {
					continue
				}
				w.m = bytes.Repeat([]byte{7}, size)
				for _, told := range []int{1, 2, 3, 5} {
					w.c.Pages = told
					name := fmt.Sprintf("%d bytes of memory of %d pages", size, told)
					if size != told*page {
						refuses(t, name, version, sections(t, w, version), api.ErrForm)
						continue
					}
					isTaken(t, name, fileOf(t, uint32(version), sections(t, w, version)), version, w.of(version))
				}
			}
		}
	}
}

// OL2: of no pages, and of more than there may be, with any memory.
func TestOtherPages(t *testing.T) {
	w := everyNumber()
	first, second := sections(t, w, 1), sections(t, w, 2)
	for _, size := range []int{0, 1, page, 3 * page} {
		m := make([]byte, size)
		for _, pages := range []uint32{0, 16385, 16387, 0x4100, 0x8000, 0x8001, 0xffff, 0x10000, 0x10001, 0x10003, 0x100000, 0x7fffffff, 0x80000000, 0x80000003, 0xfffffffd, 0xffffffff} {
			name := fmt.Sprintf("%d pages, and %d bytes of memory", pages, size)
			if pages < 1<<16 {
				refuses(t, name, 1, instead(with(first, 1, 0, lay(uint16(pages))...), 6, m), api.ErrForm)
			}
			refuses(t, name, 2, instead(with(second, 1, 0, lay(pages)...), 10, m), api.ErrForm)
		}
	}
	l := instead(second, 1, lay(uint32(16385), w.c.Sectors))
	l[9].B = make([]byte, 16385*page)
	if x, err := old.Read(fileOf(t, 2, l)); x != nil || errno(err) != api.ErrForm {
		t.Errorf("16,385 pages with all their bytes: %v", err)
	}
}

// oddStates are changes by which a state may not be; each tells whether a file of version 1 holds it.
func oddStates() map[string]func(w *world) bool {
	return map[string]func(w *world) bool{
		"Pc":                              func(w *world) bool { w.s.H.Pc++; return true },
		"Pc, by two":                      func(w *world) bool { w.s.H.Pc += 2; return true },
		"Status":                          func(w *world) bool { w.s.H.C.Status |= 1; return true },
		"Status' highest bit":             func(w *world) bool { w.s.H.C.Status |= 1 << 31; return true },
		"Enable":                          func(w *world) bool { w.s.H.C.Enable |= 1 << 12; return true },
		"Vector":                          func(w *world) bool { w.s.H.C.Vector |= 2; return true },
		"Epc":                             func(w *world) bool { w.s.H.C.Epc |= 1; return true },
		"Epc's second bit":                func(w *world) bool { w.s.H.C.Epc |= 2; return true },
		"Ier":                             func(w *world) bool { w.s.U.Ier = 8; return true },
		"too many sectors":                func(w *world) bool { w.c.Sectors = 1<<20 + 1; return false },
		"fewer sectors than a request":    func(w *world) bool { w.c.Sectors = 0xa4748; return false },
		"Soft":                            func(w *world) bool { w.s.C.Soft = 2; return false },
		"a priority":                      func(w *world) bool { w.s.P.Priority[7] = 8; return false },
		"the sources that are enabled":    func(w *world) bool { w.s.P.Enable = 1; return false },
		"the threshold":                   func(w *world) bool { w.s.P.Threshold = 8; return false },
		"a source that waits":             func(w *world) bool { w.s.P.Pending = 256; return false },
		"a source that is served":         func(w *world) bool { w.s.P.Busy = 1 << 31; return false },
		"Mcr":                             func(w *world) bool { w.s.U.Mcr = 32; return false },
		"Wait":                            func(w *world) bool { w.s.U.Wait = 4; return false },
		"Wait of nothing":                 func(w *world) bool { w.s.U.Tx = uart.Fifo{}; w.s.U.Wait = 1; return false },
		"the disk's status":               func(w *world) bool { w.s.B.P.Status = 16; return false },
		"the disk's status with requests": func(w *world) bool { w.s.B.P.Status = 0; return false },
		"the disk's Irq":                  func(w *world) bool { w.s.B.P.Irq = 4; return false },
		"the disk's Drv":                  func(w *world) bool { w.s.B.P.Status |= 8; return false },
		"a queue's Size":                  func(w *world) bool { w.s.B.P.Q[0].R.Size = 257; return false },
		"a ready queue's Size":            func(w *world) bool { w.s.B.P.Q[1].R.Size = 127; return false },
		"a ready queue's Desc":            func(w *world) bool { w.s.B.P.Q[1].R.Desc++; return false },
		"Next":                            func(w *world) bool { w.s.B.Next = w.s.B.In[1].ID; return false },
		"two requests' IDs":               func(w *world) bool { w.s.B.In[0].ID = w.s.B.In[1].ID; return false },
		"a request's Head":                func(w *world) bool { w.s.B.In[0].Head = 256; return false },
		"a request's Sector":              func(w *world) bool { w.s.B.In[0].Sector = w.c.Sectors - 2; return false },
		"a request's N":                   func(w *world) bool { w.s.B.In[0].N = 513; return false },
		"a request of nothing":            func(w *world) bool { w.s.B.In[0].N = 0; return false },
		"a request's parts":               func(w *world) bool { w.s.B.In[1].L = nil; return false },
		"a part's place":                  func(w *world) bool { w.s.B.In[1].L[0].At = base + 3*page - 0x200; return false },
		"a part's bytes":                  func(w *world) bool { w.s.B.In[1].L[0].N--; return false },
		"a part of 2^32 - 1 bytes":        func(w *world) bool { w.s.B.In[0].L[0].N = -1; return false },
	}
}

// OL2: what may not be is refused; a file of version 1 that does not hold it is not.
func TestOddStates(t *testing.T) {
	for name, change := range oddStates() {
		w := everyNumber()
		isHeld := change(&w)
		if soc.Check(w.c, w.second().s) == nil {
			t.Errorf("%s: it may be", name)
		}
		refuses(t, name, 2, secondSections(w), api.ErrState)
		if isHeld {
			refuses(t, name, 1, firstSections(w), api.ErrState)
			continue
		}
		isTaken(t, name, fileOf(t, 1, firstSections(w)), 1, w.first())
	}
}

// OL2: requests that lie within the memory of one version's file, but not of another one's.
func TestRequestsAreHeldAgainstPages(t *testing.T) {
	w := everyNumber()
	for pages := 1; pages <= 4; pages++ {
		w.c.Pages, w.m = pages, make([]byte, pages*page)
		for _, at := range []uint32{base, base + page, base + 2*page - 0x201, base + 3*page - 0x201} {
			w.s.B.In[1].L = []ring.Seg{{At: at, N: 0x201, Write: true}}
			name := fmt.Sprintf("a part at %x of %d pages", at, pages)
			if int(at-base)+0x201 > pages*page {
				refuses(t, name, 2, secondSections(w), api.ErrState)
				continue
			}
			isTaken(t, name, fileOf(t, 2, secondSections(w)), 2, w.second())
		}
	}
}

// OL2: a truth is 0 or 1.
func TestOtherTruths(t *testing.T) {
	w := everyNumber()
	l := secondSections(w)
	for _, c := range []struct {
		name    string
		tag, at int
	}{{"Wait", 3, 128}, {"Over", 7, 19}, {"Ready", 8, 28}, {"the second one's Ready", 8, 47}, {"Write", 9, 11}} {
		for v := range 256 {
			b := fileOf(t, 2, with(l, c.tag, c.at, byte(v)))
			x, err := old.Read(b)
			if is := errno(err) == api.ErrForm; is != (v > 1) || is == (x != nil && err == nil) {
				// A request that is read has other parts than one that is written, so that one that is turned may not be.
				if c.name != "Write" || v > 0 || errno(err) != api.ErrState {
					t.Errorf("%s being %d: %v", c.name, v, err)
				}
			}
		}
	}
}

// OL2: at most 8 requests, 256 parts, and 16 bytes of a fifo.
func TestOtherCounts(t *testing.T) {
	w := everyNumber()
	l := secondSections(w)
	lists := func(requests, parts int) []byte {
		out := lay(uint32(9), byte(requests))
		for i := range requests {
			out = append(out, lay(uint32(100+i), uint16(i), true, uint32(0), uint32(512), uint16(parts))...)
			out = append(out, bytes.Repeat(lay(uint32(base), uint32(1)), parts)...)
		}
		return out
	}
	for _, c := range []struct {
		requests, parts int
		want            api.Errno
	}{{0, 0, 0}, {1, 1, 0}, {8, 1, 0}, {8, 256, 0}, {9, 1, api.ErrForm}, {255, 1, api.ErrForm}, {1, 257, api.ErrForm}, {8, 257, api.ErrForm}, {1, 60000, api.ErrForm}, {1, 0, api.ErrState}} {
		b := fileOf(t, 2, instead(l, 9, lists(c.requests, c.parts)))
		x, err := old.Read(b)
		if errno(err) != c.want || err == nil && (len(x.State().B.In) != c.requests || c.requests > 0 && len(x.State().B.In[0].L) != c.parts) {
			t.Errorf("%d requests of %d parts: %v, not %v", c.requests, c.parts, err, c.want)
		}
		if c.want != 0 {
			isRefused(t, fmt.Sprintf("%d requests of %d parts", c.requests, c.parts), b, c.want)
		}
	}
	for rx := range 19 {
		for tx := range 19 {
			port := lay(uint32(rx), bytes.Repeat([]byte{'r'}, rx), uint32(tx), bytes.Repeat([]byte{'t'}, tx), byte(1))
			for version, l := range map[int][]tlv.Section{
				1: instead(firstSections(w), 5, port),
				2: instead(l, 7, lay(port, make([]byte, 7))),
			} {
				if rx > 16 || tx > 16 {
					refuses(t, fmt.Sprintf("%d bytes in and %d out", rx, tx), version, l, api.ErrForm)
					continue
				}
				x, err := old.Read(fileOf(t, uint32(version), l))
				if err != nil || x.State().U.Rx.N != rx || x.State().U.Tx.N != tx {
					t.Errorf("%d bytes in and %d out, version %d: %v", rx, tx, version, err)
				}
			}
		}
	}
}

// OL2: counts that tell more than is there, or less.
func TestWrongCounts(t *testing.T) {
	w := everyNumber()
	first, second := firstSections(w), secondSections(w)
	for _, v := range []int{0, 1, 2, 3, 4, 5, 7, 8, 9, 15, 16, 17, 18, 32, 127, 128, 255} {
		if v != 2 {
			refuses(t, fmt.Sprintf("%d bytes in", v), 1, with(first, 5, 0, byte(v)), api.ErrForm)
			refuses(t, fmt.Sprintf("%d bytes in", v), 2, with(second, 7, 0, byte(v)), api.ErrForm)
			refuses(t, fmt.Sprintf("%d requests", v), 2, with(second, 9, 4, byte(v)), api.ErrForm)
			want := api.ErrForm
			if v == 3 { // it ends with the next request's first bytes, and that one goes on, of no parts, just as far
				want = api.ErrState
			}
			refuses(t, fmt.Sprintf("%d parts", v), 2, with(second, 9, 20, byte(v)), want)
		}
		if v != 3 {
			refuses(t, fmt.Sprintf("%d bytes out", v), 1, with(first, 5, 6, byte(v)), api.ErrForm)
			refuses(t, fmt.Sprintf("%d bytes out", v), 2, with(second, 7, 6, byte(v)), api.ErrForm)
		}
		if v > 0 {
			for at := 1; at < 4; at++ {
				refuses(t, "many bytes in", 1, with(first, 5, at, byte(v)), api.ErrForm)
				refuses(t, "many bytes out", 1, with(first, 5, 6+at, byte(v)), api.ErrForm)
			}
			refuses(t, "many parts", 2, with(second, 9, 21, byte(v)), api.ErrForm)
		}
	}
}

// OL2: what is not of its form is told ahead of what may not be.
func TestErrorsInOrder(t *testing.T) {
	for name, change := range oddStates() {
		w := everyNumber()
		isHeld := change(&w)
		for version, l := range map[int][]tlv.Section{1: firstSections(w), 2: secondSections(w)} {
			if version == 1 && !isHeld {
				continue
			}
			for tag, s := range l {
				refuses(t, fmt.Sprintf("%s, and the section %d", name, tag+1), version, instead(l, tag+1, s.B[:len(s.B)-1]), api.ErrForm)
				refuses(t, fmt.Sprintf("%s, and more than the section %d", name, tag+1), version, instead(l, tag+1, append(slices.Clone(s.B), 0)), api.ErrForm)
			}
			refuses(t, name+", and other pages", version, with(l, 1, 0, 2), api.ErrForm)
			refuses(t, name+", and no pages", version, with(instead(l, len(l), nil), 1, 0, 0), api.ErrForm)
			refuses(t, name+", and no memory", version, instead(l, len(l), nil), api.ErrForm)
			refuses(t, name+", and one section too few", version, l[:len(l)-1], api.ErrOrder)
			refuses(t, name+", of another version", 4, l, api.ErrVersion)
			b := fileOf(t, uint32(version), l)
			b[len(b)-1]++
			isRefused(t, name+", and another sum", b, api.ErrSum)
		}
	}
}

// OL2: a file of version 3 that save.Decode takes stays; one that it refuses is refused so.
func TestLastVersion(t *testing.T) {
	r := rand.New(rand.NewSource(4))
	worlds := []world{everyNumber(), {c: soc.Config{Pages: 1}, m: make([]byte, page)}}
	for range 100 {
		worlds = append(worlds, someWorld(r))
	}
	refused := map[api.Errno]int{}
	for i, w := range worlds {
		l := lastSections(t, w)
		isTaken(t, fmt.Sprintf("world %d", i), fileOf(t, 3, l), 3, w)
		for range 20 {
			tag := 1 + r.Intn(14)
			if len(l[tag-1].B) == 0 {
				continue
			}
			b := fileOf(t, 3, with(l, tag, r.Intn(len(l[tag-1].B)), byte(r.Intn(256))))
			if _, err := save.Decode(b); err != nil {
				refused[errno(err)]++
				isRefused(t, fmt.Sprintf("world %d", i), b, errno(err))
			}
		}
	}
	if refused[api.ErrForm] < 50 || refused[api.ErrState] < 50 {
		t.Errorf("refused: %v", refused)
	}
	own := with(lastSections(t, everyNumber()), 14, 0, 2)
	refuses(t, "pages that are none", 3, own, api.ErrForm)
	refuses(t, "a page of noughts", 3, instead(own, 14, lay(uint32(1), uint32(0), make([]byte, page))), api.ErrForm)
}

// OL2: sections of which some bytes are other ones, by chance: each file is told as the chapter's words have it.
func TestTakeByChance(t *testing.T) {
	r := rand.New(rand.NewSource(5))
	seen := map[string]int{}
	for i := range 2500 {
		w, version := someWorld(r), 1+r.Intn(2)
		l := slices.Clone(sections(t, w, version))
		l = spoil(r, l)
		want, refused := plainTake(version, l)
		seen[fmt.Sprintf("version %d: %v", version, refused)]++
		if refused != 0 {
			refuses(t, fmt.Sprintf("file %d", i), version, l, refused)
			continue
		}
		isTaken(t, fmt.Sprintf("file %d", i), fileOf(t, uint32(version), l), version, want)
	}
	for version := 1; version <= 2; version++ {
		for _, e := range []api.Errno{0, api.ErrOrder, api.ErrForm, api.ErrState} {
			if seen[fmt.Sprintf("version %d: %v", version, e)] < 20 {
				t.Errorf("version %d, error %d: too few: %v", version, e, seen)
			}
		}
	}
}

// spoil changes some sections by chance.
func spoil(r *rand.Rand, l []tlv.Section) []tlv.Section {
	for range r.Intn(3) {
		tag := 1 + r.Intn(len(l))
		own := l[tag-1].B
		at := r.Intn(min(len(own), 150) + 1)
		switch r.Intn(12) {
		case 0:
			own = own[:at]
		case 1:
			own = slices.Insert(slices.Clone(own), at, byte(r.Intn(3)))
		case 2:
			own = slices.Concat(own[:at], own[min(at+1, len(own)):])
		case 3:
			own = make([]byte, len(own))
		case 4, 5:
			if len(l) > 1 {
				l = slices.Delete(l, tag-1, tag)
				continue
			}
		default:
			if at < len(own) {
				own = slices.Clone(own)
				own[at] = byte(number(r))
			}
		}
		l[tag-1].B = own
	}
	return l
}

// OL2: what is answered shares nothing with what was handed in, nor with another answer.
func TestAnswersAreNewMemory(t *testing.T) {
	w := everyNumber()
	for version := 1; version <= 3; version++ {
		b := encoded(t, w.machine(t), version)
		for name, call := range map[string]func(b []byte) ([]byte, error){"Up": old.Up, "Upgrade": old.Upgrade} {
			in := slices.Clone(b)
			one, err := call(in)
			must(t, err)
			was := slices.Clone(one)
			two, err := call(in)
			must(t, err)
			fill(two, 0xaa)
			if !bytes.Equal(one, was) || !bytes.Equal(in, b) {
				t.Errorf("%s of version %d: an answer shares memory with another one, or what was handed in", name, version)
			}
			fill(in, 0xbb)
			if !bytes.Equal(one, was) {
				t.Errorf("%s of version %d: an answer shares memory with what was handed in", name, version)
			}
		}
		in := slices.Clone(b)
		x, err := old.Read(in)
		must(t, err)
		y, err := old.Read(in)
		must(t, err)
		fill(in, 0xcc)
		for range 20 {
			y.Tick()
			must(t, y.Put('y'))
		}
		must(t, y.Mem().Write(0, bytes.Repeat([]byte{1}, 3*page)))
		fillRequests(y.State().B)
		isWorld(t, fmt.Sprintf("version %d", version), x, w.of(version))
	}
}

// fillRequests writes to requests, and to the room behind them.
func fillRequests(s blk.State) {
	l := s.In[:cap(s.In)]
	for i := range l {
		parts := l[i].L[:cap(l[i].L)]
		for k := range parts {
			parts[k] = ring.Seg{At: 0xdddddddd, N: 99}
		}
		l[i].ID = 0xdddddddd
	}
}
