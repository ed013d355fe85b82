package save_test

import (
	"bytes"
	"fmt"
	"math/rand"
	"slices"
	"testing"

	"pinnace/api"
	"pinnace/mem"
	"pinnace/save"
	"pinnace/soc"
	"pinnace/tlv"
)

// sectionsOf are a machine's sections, all of them, after the chapter's words.
func sectionsOf(x *soc.Machine) []tlv.Section {
	return append(plainParts(held{x.Config(), x.State()}), tlv.Section{Tag: 14, B: plainPages(x.Mem())})
}

// someMachine is a machine by chance.
func someMachine(t *testing.T, r *rand.Rand) *soc.Machine {
	t.Helper()
	h := someHeld(r)
	m := ram(t, h.c.Pages)
	for range r.Intn(5) {
		b := make([]byte, 1+r.Intn(page))
		r.Read(b)
		must(t, m.Write(uint32(r.Intn(h.c.Pages)*page), b))
	}
	return machine(t, h.c, h.s, m)
}

// listed is a machine with lists of all kinds, and two pages that hold something.
func listed(t *testing.T) *soc.Machine {
	t.Helper()
	h := withLists()
	return machine(t, h.c, h.s, ramOf(t, 3, map[uint32]byte{8: 1, 3*page - 1: 2}))
}

// isNone fails the test, if Decode does not answer this error, and no machine, or changes what is handed in.
func isNone(t *testing.T, name string, b []byte, want api.Errno) {
	t.Helper()
	was := slices.Clone(b)
	if x, err := save.Decode(b); x != nil || errno(err) != want {
		t.Errorf("Decode of %s: %v, not %v; a machine beside it: %v", name, err, want, x != nil)
	}
	if !bytes.Equal(b, was) {
		t.Errorf("Decode of %s changed what was handed in", name)
	}
}

// isMachine fails the test, if Decode does not answer a machine that is the same, no page of which is dirty.
func isMachine(t *testing.T, name string, b []byte, x *soc.Machine) {
	t.Helper()
	was := slices.Clone(b)
	y, err := save.Decode(b)
	if err != nil || !soc.Same(x, y) || told(y.Config(), y.State()) != told(x.Config(), x.State()) {
		t.Errorf("Decode of %s: %v, or another machine", name, err)
		return
	}
	if len(y.Mem().Dirty()) > 0 {
		t.Errorf("Decode of %s: %v are dirty", name, y.Mem().Dirty())
	}
	if !bytes.Equal(b, was) {
		t.Errorf("Decode of %s changed what was handed in", name)
	}
}

// SV3: the example: a machine of one page at first, byte by byte but for the sums.
func TestFileOfANewMachine(t *testing.T) {
	x := newMachine(t, soc.Config{Pages: 1})
	b := encoded(t, x)
	want := slices.Concat([]byte("PNCE"), little(3, 4), little(14, 4))
	for i, size := range []int{8, 8, 129, 36, 1, 17, 20, 16, 32, 66, 6, 66, 5, 4} {
		own := make([]byte, size)
		switch i {
		case 0:
			own[0] = 1
		case 2:
			own[3] = 0x80
		}
		want = slices.Concat(want, little(uint64(i+1), 4), little(uint64(size), 4), own)
		if len(b) < len(want)+4 {
			t.Fatalf("%d bytes", len(b))
		}
		want = append(want, b[len(want):len(want)+4]...)
	}
	if len(b) != len(want)+4 || !bytes.HasPrefix(b, want) {
		t.Errorf("Encode: %x, not %x", b, want)
	}
	isMachine(t, "a machine at first", b, x)
}

// SV3: the file of a machine is of version 3, and has all sections.
func TestEncode(t *testing.T) {
	r := rand.New(rand.NewSource(6))
	machines := []*soc.Machine{newMachine(t, soc.Config{Pages: 1}), newMachine(t, soc.Config{Pages: 16384, Sectors: 1 << 20}), listed(t)}
	for range 100 {
		machines = append(machines, someMachine(t, r))
	}
	for i, x := range machines {
		dirty, writes, before := x.Mem().Dirty(), x.Mem().Writes(), x.Clone()
		b := encoded(t, x)
		if want := fileOf(t, 3, sectionsOf(x)); !bytes.Equal(b, want) {
			t.Errorf("Encode of machine %d: %d bytes, not %d, or other ones", i, len(b), len(want))
		}
		if !soc.Same(x, before) || !slices.Equal(x.Mem().Dirty(), dirty) || x.Mem().Writes() != writes {
			t.Errorf("Encode changed the machine %d", i)
		}
		fill(encoded(t, x), 0xee)
		if !bytes.Equal(encoded(t, x), b) {
			t.Errorf("an answer of Encode of machine %d shares memory", i)
		}
		isMachine(t, fmt.Sprintf("machine %d", i), b, x)
	}
}

// SV3: of no machine.
func TestNoMachine(t *testing.T) {
	if b, err := save.Encode(nil); len(b) != 0 || errno(err) != api.ErrArg {
		t.Errorf("Encode of nil: %x, %v", b, err)
	}
	file := encoded(t, listed(t))
	for name, b := range map[string][]byte{"a file": file, "nil": nil, "no file": []byte("no file at all, but bytes"), "half a file": file[:len(file)/2]} {
		if y, err := save.Restore(nil, b); y != nil || errno(err) != api.ErrArg {
			t.Errorf("Restore of nil and %s: %v, %v", name, y != nil, err)
		}
	}
}

// SV1 to SV3: none panics of a machine that no call answered.
func TestMachineOfNothing(t *testing.T) {
	x := &soc.Machine{}
	b, err := save.Encode(x)
	must(t, err)
	isNone(t, "a machine of nothing", b, api.ErrState)
	if y, err := save.Restore(x, encoded(t, listed(t))); y != nil || errno(err) != api.ErrConfig {
		t.Errorf("Restore: %v, %v", y != nil, err)
	}
}

// SV3: bytes that are no file, by the errors of the layer 19.
func TestDecodeOfNoFile(t *testing.T) {
	file := encoded(t, listed(t))
	isNone(t, "nil", nil, api.ErrEnd)
	isNone(t, "15 bytes", file[:15], api.ErrEnd)
	isNone(t, "too many bytes", make([]byte, 1<<27+1), api.ErrLong)
	isNone(t, "16 noughts", make([]byte, 16), api.ErrForm)
	isNone(t, "a file without its last byte", file[:len(file)-1], api.ErrSum)
	isNone(t, "a file without its first byte", file[1:], api.ErrForm)
	isNone(t, "a file, and a byte", append(slices.Clone(file), 1), api.ErrSum)
	isNone(t, "a file twice", slices.Concat(file, file), api.ErrSum)
	isNone(t, "a text", []byte("PNCE and more that is none"), api.ErrSum)
	for size := range len(file) {
		if size < 700 || size%61 == 0 {
			_, _, err := tlv.Decode(file[:size])
			isNone(t, fmt.Sprintf("%d bytes of a file", size), file[:size], errno(err))
		}
	}
}

// SV3: files of another version, ahead of all that is wrong with their sections.
func TestDecodeOfAnotherVersion(t *testing.T) {
	l := sectionsOf(listed(t))
	for _, version := range []uint32{0, 1, 2, 4, 5, 0x103, 0x03000000, 0x80000003, 0xffffffff} {
		name := fmt.Sprintf("version %d", version)
		isNone(t, name, fileOf(t, version, l), api.ErrVersion)
		isNone(t, name+" of no sections", fileOf(t, version, nil), api.ErrVersion)
		isNone(t, name+" of too few sections", fileOf(t, version, l[:5]), api.ErrVersion)
		isNone(t, name+" of empty ones", fileOf(t, version, instead(l, 1, nil)), api.ErrVersion)
	}
}

// SV3: files whose tags are not 1 to 14, ahead of all that is wrong within the sections.
func TestDecodeOfOtherTags(t *testing.T) {
	l := sectionsOf(listed(t))
	odd := instead(instead(l, 1, []byte{1}), 14, nil)
	for _, l := range [][]tlv.Section{l, odd} {
		isNone(t, "no sections", fileOf(t, 3, nil), api.ErrOrder)
		for i := range l {
			isNone(t, fmt.Sprintf("all but %d", i+1), fileOf(t, 3, slices.Delete(copied(l), i, i+1)), api.ErrOrder)
			isNone(t, fmt.Sprintf("the first %d", i), fileOf(t, 3, l[:i]), api.ErrOrder)
			other := copied(l)
			for k := i; k < len(other); k++ {
				other[k].Tag++
			}
			isNone(t, fmt.Sprintf("all from %d on one further", i+1), fileOf(t, 3, other), api.ErrOrder)
		}
		isNone(t, "one too many", fileOf(t, 3, append(copied(l), tlv.Section{Tag: 15})), api.ErrOrder)
		isNone(t, "one too many, far behind", fileOf(t, 3, append(copied(l), tlv.Section{Tag: 0xffffffff, B: []byte{1}})), api.ErrOrder)
		isNone(t, "the tag 0 ahead", fileOf(t, 3, slices.Insert(copied(l), 0, tlv.Section{})), api.ErrOrder)
		isNone(t, "the tag 0 instead of 1", fileOf(t, 3, slices.Insert(copied(l[1:]), 0, tlv.Section{Tag: 0, B: l[0].B})), api.ErrOrder)
	}
}

// SV3: files of which a section is not of its form, or whose state can't be: Whole's errors, ahead of Fill's.
func TestDecodeOfOtherSections(t *testing.T) {
	l := sectionsOf(listed(t))
	pages := [][]byte{l[13].B, nil, {1, 0, 0, 0}, make([]byte, 5), section(1, record(3, 0, 1)), section(2, record(1, 0, 1), record(0, 0, 1)), section(1, record(0, 0, 0))}
	for i, b := range pages {
		l := instead(l, 14, b)
		if i > 0 {
			isNone(t, fmt.Sprintf("pages %d", i), fileOf(t, 3, l), api.ErrForm)
		}
		for tag := 1; tag <= 13; tag++ {
			isNone(t, fmt.Sprintf("the section %d without its last byte, pages %d", tag, i), fileOf(t, 3, instead(l, tag, l[tag-1].B[:len(l[tag-1].B)-1])), api.ErrForm)
			isNone(t, fmt.Sprintf("the section %d and a byte, pages %d", tag, i), fileOf(t, 3, instead(l, tag, append(slices.Clone(l[tag-1].B), 0))), api.ErrForm)
		}
		for name, change := range oddStates() {
			h := withLists()
			change(h)
			odd := append(save.Parts(h.c, h.s), l[13])
			isNone(t, fmt.Sprintf("%s, pages %d", name, i), fileOf(t, 3, odd), api.ErrState)
			isNone(t, fmt.Sprintf("%s, pages %d, and a form", name, i), fileOf(t, 3, instead(odd, 13, nil)), api.ErrForm)
		}
	}
}

// SV3: the pages are held against the config's, whichever they are.
func TestDecodeHoldsPagesAgainstConfig(t *testing.T) {
	for pages := 1; pages < 5; pages++ {
		c := soc.Config{Pages: pages}
		l := append(save.Parts(c, soc.State{}), tlv.Section{Tag: 14})
		for number := range 5 {
			m := ram(t, pages)
			b := fileOf(t, 3, instead(l, 14, section(1, record(number, 1, 9))))
			if number >= pages {
				isNone(t, fmt.Sprintf("the page %d of %d", number, pages), b, api.ErrForm)
				continue
			}
			must(t, m.Write(uint32(number*page+1), []byte{9}))
			isMachine(t, fmt.Sprintf("the page %d of %d", number, pages), b, machine(t, c, soc.State{}, m))
		}
	}
}

// SV3: what is decoded keeps nothing of the bytes, and shares nothing with another one of the same bytes.
func TestDecodeAnswersNewMemory(t *testing.T) {
	x := listed(t)
	b := encoded(t, x)
	y, err := save.Decode(b)
	must(t, err)
	z, err := save.Decode(b)
	must(t, err)
	fill(b, 0xaa)
	for range 20 {
		z.Tick()
		must(t, z.Put('z'))
	}
	must(t, z.Mem().Write(0, bytes.Repeat([]byte{1}, 3*page)))
	if !soc.Same(x, y) || soc.Same(y, z) {
		t.Error("an answer of Decode shares memory")
	}
}

// SV3: Restore of a file of the same config is its machine; that which is handed in stays as it was.
func TestRestore(t *testing.T) {
	r := rand.New(rand.NewSource(7))
	for range 50 {
		x := someMachine(t, r)
		o := newMachine(t, x.Config())
		must(t, o.Mem().Write(7, []byte("other")))
		dirty, before := o.Mem().Dirty(), o.Clone()
		b := encoded(t, x)
		y, err := save.Restore(o, b)
		if err != nil || !soc.Same(x, y) || y == o || y == x {
			t.Fatalf("Restore: %v, or another machine", err)
		}
		for range 5 {
			y.Tick()
		}
		must(t, y.Mem().Write(7, []byte("more")))
		if !soc.Same(o, before) || !slices.Equal(o.Mem().Dirty(), dirty) {
			t.Fatal("Restore changed the machine that was handed in")
		}
		y, err = save.Restore(x, b)
		if err != nil || !soc.Same(x, y) || y == x || y.Mem() == x.Mem() {
			t.Fatalf("Restore of a machine's own file: %v, or another machine", err)
		}
	}
}

// SV3: Restore of a file of another config: behind all other errors.
func TestRestoreOfAnotherConfig(t *testing.T) {
	x := listed(t)
	before := x.Clone()
	l := sectionsOf(x)
	none := func(name string, b []byte, want api.Errno) {
		t.Helper()
		if y, err := save.Restore(x, b); y != nil || errno(err) != want {
			t.Errorf("Restore of %s: %v, %v, not %v", name, y != nil, err, want)
		}
	}
	for _, c := range []soc.Config{{Pages: 2, Sectors: 1000}, {Pages: 4, Sectors: 1000}, {Pages: 3, Sectors: 999}, {Pages: 3, Sectors: 1001}, {Pages: 3}, {Pages: 1}, {Pages: 16384, Sectors: 1 << 20}} {
		b := encoded(t, newMachine(t, c))
		none(fmt.Sprintf("%+v", c), b, api.ErrConfig)
		none(fmt.Sprintf("%+v, cut", c), b[:len(b)-1], api.ErrSum)
		own := sectionsOf(newMachine(t, c))
		none(fmt.Sprintf("%+v of version 2", c), fileOf(t, 2, own), api.ErrVersion)
		none(fmt.Sprintf("%+v without pages", c), fileOf(t, 3, own[:13]), api.ErrOrder)
		none(fmt.Sprintf("%+v with other pages", c), fileOf(t, 3, instead(own, 14, []byte{1})), api.ErrForm)
		none(fmt.Sprintf("%+v with an odd state", c), fileOf(t, 3, with(own, 3, 0, []byte{1})), api.ErrState)
	}
	none("nothing", nil, api.ErrEnd)
	none("no file", make([]byte, 20), api.ErrForm)
	none("version 4", fileOf(t, 4, l), api.ErrVersion)
	none("no sections", fileOf(t, 3, nil), api.ErrOrder)
	none("an odd state", fileOf(t, 3, with(l, 4, 0, []byte{1})), api.ErrState)
	none("a section cut", fileOf(t, 3, instead(l, 9, nil)), api.ErrForm)
	if !soc.Same(x, before) {
		t.Error("Restore changed the machine that was handed in")
	}
}

// SV3: the file is made of the whole machine as it is now, not as it was.
func TestEncodeGoesByNow(t *testing.T) {
	x := listed(t)
	last := encoded(t, x)
	for _, c := range []struct {
		name   string
		change func() error
	}{
		{"a tick", func() error { x.Tick(); return nil }},
		{"a byte", func() error { return x.Put('q') }},
		{"memory", func() error { return x.Mem().Store(page, 4, 99) }},
		{"a frame that is lost", func() error { _, err := x.Frame([]byte{1}); return err }},
		{"the disk", func() error { return x.Finish(8, true, nil) }},
	} {
		must(t, c.change())
		b := encoded(t, x)
		if bytes.Equal(b, last) {
			t.Errorf("Encode behind %s: the same bytes", c.name)
		}
		last = b
	}
}

// SV3: a machine of all the memory that there may be, all of which holds something.
func TestFileOfAllPages(t *testing.T) {
	m, err := mem.New(16384)
	must(t, err)
	for i := range 16384 {
		must(t, m.Write(uint32(i*page), []byte{byte(i>>6) | 1}))
	}
	x := machine(t, soc.Config{Pages: 16384}, soc.State{}, m)
	b := encoded(t, x)
	if want := 598 + 16384*4100; len(b) != want {
		t.Errorf("%d bytes, not %d", len(b), want)
	}
	isMachine(t, "a machine of all pages", b, x)
}
