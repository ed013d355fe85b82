package tlv_test

import (
	"bytes"
	"testing"

	"pinnace/api"
	"pinnace/tlv"
)

// TL1: files byte by byte, but for their sums, which are worked out bit by bit.
func TestFilesByteByByte(t *testing.T) {
	files := []struct {
		name    string
		version uint32
		l       []tlv.Section
		want    []byte
	}{
		{"no sections", 3, nil, summed([]byte{'P', 'N', 'C', 'E', 3, 0, 0, 0, 0, 0, 0, 0})},
		{"no sections, an empty list", 0x04030201, []tlv.Section{}, summed([]byte{'P', 'N', 'C', 'E', 1, 2, 3, 4, 0, 0, 0, 0})},
		{"one section", 1, []tlv.Section{{Tag: 0x0a0b0c0d, B: []byte("abc")}}, summed(joined(
			[]byte{'P', 'N', 'C', 'E', 1, 0, 0, 0, 1, 0, 0, 0},
			summed([]byte{0x0d, 0x0c, 0x0b, 0x0a, 3, 0, 0, 0, 'a', 'b', 'c'})))},
		{"a section of no bytes", 2, []tlv.Section{{Tag: 0}}, summed(joined(
			[]byte{'P', 'N', 'C', 'E', 2, 0, 0, 0, 1, 0, 0, 0},
			summed([]byte{0, 0, 0, 0, 0, 0, 0, 0})))},
		{"three sections", 0xffffffff, []tlv.Section{{Tag: 1, B: []byte{1}}, {Tag: 2}, {Tag: 256, B: make([]byte, 258)}}, summed(joined(
			[]byte{'P', 'N', 'C', 'E', 255, 255, 255, 255, 3, 0, 0, 0},
			summed([]byte{1, 0, 0, 0, 1, 0, 0, 0, 1}),
			summed([]byte{2, 0, 0, 0, 0, 0, 0, 0}),
			summed(joined([]byte{0, 1, 0, 0, 2, 1, 0, 0}, make([]byte, 258)))))},
	}
	for _, f := range files {
		got, err := tlv.Encode(f.version, f.l)
		if err != nil || !bytes.Equal(got, f.want) {
			t.Errorf("Encode of %s: %x, %v; not %x", f.name, got, err, f.want)
		}
		decodes(t, f.name, f.want, f.version, f.l, 0)
	}
}

// TL1: two files byte by byte, sums too.
func TestFilesAsNumbers(t *testing.T) {
	none := []byte{'P', 'N', 'C', 'E', 3, 0, 0, 0, 0, 0, 0, 0, 0x40, 0x90, 0xb7, 0x20}
	one := []byte{'P', 'N', 'C', 'E', 3, 0, 0, 0, 1, 0, 0, 0, 7, 0, 0, 0, 2, 0, 0, 0, 'h', 'i',
		0x4c, 0xc8, 0xdc, 0x84, 0x1e, 0xfb, 0xec, 0x01}
	if got, err := tlv.Encode(3, nil); err != nil || !bytes.Equal(got, none) {
		t.Errorf("Encode of no sections: %x, %v; not %x", got, err, none)
	}
	if got, err := tlv.Encode(3, []tlv.Section{{Tag: 7, B: []byte("hi")}}); err != nil || !bytes.Equal(got, one) {
		t.Errorf("Encode of one section: %x, %v; not %x", got, err, one)
	}
}

// TL1: Encode against the chapter's words, of all kinds of lists.
func TestEncodeAfterTheWords(t *testing.T) {
	for i, l := range someLists() {
		for _, version := range []uint32{0, 1, 3, 0x80000000, 0xffffffff} {
			was := copied(l)
			got, err := tlv.Encode(version, l)
			if err != nil || !bytes.Equal(got, plainFile(version, l)) {
				t.Errorf("Encode of list %d, version %d: %d bytes, %v", i, version, len(got), err)
			}
			if !sameSections(l, was) {
				t.Errorf("Encode of list %d changed it", i)
			}
		}
	}
}

// cannot is an error of the test, if Encode does not answer that error, and nothing beside it.
func cannot(t *testing.T, name string, l []tlv.Section, want api.Errno) {
	t.Helper()
	if got, err := tlv.Encode(3, l); errno(err) != want || len(got) != 0 {
		t.Errorf("Encode of %s: %d bytes, %v; not %v", name, len(got), err, want)
	}
}

// TL1: tags that are equal, and that descend, wherever it is.
func TestEncodeOfTagsOutOfOrder(t *testing.T) {
	pairs := [][2]uint32{{0, 0}, {1, 0}, {1, 1}, {0xffffffff, 0}, {0xffffffff, 0xffffffff}, {0x80000000, 0x7fffffff}, {0xffffffff, 0x7fffffff}, {256, 255}, {0x100, 1}}
	for _, p := range pairs {
		cannot(t, "two tags", []tlv.Section{{Tag: p[0], B: []byte{1}}, {Tag: p[1], B: []byte{2}}}, api.ErrOrder)
	}
	for at := range 9 {
		l := make([]tlv.Section, 10)
		for i := range l {
			l[i].Tag = uint32(10 * i)
		}
		if _, err := tlv.Encode(3, l); err != nil {
			t.Errorf("Encode of ten tags that ascend: %v", err)
		}
		l[at+1].Tag = l[at].Tag
		cannot(t, "a tag twice", l, api.ErrOrder)
		l[at+1].Tag = max(l[at].Tag, 1) - 1
		cannot(t, "a tag that descends", l, api.ErrOrder)
	}
	cannot(t, "a tag twice, but not one behind the other", []tlv.Section{{Tag: 1}, {Tag: 2}, {Tag: 1}}, api.ErrOrder)
}

// numbered are so many sections whose tags are 0, 1 ..
func numbered(count int) []tlv.Section {
	out := make([]tlv.Section, count)
	for i := range out {
		out[i].Tag = uint32(i)
	}
	return out
}

// TL1: 4,096 sections, and one more; and more out of order, which is found first.
func TestEncodeOfManySections(t *testing.T) {
	full := numbered(4096)
	got, err := tlv.Encode(3, full)
	if err != nil || len(got) != 16+4096*12 || !bytes.Equal(got, plainFile(3, full)) {
		t.Errorf("Encode of 4,096 sections: %d bytes, %v", len(got), err)
	}
	decodes(t, "4,096 sections", got, 3, full, 0)
	cannot(t, "4,097 sections", numbered(4097), api.ErrLong)
	cannot(t, "65,536 sections", numbered(65536), api.ErrLong)
	wrong := numbered(4097)
	wrong[4096].Tag = 4095
	cannot(t, "4,097 sections out of order", wrong, api.ErrOrder)
}

// TL1: 2^27 bytes, and one more; and more out of order, which is found first.
func TestEncodeOfManyBytes(t *testing.T) {
	room := make([]byte, 1<<27)
	full := []tlv.Section{{Tag: 1, B: room[:1<<20]}, {Tag: 2, B: room[:1<<27-1<<20-16-24]}}
	got, err := tlv.Encode(3, full)
	if err != nil || len(got) != 1<<27 {
		t.Fatalf("Encode of a file of 2^27 bytes: %d bytes, %v", len(got), err)
	}
	decodes(t, "2^27 bytes", got, 3, full, 0)
	full[0].B = room[:1<<20+1]
	cannot(t, "a file of a byte more than 2^27", full, api.ErrLong)
	cannot(t, "a file of a section more than 2^27 bytes", []tlv.Section{{Tag: 1, B: room[:1<<27-16-24+1]}, {Tag: 2}}, api.ErrLong)
	cannot(t, "a section of 2^27 bytes", []tlv.Section{{Tag: 1, B: room}}, api.ErrLong)
	cannot(t, "sections of too many bytes out of order", []tlv.Section{{Tag: 1, B: room}, {Tag: 1}}, api.ErrOrder)
	all := numbered(4096)
	for i := range all {
		all[i].B = room
	}
	cannot(t, "4,096 sections of 2^27 bytes", all, api.ErrLong)
	cannot(t, "40 sections of 2^27 bytes", all[:40], api.ErrLong)
	cannot(t, "32 sections of 2^27 bytes, less their heads", all[:32], api.ErrLong)
}
