package tlv_test

import (
	"bytes"
	"errors"
	"math/rand"
	"slices"
	"testing"

	"pinnace/api"
	"pinnace/tlv"
)

// errno is the number that errors.As finds in an error; 0 of nil, -1 of another error.
func errno(err error) api.Errno {
	if err == nil {
		return 0
	}
	var e api.Errno
	if errors.As(err, &e) {
		return e
	}
	return -1
}

// plainSum is the sum of bytes after chapter 18's words: bit by bit.
func plainSum(b []byte) uint32 {
	word := uint32(0xffffffff)
	for _, c := range b {
		for bit := 7; bit >= 0; bit-- {
			carry := word>>31 ^ uint32(c>>bit&1)
			word *= 2
			if carry == 1 {
				word ^= 0x04c11db7
			}
		}
	}
	return word
}

// summed are bytes, and their sum behind, the highest byte first.
func summed(b []byte) []byte {
	s := plainSum(b)
	return append(slices.Clone(b), byte(s>>24), byte(s>>16), byte(s>>8), byte(s))
}

// little is a number of 4 bytes, the lowest first.
func little(n int) []byte {
	return []byte{byte(n), byte(n >> 8), byte(n >> 16), byte(n >> 24)}
}

// joined are bytes behind one another.
func joined(l ...[]byte) []byte {
	return bytes.Join(l, nil)
}

// part is a section as bytes, which tells that it has so many.
func part(tag, told int, b []byte) []byte {
	return summed(joined(little(tag), little(told), b))
}

// fileOf is a file that tells so many sections, of whatever bytes are in it.
func fileOf(version, told int, parts ...[]byte) []byte {
	return summed(joined([]byte("PNCE"), little(version), little(told), joined(parts...)))
}

// plainFile is the file of sections after the chapter's words.
func plainFile(version uint32, l []tlv.Section) []byte {
	parts := make([][]byte, len(l))
	for i, s := range l {
		parts[i] = part(int(s.Tag), len(s.B), s.B)
	}
	return fileOf(int(version), len(l), parts...)
}

// sameSections tells whether two lists hold the same.
func sameSections(a, b []tlv.Section) bool {
	return slices.EqualFunc(a, b, func(x, y tlv.Section) bool { return x.Tag == y.Tag && bytes.Equal(x.B, y.B) })
}

// copied are sections in memory of their own.
func copied(l []tlv.Section) []tlv.Section {
	out := make([]tlv.Section, len(l))
	for i, s := range l {
		out[i] = tlv.Section{Tag: s.Tag, B: slices.Clone(s.B)}
	}
	return out
}

// chance are so many bytes by chance.
func chance(r *rand.Rand, size int) []byte {
	out := make([]byte, size)
	for i := range out {
		out[i] = byte(r.Intn(256))
	}
	return out
}

// chanceSections are so many sections by chance, whose tags ascend.
func chanceSections(r *rand.Rand, count, most int) []tlv.Section {
	out := make([]tlv.Section, count)
	tag := uint32(r.Intn(3))
	for i := range out {
		out[i] = tlv.Section{Tag: tag, B: chance(r, r.Intn(most+1))}
		tag += 1 + uint32(r.Intn(1000))
	}
	return out
}

// someLists are lists of sections that a file can have: few, many, empty ones, tags at the edges.
func someLists() [][]tlv.Section {
	top := uint32(0xffffffff)
	out := [][]tlv.Section{
		nil,
		{},
		{{Tag: 0}},
		{{Tag: 0, B: []byte{}}},
		{{Tag: 7, B: []byte{9}}},
		{{Tag: top, B: []byte("the last")}},
		{{Tag: 0}, {Tag: top}},
		{{Tag: 0, B: []byte{0}}, {Tag: 1, B: []byte{0, 0, 0, 0}}, {Tag: 2}},
		{{Tag: 0x7fffffff, B: []byte{1, 2}}, {Tag: 0x80000000, B: []byte{3}}, {Tag: top - 1}, {Tag: top, B: []byte("PNCE")}},
		{{Tag: 255}, {Tag: 256}, {Tag: 65535}, {Tag: 65536}},
		{{Tag: 1, B: plainFile(3, []tlv.Section{{Tag: 1, B: []byte("within")}})}, {Tag: 2, B: make([]byte, 300)}},
		{{Tag: 5, B: bytes.Repeat([]byte{0xff}, 70000)}},
	}
	r := rand.New(rand.NewSource(19))
	for count := range 20 {
		out = append(out, chanceSections(r, count, 40))
	}
	return append(out, chanceSections(r, 300, 5), chanceSections(r, 4096, 2))
}

// plainDecode is what Decode answers after the chapter's words, but where there are too many bytes.
func plainDecode(b []byte) (uint32, []tlv.Section, api.Errno) {
	if len(b) < 16 {
		return 0, nil, api.ErrEnd
	}
	if b[0] != 'P' || b[1] != 'N' || b[2] != 'C' || b[3] != 'E' {
		return 0, nil, api.ErrForm
	}
	end := len(b) - 4
	if !bytes.Equal(summed(b[:end]), b) {
		return 0, nil, api.ErrSum
	}
	told := func(at int) int {
		return int(b[at]) + 256*int(b[at+1]) + 65536*int(b[at+2]) + 16777216*int(b[at+3])
	}
	if told(8) > 4096 {
		return 0, nil, api.ErrLong
	}
	var l []tlv.Section
	at, last := 12, -1
	for range told(8) {
		if at+8 > end || at+8+told(at+4)+4 > end {
			return 0, nil, api.ErrEnd
		}
		tag, behind := told(at), at+8+told(at+4)
		if !bytes.Equal(summed(b[at:behind]), b[at:behind+4]) {
			return 0, nil, api.ErrSum
		}
		if tag <= last {
			return 0, nil, api.ErrOrder
		}
		l = append(l, tlv.Section{Tag: uint32(tag), B: b[at+8 : behind]})
		last, at = tag, behind+4
	}
	if at != end {
		return 0, nil, api.ErrForm
	}
	return uint32(told(4)), l, 0
}

// decodes is an error of the test, if Decode answers anything but that, or changes what is handed in.
func decodes(t *testing.T, name string, b []byte, version uint32, l []tlv.Section, want api.Errno) {
	t.Helper()
	was := slices.Clone(b)
	gotVersion, got, err := tlv.Decode(b)
	if errno(err) != want || gotVersion != version || !sameSections(got, l) {
		t.Errorf("Decode of %s: version %d, %d sections, %v; not %d, %d, %v", name, gotVersion, len(got), err, version, len(l), want)
	}
	if !bytes.Equal(b, was) {
		t.Errorf("Decode of %s changed the file", name)
	}
}

// refuses is an error of the test, if Decode does not answer that error, and nothing beside it.
func refuses(t *testing.T, name string, b []byte, want api.Errno) {
	t.Helper()
	decodes(t, name, b, 0, nil, want)
}
