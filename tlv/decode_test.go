package tlv_test

import (
	"bytes"
	"math/rand"
	"slices"
	"testing"

	"pinnace/api"
	"pinnace/tlv"
)

// TL1: files of all kinds of lists.
func TestDecodeOfFiles(t *testing.T) {
	for _, l := range someLists() {
		for _, version := range []uint32{0, 3, 0x80000000, 0xffffffff} {
			decodes(t, "a file", plainFile(version, l), version, l, 0)
		}
	}
}

// TL1: fewer than 16 bytes, whatever they are.
func TestDecodeOfFewBytes(t *testing.T) {
	whole := plainFile(3, nil)
	refuses(t, "nil", nil, api.ErrEnd)
	for size := range 16 {
		refuses(t, "the first bytes of a file", whole[:size], api.ErrEnd)
		refuses(t, "noughts", make([]byte, size), api.ErrEnd)
		if size >= 4 {
			refuses(t, "a sum of few bytes", summed(whole[:size-4]), api.ErrEnd)
		}
	}
	refuses(t, "16 noughts", make([]byte, 16), api.ErrForm)
}

// TL1: another beginning, though the sum is right.
func TestDecodeOfAnotherBeginning(t *testing.T) {
	for _, l := range someLists()[:12] {
		whole := plainFile(3, l)
		for at := range 4 {
			for bit := range 8 {
				b := slices.Clone(whole[:len(whole)-4])
				b[at] ^= 1 << bit
				refuses(t, "another beginning", summed(b), api.ErrForm)
				refuses(t, "another beginning, and a wrong sum", append(b, 1, 2, 3, 4), api.ErrForm)
			}
		}
	}
	for _, begin := range []string{"ECNP", "pnce", "PNCF", "NCEP", "\x00PNC", "PN\x00E"} {
		refuses(t, "another beginning", summed(joined([]byte(begin), make([]byte, 8))), api.ErrForm)
	}
}

// TL1: a wrong sum at the end is found ahead of all that is within.
func TestDecodeOfAWrongSumAtTheEnd(t *testing.T) {
	files := [][]byte{
		plainFile(3, nil),
		plainFile(3, []tlv.Section{{Tag: 1, B: []byte("abc")}}),
		fileOf(3, 4097),
		fileOf(3, 1),
		fileOf(3, 0, []byte{1}),
		fileOf(3, 2, part(1, 0, nil), part(1, 0, nil)),
		fileOf(3, 1, joined(little(1), little(0), []byte{1, 2, 3, 4})),
	}
	for _, whole := range files {
		for at := len(whole) - 4; at < len(whole); at++ {
			for bit := range 8 {
				b := slices.Clone(whole)
				b[at] ^= 1 << bit
				refuses(t, "a wrong sum at the end", b, api.ErrSum)
			}
		}
		end := len(whole) - 4
		back := joined(whole[:end], []byte{whole[end+3], whole[end+2], whole[end+1], whole[end]})
		refuses(t, "a sum that stands backwards", back, api.ErrSum)
		refuses(t, "a byte more", append(slices.Clone(whole), 1), api.ErrSum)
	}
	// The sum of bytes with their sum is 0, so that noughts behind leave it right: what they are is found by the form.
	refuses(t, "four noughts behind a file", append(plainFile(3, nil), 0, 0, 0, 0), api.ErrForm)
}

// TL1: counts of sections that are too great, too small, and more than there are.
func TestDecodeOfWrongCounts(t *testing.T) {
	one, two := part(1, 3, []byte("abc")), part(2, 0, nil)
	for _, told := range []int{4097, 4098, 65536, 1 << 24, 0x7fffffff, 0x80000000, 0xffffffff} {
		refuses(t, "too great a count, of nothing", fileOf(3, told), api.ErrLong)
		refuses(t, "too great a count", fileOf(3, told, one, two), api.ErrLong)
		refuses(t, "too great a count, and a wrong section", fileOf(3, told, make([]byte, 11)), api.ErrLong)
	}
	for _, told := range []int{1, 2, 256, 4095, 4096} {
		refuses(t, "a count of more than there are, which is nothing", fileOf(3, told), api.ErrEnd)
	}
	for _, told := range []int{3, 4, 255, 256, 4096} {
		refuses(t, "a count of more than the two that there are", fileOf(3, told, one, two), api.ErrEnd)
	}
	refuses(t, "a count of fewer than there are: 0", fileOf(3, 0, one, two), api.ErrForm)
	refuses(t, "a count of fewer than there are: 1", fileOf(3, 1, one, two), api.ErrForm)
	decodes(t, "a right count", fileOf(3, 2, one, two), 3, []tlv.Section{{Tag: 1, B: []byte("abc")}, {Tag: 2}}, 0)
	for _, count := range []int{4095, 4096} {
		parts := make([][]byte, count)
		for i := range parts {
			parts[i] = part(i, 0, nil)
		}
		decodes(t, "many sections", fileOf(3, count, parts...), 3, numbered(count), 0)
		refuses(t, "many sections, and one told more", fileOf(3, count-1, parts...), api.ErrForm)
	}
}

// TL1: a section that goes on behind what is ahead of the last sum, be it by its head, by its bytes, or by its sum.
func TestDecodeOfASectionThatGoesOn(t *testing.T) {
	ahead := part(1, 2, []byte("ab"))
	for size := range 12 {
		refuses(t, "a section of few bytes", fileOf(3, 1, make([]byte, size)), api.ErrEnd)
		refuses(t, "a second section of few bytes", fileOf(3, 2, ahead, joined(little(2), make([]byte, 8))[:size]), api.ErrEnd)
	}
	for _, told := range []int{4, 5, 6, 7, 8, 15, 16, 255, 256, 1 << 16, 1 << 27, 0x7ffffff0, 0x7fffffff, 0x80000000, 0xfffffff3, 0xfffffff4, 0xfffffff8, 0xffffffff} {
		refuses(t, "a section that tells more bytes than it has", fileOf(3, 1, part(2, told, []byte("abc"))), api.ErrEnd)
		refuses(t, "a second such one", fileOf(3, 2, ahead, part(2, told, []byte("abc"))), api.ErrEnd)
		refuses(t, "a second such one, whose tag isn't above the first", fileOf(3, 2, ahead, part(1, told, []byte("abc"))), api.ErrEnd)
	}
	// Its last four bytes would be the file's sum.
	b := joined([]byte("PNCE"), little(3), little(1), little(1), little(3), []byte("abc"))
	refuses(t, "a section whose sum is the file's", summed(b), api.ErrEnd)
	refuses(t, "a section that tells fewer bytes than it has", fileOf(3, 1, part(2, 2, []byte("abc"))), api.ErrSum)
}

// TL1: a wrong sum of a section, though the file's is right.
func TestDecodeOfAWrongSumOfASection(t *testing.T) {
	good := [][]byte{part(1, 3, []byte("abc")), part(2, 0, nil), part(3, 5, []byte("12345"))}
	for which := range good {
		whole := good[which]
		for at := range whole {
			if 4 <= at && at < 8 {
				continue // how many bytes there are: told elsewhere
			}
			for bit := range 8 {
				wrong := slices.Clone(good)
				wrong[which] = slices.Clone(whole)
				wrong[which][at] ^= 1 << bit
				refuses(t, "a section that was changed", fileOf(3, 3, wrong...), api.ErrSum)
			}
		}
		wrong := slices.Clone(good)
		end := len(whole) - 4
		wrong[which] = joined(whole[:end], []byte{whole[end+3], whole[end+2], whole[end+1], whole[end]})
		refuses(t, "a section's sum that stands backwards", fileOf(3, 3, wrong...), api.ErrSum)
	}
	bad := joined(little(0), little(0), []byte{1, 2, 3, 4})
	refuses(t, "a wrong sum, and no order", fileOf(3, 2, part(0, 0, nil), bad), api.ErrSum)
	refuses(t, "a wrong sum, and something left", fileOf(3, 1, bad, []byte{1}), api.ErrSum)
	refuses(t, "no order, and a wrong sum behind", fileOf(3, 3, part(1, 0, nil), part(1, 0, nil), bad), api.ErrOrder)
	refuses(t, "a wrong sum, and an end behind", fileOf(3, 2, bad), api.ErrSum)
}

// TL1: tags that don't ascend.
func TestDecodeOfTagsOutOfOrder(t *testing.T) {
	pairs := [][2]int{{0, 0}, {1, 0}, {1, 1}, {0xffffffff, 0}, {0xffffffff, 0xffffffff}, {0x80000000, 0x7fffffff}, {256, 255}}
	for _, p := range pairs {
		first, second := part(p[0], 1, []byte{1}), part(p[1], 1, []byte{2})
		refuses(t, "two tags", fileOf(3, 2, first, second), api.ErrOrder)
		refuses(t, "two tags, and something left", fileOf(3, 2, first, second, []byte{7}), api.ErrOrder)
		refuses(t, "two tags, and a section that is none", fileOf(3, 3, first, second), api.ErrOrder)
	}
	refuses(t, "a tag that descends behind others", fileOf(3, 4, part(1, 0, nil), part(2, 0, nil), part(3, 0, nil), part(2, 0, nil)), api.ErrOrder)
	refuses(t, "a tag that descends ahead of others", fileOf(3, 4, part(2, 0, nil), part(1, 0, nil), part(3, 0, nil), part(4, 0, nil)), api.ErrOrder)
	refuses(t, "a tag twice, but not one behind the other", fileOf(3, 3, part(1, 0, nil), part(2, 0, nil), part(1, 0, nil)), api.ErrOrder)
}

// TL1: something left between the last section and the sum at the end.
func TestDecodeOfSomethingLeft(t *testing.T) {
	for size := 1; size < 20; size++ {
		left := bytes.Repeat([]byte{byte(size)}, size)
		refuses(t, "no sections, and something left", fileOf(3, 0, left), api.ErrForm)
		refuses(t, "a section, and something left", fileOf(3, 1, part(1, 1, []byte{5}), left), api.ErrForm)
		refuses(t, "a section, and noughts left", fileOf(3, 1, part(1, 1, []byte{5}), make([]byte, size)), api.ErrForm)
	}
}

// TL1: more than 2^27 bytes, whatever they are.
func TestDecodeOfManyBytes(t *testing.T) {
	b := make([]byte, 1<<27+1)
	refuses(t, "a byte more than 2^27", b, api.ErrLong)
	refuses(t, "2^27 bytes that don't begin so", b[:1<<27], api.ErrForm)
	copy(b, "PNCE")
	refuses(t, "a byte more than 2^27 that begin so", b, api.ErrLong)
	refuses(t, "2^27 bytes of a wrong sum", b[:1<<27], api.ErrSum)
}

// TL1: Decode against the chapter's words, of files that were changed by chance, whose sums at the end, and often the sections', are right.
func TestDecodeAfterTheWords(t *testing.T) {
	r := rand.New(rand.NewSource(190))
	seen := map[api.Errno]int{}
	for range 30000 {
		var parts [][]byte
		for _, s := range chanceSections(r, r.Intn(5), 6) {
			told := len(s.B)
			if r.Intn(12) == 0 {
				told = r.Intn(20)
			}
			parts = append(parts, part(int(s.Tag), told, s.B))
		}
		spoil(r, parts)
		told := len(parts)
		if r.Intn(6) == 0 {
			told = []int{0, 1, 2, 3, 4, 5, 4096, 4097}[r.Intn(8)]
		}
		b := fileOf(r.Intn(5), told, parts...)
		if r.Intn(20) == 0 {
			b[r.Intn(len(b))] ^= 1 << r.Intn(8)
		}
		version, l, want := plainDecode(b)
		decodes(t, "a file by chance", b, version, l, want)
		seen[want]++
	}
	for _, e := range []api.Errno{0, api.ErrLong, api.ErrEnd, api.ErrForm, api.ErrSum, api.ErrOrder} {
		if seen[e] < 100 {
			t.Errorf("%v came %d times alone", e, seen[e])
		}
	}
}

// spoil changes sections as bytes: a bit of one, two of them in turn, or bytes behind one.
func spoil(r *rand.Rand, parts [][]byte) {
	if len(parts) == 0 {
		return
	}
	a, b := r.Intn(len(parts)), r.Intn(len(parts))
	switch r.Intn(8) {
	case 0:
		parts[a][r.Intn(len(parts[a]))] ^= 1 << r.Intn(8)
	case 1:
		parts[a], parts[b] = parts[b], parts[a]
	case 2:
		parts[a] = parts[b]
	case 3:
		parts[a] = append(slices.Clone(parts[a]), chance(r, r.Intn(4))...)
	}
}

// TL1: bytes by chance are no file.
func TestDecodeOfBytesByChance(t *testing.T) {
	r := rand.New(rand.NewSource(191))
	for range 20000 {
		b := chance(r, r.Intn(60))
		if r.Intn(2) == 0 {
			copy(b, "PNCE")
		}
		if len(b) > 4 && r.Intn(2) == 0 {
			b = summed(b[:len(b)-4])
		}
		version, l, want := plainDecode(b)
		decodes(t, "bytes by chance", b, version, l, want)
	}
}
