package tlv_test

import (
	"bytes"
	"slices"
	"testing"

	"pinnace/tlv"
)

// room are bytes in a greater room, all of which is 0x5a behind them.
func room(b []byte) []byte {
	return append(slices.Clone(b), bytes.Repeat([]byte{0x5a}, 16)...)[:len(b)]
}

// fill writes to bytes, and to the room behind them.
func fill(b []byte, c byte) {
	b = b[:cap(b)]
	for i := range b {
		b[i] = c
	}
}

// keeps is an error of the test, if bytes that room made, or the room behind them, are other ones now.
func keeps(t *testing.T, name string, b, was []byte) {
	t.Helper()
	if !bytes.Equal(b, was) {
		t.Errorf("%s: what was handed in is another one", name)
	}
	if !bytes.Equal(b[len(b):len(b)+16], bytes.Repeat([]byte{0x5a}, 16)) {
		t.Errorf("%s: the room behind what was handed in is another one", name)
	}
}

// TL1: what Encode answers is new memory, and what is handed in is not changed, not even the room behind it.
func TestEncodeAnswersNewMemory(t *testing.T) {
	for _, l := range someLists() {
		mine := copied(l)
		for i := range mine {
			mine[i].B = room(l[i].B)
		}
		more := append(mine, tlv.Section{Tag: 77})
		one, err := tlv.Encode(3, more[:len(l)])
		two, err2 := tlv.Encode(3, mine)
		if err != nil || err2 != nil {
			t.Fatalf("Encode of %d sections: %v, %v", len(l), err, err2)
		}
		fill(one, 0x11)
		for i := range l {
			keeps(t, "Encode", mine[i].B, l[i].B)
			fill(mine[i].B, 0x22)
		}
		if more[len(l)].Tag != 77 {
			t.Error("Encode wrote behind the list")
		}
		if !bytes.Equal(two, plainFile(3, l)) {
			t.Errorf("an answer of Encode of %d sections shares memory", len(l))
		}
	}
}

// holdTheirNumbers is an error of the test, if a section's bytes are not all its number in the list.
func holdTheirNumbers(t *testing.T, got, l []tlv.Section) {
	t.Helper()
	for i := range l {
		if !bytes.Equal(got[i].B, bytes.Repeat([]byte{byte(i)}, len(l[i].B))) {
			t.Errorf("two sections of one answer of %d share memory: %d", len(l), i)
		}
	}
}

// TL1: no two sections that Decode answers, and none and the file, share memory.
func TestDecodeAnswersNewMemory(t *testing.T) {
	for _, l := range someLists() {
		file := plainFile(3, l)
		mine := room(file)
		_, one, err := tlv.Decode(mine)
		_, two, err2 := tlv.Decode(mine)
		if err != nil || err2 != nil {
			t.Fatalf("Decode of %d sections: %v, %v", len(l), err, err2)
		}
		for i := range one {
			fill(one[i].B, byte(i))
		}
		holdTheirNumbers(t, one, l)
		for i := len(one) - 1; i >= 0; i-- {
			fill(one[i].B, byte(i))
		}
		holdTheirNumbers(t, one, l)
		keeps(t, "Decode", mine, file)
		fill(mine, 0x33)
		if !sameSections(two, l) {
			t.Errorf("an answer of Decode of %d sections shares memory", len(l))
		}
	}
}

// TL1: what Find answers is new memory.
func TestFindAnswersNewMemory(t *testing.T) {
	b := room([]byte("abc"))
	l := []tlv.Section{{Tag: 1, B: b}}
	one, _ := tlv.Find(l, 1)
	two, _ := tlv.Find(l, 1)
	fill(one, 0x11)
	keeps(t, "Find", b, []byte("abc"))
	fill(b, 0x22)
	if string(two) != "abc" {
		t.Errorf("an answer of Find shares memory: %x", two)
	}
	b = room(nil)
	none, _ := tlv.Find([]tlv.Section{{Tag: 1, B: b}}, 1)
	fill(none, 0x11)
	keeps(t, "Find of no bytes", b, nil)
}

// TL2: an Out keeps nothing that is handed in, and what Done answers is new memory.
func TestOutAnswersNewMemory(t *testing.T) {
	for _, text := range []string{"", "a", "abcdefgh", "0123456789012345678901234567890123456789"} {
		b := room([]byte(text))
		o := tlv.NewOut().N(1, 1).Run(b)
		want := joined([]byte{1}, little(len(text)), []byte(text))
		one := o.Done()
		fill(one, 0x11)
		keeps(t, "Out", b, []byte(text))
		fill(b, 0x22)
		lays(t, "behind what was handed in", o, want)
		two := o.Done()
		o.N(9, 8).Run([]byte("more"))
		if !bytes.Equal(two, want) {
			t.Errorf("what Done answered is another one: %x", two)
		}
		fill(two, 0x33)
		lays(t, "behind what was answered", o, joined(want, []byte{9, 0, 0, 0, 0, 0, 0, 0}, little(4), []byte("more")))
	}
}

// TL2: an In keeps nothing that is handed in, and what Run answers is new memory.
func TestInAnswersNewMemory(t *testing.T) {
	whole := joined(little(3), []byte("abc"), little(0), little(2), []byte("de"), []byte{6, 7})
	b := room(whole)
	i := tlv.NewIn(b)
	one := i.Run(3)
	fill(one, 0x11)
	keeps(t, "In", b, whole)
	fill(b, 0x22)
	none := i.Run(5)
	fill(none, 0x33)
	two := i.Run(2)
	if string(two) != "de" {
		t.Errorf("Run: %x", two)
	}
	fill(two, 0x44)
	takes(t, i, 2, 0xffff, 0x0706)
	ends(t, "all", i, 0)
}
