package tlv_test

import (
	"bytes"
	"testing"

	"pinnace/api"
	"pinnace/tlv"
)

// finds is an error of the test, if Find answers anything but that.
func finds(t *testing.T, l []tlv.Section, tag uint32, want []byte, code api.Errno) {
	t.Helper()
	was := copied(l)
	got, err := tlv.Find(l, tag)
	if errno(err) != code || !bytes.Equal(got, want) {
		t.Errorf("Find of %d of %d sections: %x, %v; not %x, %v", tag, len(l), got, err, want, code)
	}
	if !sameSections(l, was) {
		t.Errorf("Find of %d changed the sections", tag)
	}
}

// TL1: a tag that is there, one that is not, and one of none.
func TestFind(t *testing.T) {
	l := []tlv.Section{{Tag: 0, B: []byte("a")}, {Tag: 7, B: []byte("bc")}, {Tag: 8}, {Tag: 0xffffffff, B: []byte("def")}}
	finds(t, l, 0, []byte("a"), 0)
	finds(t, l, 7, []byte("bc"), 0)
	finds(t, l, 8, nil, 0)
	finds(t, l, 0xffffffff, []byte("def"), 0)
	for _, tag := range []uint32{1, 6, 9, 255, 256, 0x7fffffff, 0xfffffffe} {
		finds(t, l, tag, nil, api.ErrNone)
	}
	for _, tag := range []uint32{0, 1, 0xffffffff} {
		finds(t, nil, tag, nil, api.ErrNone)
		finds(t, []tlv.Section{}, tag, nil, api.ErrNone)
	}
}

// TL1: of several of a tag the first one; and where tags don't ascend.
func TestFindTheFirst(t *testing.T) {
	l := []tlv.Section{{Tag: 9, B: []byte("nine")}, {Tag: 3, B: []byte("first")}, {Tag: 3, B: []byte("second")}, {Tag: 1, B: []byte("one")}, {Tag: 9, B: []byte("again")}, {Tag: 5}, {Tag: 5, B: []byte("five")}}
	finds(t, l, 3, []byte("first"), 0)
	finds(t, l, 9, []byte("nine"), 0)
	finds(t, l, 1, []byte("one"), 0)
	finds(t, l, 5, nil, 0)
	finds(t, l, 2, nil, api.ErrNone)
	finds(t, l[2:], 3, []byte("second"), 0)
}

// TL1: each section of a file that was taken apart.
func TestFindOfFiles(t *testing.T) {
	for _, l := range someLists() {
		_, got, err := tlv.Decode(plainFile(1, l))
		if err != nil {
			t.Errorf("Decode of %d sections: %v", len(l), err)
		}
		step := 1 + len(l)/100
		for i := 0; i < len(l); i += step {
			finds(t, got, l[i].Tag, l[i].B, 0)
		}
	}
}
