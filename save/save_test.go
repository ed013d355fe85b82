package save_test

import (
	"bytes"
	"errors"
	"fmt"
	"slices"
	"testing"

	"pinnace/api"
	"pinnace/mem"
	"pinnace/save"
	"pinnace/soc"
	"pinnace/tlv"
)

// base is memory's first place on the bus, page how many bytes a page has, by hand.
const (
	base = 0x80000000
	page = 4096
)

// errno is the number that errors.As finds in an error; 0 of nil, -1 of another error.
func errno(err error) api.Errno {
	if err == nil {
		return 0
	}
	var e api.Errno
	if errors.As(err, &e) {
		return e
	}
	return -1
}

// must fails the test at an error.
func must(t *testing.T, err error) {
	t.Helper()
	if err != nil {
		t.Fatal(err)
	}
}

// little are the lowest bytes of a number, the lowest one first.
func little(v uint64, size int) []byte {
	out := make([]byte, size)
	for i := range out {
		out[i] = byte(v >> (8 * i))
	}
	return out
}

// told is a config and a state as a text; lists that are nil and empty ones are told alike.
func told(c soc.Config, s soc.State) string { return fmt.Sprintf("%+v %+v", c, s) }

// isRefused fails the test, if Whole does not answer this error, and nothing beside it.
func isRefused(t *testing.T, name string, l []tlv.Section, want api.Errno) {
	t.Helper()
	c, s, err := save.Whole(l)
	if errno(err) != want || told(c, s) != told(soc.Config{}, soc.State{}) {
		t.Errorf("Whole of %s: %v, not %v; beside it: %s", name, err, want, told(c, s))
	}
}

// isWhole fails the test, if Whole does not answer this config and this state.
func isWhole(t *testing.T, name string, l []tlv.Section, c soc.Config, s soc.State) {
	t.Helper()
	gotC, gotS, err := save.Whole(l)
	if err != nil || told(gotC, gotS) != told(c, s) {
		t.Errorf("Whole of %s: %v\n%s\nnot\n%s", name, err, told(gotC, gotS), told(c, s))
	}
}

// sameSections tells whether two lists hold the same.
func sameSections(a, b []tlv.Section) bool {
	return slices.EqualFunc(a, b, func(x, y tlv.Section) bool { return x.Tag == y.Tag && bytes.Equal(x.B, y.B) })
}

// copied are sections in memory of their own.
func copied(l []tlv.Section) []tlv.Section {
	out := make([]tlv.Section, len(l))
	for i, s := range l {
		out[i] = tlv.Section{Tag: s.Tag, B: slices.Clone(s.B)}
	}
	return out
}

// with are sections of which one has other bytes from a place on.
func with(l []tlv.Section, tag, at int, b []byte) []tlv.Section {
	out := copied(l)
	copy(out[tag-1].B[at:], b)
	return out
}

// instead are sections of which one is of other bytes.
func instead(l []tlv.Section, tag int, b []byte) []tlv.Section {
	out := copied(l)
	out[tag-1].B = slices.Clone(b)
	return out
}

// fill writes to bytes, and to the room behind them.
func fill(b []byte, c byte) {
	b = b[:cap(b)]
	for i := range b {
		b[i] = c
	}
}

// ram is memory of so many pages.
func ram(t *testing.T, pages int) *mem.Ram {
	t.Helper()
	m, err := mem.New(pages)
	must(t, err)
	return m
}

// ramOf is memory of so many pages, of which some hold a byte at a place.
func ramOf(t *testing.T, pages int, set map[uint32]byte) *mem.Ram {
	t.Helper()
	m := ram(t, pages)
	for at, c := range set {
		must(t, m.Write(at, []byte{c}))
	}
	return m
}

// machine is a machine with a state, and memory.
func machine(t *testing.T, c soc.Config, s soc.State, m *mem.Ram) *soc.Machine {
	t.Helper()
	x, err := soc.Load(c, s, m)
	must(t, err)
	return x
}

// newMachine is a machine at first.
func newMachine(t *testing.T, c soc.Config) *soc.Machine {
	t.Helper()
	x, err := soc.New(c, nil)
	must(t, err)
	return x
}

// encoded are a machine's bytes.
func encoded(t *testing.T, x *soc.Machine) []byte {
	t.Helper()
	b, err := save.Encode(x)
	must(t, err)
	return b
}

// fileOf is a file of some version.
func fileOf(t *testing.T, version uint32, l []tlv.Section) []byte {
	t.Helper()
	b, err := tlv.Encode(version, l)
	must(t, err)
	return b
}
