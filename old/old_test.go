package old_test

import (
	"bytes"
	"errors"
	"fmt"
	"slices"
	"testing"

	"pinnace/api"
	"pinnace/mem"
	"pinnace/old"
	"pinnace/save"
	"pinnace/soc"
	"pinnace/tlv"
)

// base is memory's first place on the bus, page how many bytes a page has, by hand.
const (
	base = 0x80000000
	page = 4096
)

// errno is the number that errors.As finds in an error; 0 of nil, -1 of another error.
func errno(err error) api.Errno {
	if err == nil {
		return 0
	}
	var e api.Errno
	if errors.As(err, &e) {
		return e
	}
	return -1
}

// must fails the test at an error.
func must(t *testing.T, err error) {
	t.Helper()
	if err != nil {
		t.Fatal(err)
	}
}

// told is a config and a state as a text; lists that are nil and empty ones are told alike.
func told(c soc.Config, s soc.State) string { return fmt.Sprintf("%+v %+v", c, s) }

// encoded is a machine's file of some version.
func encoded(t *testing.T, x *soc.Machine, version int) []byte {
	t.Helper()
	b, err := old.Encode(x, version)
	must(t, err)
	return b
}

// saved is a machine's file of version 3, by save.
func saved(t *testing.T, x *soc.Machine) []byte {
	t.Helper()
	b, err := save.Encode(x)
	must(t, err)
	return b
}

// fileOf is a file of some version.
func fileOf(t *testing.T, version uint32, l []tlv.Section) []byte {
	t.Helper()
	b, err := tlv.Encode(version, l)
	must(t, err)
	return b
}

// sectionsOf are the sections of a file, which must be of a version.
func sectionsOf(t *testing.T, version uint32, b []byte) []tlv.Section {
	t.Helper()
	v, l, err := tlv.Decode(b)
	if err != nil || v != version {
		t.Fatalf("version %d: %v", v, err)
	}
	return l
}

// instead are sections of which one is of other bytes; none of them shares memory with those that were given.
func instead(l []tlv.Section, tag int, b []byte) []tlv.Section {
	out := make([]tlv.Section, len(l))
	for i, s := range l {
		out[i] = tlv.Section{Tag: s.Tag, B: slices.Clone(s.B)}
	}
	out[tag-1].B = slices.Clone(b)
	return out
}

// with are sections of which one has other bytes from a place on.
func with(l []tlv.Section, tag, at int, b ...byte) []tlv.Section {
	own := slices.Clone(l[tag-1].B)
	copy(own[at:], b)
	return instead(l, tag, own)
}

// fill writes to bytes, and to the room behind them.
func fill(b []byte, c byte) {
	b = b[:cap(b)]
	for i := range b {
		b[i] = c
	}
}

// all are the calls that take a file; each tells whether something is answered beside the error.
var all = map[string]func(b []byte) (bool, error){
	"Up":      func(b []byte) (bool, error) { out, err := old.Up(b); return len(out) > 0, err },
	"Upgrade": func(b []byte) (bool, error) { out, err := old.Upgrade(b); return len(out) > 0, err },
	"Read":    func(b []byte) (bool, error) { x, err := old.Read(b); return x != nil, err },
}

// isRefused fails the test, if not each call answers this error of bytes, and nothing beside it, or if one changes them.
func isRefused(t *testing.T, name string, b []byte, want api.Errno) {
	t.Helper()
	was := slices.Clone(b)
	for call, f := range all {
		if is, err := f(b); errno(err) != want || is {
			t.Errorf("%s of %s: %v, not %v; something beside it: %v", call, name, err, want, is)
		}
	}
	if !bytes.Equal(b, was) {
		t.Errorf("%s: what was handed in is changed", name)
	}
}

// isTaken fails the test, if a file of some version does not become the next version's, the last version's and the
// machine that it must become, or if it is changed by that.
func isTaken(t *testing.T, name string, b []byte, version int, w world) {
	t.Helper()
	was := slices.Clone(b)
	last := fileOf(t, 3, lastSections(t, w))
	next := b
	switch version {
	case 1:
		next = fileOf(t, 2, secondSections(w))
	case 2:
		next = last
	}
	if got, err := old.Up(b); err != nil || !bytes.Equal(got, next) {
		t.Errorf("Up of %s, version %d: %v, %d bytes, not %d, or other ones", name, version, err, len(got), len(next))
	}
	if got, err := old.Upgrade(b); err != nil || !bytes.Equal(got, last) {
		t.Errorf("Upgrade of %s, version %d: %v, %d bytes, not %d, or other ones", name, version, err, len(got), len(last))
	}
	x, err := old.Read(b)
	if err != nil {
		t.Errorf("Read of %s, version %d: %v", name, version, err)
		return
	}
	isWorld(t, fmt.Sprintf("%s, version %d", name, version), x, w)
	if !bytes.Equal(b, was) {
		t.Errorf("%s: what was handed in is changed", name)
	}
}

// isWorld fails the test, if a machine is not just this one, or if a page of it is dirty.
func isWorld(t *testing.T, name string, x *soc.Machine, w world) {
	t.Helper()
	if got, want := told(x.Config(), x.State()), told(w.c, w.s); got != want {
		t.Errorf("%s: the machine is\n%s, not\n%s", name, got, want)
	}
	if !soc.Same(x, w.machine(t)) {
		t.Errorf("%s: another machine", name)
	}
	if n := len(x.Mem().Dirty()); n > 0 {
		t.Errorf("%s: %d pages are dirty", name, n)
	}
}

// ram is memory of these bytes.
func ram(t *testing.T, b []byte) *mem.Ram {
	t.Helper()
	m, err := mem.New(len(b) / page)
	must(t, err)
	must(t, m.Write(0, b))
	return m
}

// newMachine is a machine at first.
func newMachine(t *testing.T, c soc.Config, code ...uint32) *soc.Machine {
	t.Helper()
	x, err := soc.New(c, code)
	must(t, err)
	return x
}
