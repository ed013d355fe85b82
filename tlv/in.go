package tlv

import (
	"bytes"

	"pinnace/api"
)

// In takes them off again.
type In struct {
	b   []byte // what is left
	err error  // the first one
}

// NewIn begins at the first byte.
func NewIn(b []byte) *In { return &In{b: bytes.Clone(b)} }

// N is a number of so many bytes, up to a bound.
func (i *In) N(n int, most uint64) uint64 {
	if i == nil || i.err != nil {
		return 0
	}
	v, err := first(i.b, n)
	if err == nil && v > most {
		err = api.ErrRange
	}
	if err != nil {
		i.err = err
		return 0
	}
	i.b = i.b[n:]
	return v
}

// Run are bytes, at most so many.
func (i *In) Run(most int) []byte {
	if i == nil || i.err != nil {
		return nil
	}
	run, err := firstRun(i.b, most)
	if err != nil {
		i.err = err
		return nil
	}
	i.b = i.b[4+len(run):]
	return bytes.Clone(run)
}

// Done is an error, if something could not be taken off, or something is left.
func (i *In) Done() error {
	switch {
	case i == nil:
		return api.ErrArg
	case i.err != nil:
		return i.err
	case len(i.b) > 0:
		return api.ErrForm
	}
	return nil
}

// first is the number that the first n bytes make.
func first(b []byte, n int) (uint64, error) {
	if n < 1 || n > mostNumber {
		return 0, api.ErrArg
	}
	if len(b) < n {
		return 0, api.ErrEnd
	}
	return number(b[:n]), nil
}

// firstRun are the bytes that Out's Run laid first, of which there may be so many; they share their memory with all.
func firstRun(b []byte, most int) ([]byte, error) {
	if most < 0 {
		return nil, api.ErrArg
	}
	size, err := first(b, 4)
	if err != nil {
		return nil, err
	}
	if size > uint64(most) {
		return nil, api.ErrLong
	}
	b = b[4:]
	if size > uint64(len(b)) {
		return nil, api.ErrEnd
	}
	return b[:size], nil
}

// number is the number that bytes make, the lowest first.
func number(b []byte) uint64 {
	v := uint64(0)
	for i, c := range b {
		v |= uint64(c) << (8 * i)
	}
	return v
}
