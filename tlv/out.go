package tlv

import "bytes"

// mostNumber is how many bytes a number has at most.
const mostNumber = 8

// Out lays numbers and bytes behind one another.
type Out struct{ b []byte }

// NewOut has nothing.
func NewOut() *Out { return &Out{} }

// N lays a number of so many bytes.
func (o *Out) N(v uint64, n int) *Out {
	if o != nil && 1 <= n && n <= mostNumber {
		o.b = lay(o.b, v, n)
	}
	return o
}

// Run lays bytes, and how many they are.
func (o *Out) Run(b []byte) *Out {
	if o != nil {
		o.b = layRun(o.b, b)
	}
	return o
}

// Done are all bytes.
func (o *Out) Done() []byte {
	if o == nil {
		return nil
	}
	return bytes.Clone(o.b)
}

// lay lays a number's lowest bytes, the lowest first.
func lay(out []byte, v uint64, n int) []byte {
	for range n {
		out = append(out, byte(v))
		v >>= 8
	}
	return out
}

// layRun lays how many bytes there are, and them.
func layRun(out, b []byte) []byte {
	return append(lay(out, uint64(len(b)), 4), b...)
}
