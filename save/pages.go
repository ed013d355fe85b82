package save

import (
	"pinnace/api"
	"pinnace/mem"
)

// pageBytes is how many bytes a page takes in its section: its number, and its own.
const pageBytes = wordBytes + api.PageSize

// page is a page's number, and its bytes.
type page struct {
	number int
	b      []byte
}

// Pages is a section of the pages of memory that hold something.
func Pages(m *mem.Ram) []byte {
	if m == nil {
		return nil
	}
	held := pagesOf(m)
	out := make([]byte, 0, wordBytes+len(held)*pageBytes)
	out = append(out, layNumber(len(held))...)
	for _, p := range held {
		out = append(out, layNumber(p.number)...)
		out = append(out, p.b...)
	}
	return out
}

// Fill is memory of so many pages that a section tells.
func Fill(pages int, b []byte) (*mem.Ram, error) {
	m, err := mem.New(pages)
	if err != nil {
		return nil, err
	}
	if !isWhole(b) {
		return nil, api.ErrForm
	}
	next := 0 // the lowest number that may come, as they ascend
	for at := wordBytes; at < len(b); at += pageBytes {
		p := takePage(b[at : at+pageBytes])
		if p.number < next || p.number >= pages || areNoughts(p.b) {
			return nil, api.ErrForm
		}
		if err := m.SetPage(p.number, p.b); err != nil {
			return nil, err
		}
		next = p.number + 1
	}
	// What memory begins with was not written by a machine.
	m.Harvest()
	return m, nil
}

// pagesOf are memory's pages that hold a byte that is not 0.
func pagesOf(m *mem.Ram) []page {
	var out []page
	for number := range m.Pages() {
		b, err := m.Page(number)
		if err == nil && !areNoughts(b) {
			out = append(out, page{number, b})
		}
	}
	return out
}

// isWhole tells whether bytes are just so many pages as their first number tells.
func isWhole(b []byte) bool {
	if len(b) < wordBytes {
		return false
	}
	count := newReader(b[:wordBytes]).word()
	return uint64(len(b)) == wordBytes+uint64(count)*pageBytes
}

// takePage is the page that pageBytes bytes tell.
func takePage(b []byte) page {
	return page{number: int(newReader(b[:wordBytes]).word()), b: b[wordBytes:]}
}

// layNumber are the bytes of a number.
func layNumber(n int) []byte {
	w := newWriter()
	w.words(uint32(n))
	return w.Done()
}

// areNoughts tells whether all bytes are 0.
func areNoughts(b []byte) bool {
	for _, c := range b {
		if c != 0 {
			return false
		}
	}
	return true
}
