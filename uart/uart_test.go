package uart_test

import (
	"errors"
	"fmt"
	"math"
	"testing"

	"pinnace/api"
	"pinnace/uart"
)

// errno is the number that errors.As finds in an error; 0 of nil, -1 of another error.
func errno(err error) api.Errno {
	if err == nil {
		return 0
	}
	var e api.Errno
	if errors.As(err, &e) {
		return e
	}
	return -1
}

// fifo is the bytes of a text that wait.
func fifo(text string) uart.Fifo {
	f := uart.Fifo{N: len(text)}
	copy(f.B[:], text)
	return f
}

// letters is sixteen bytes, no two of them the same.
const letters = "abcdefghijklmnop"

// full has another value in each part, and both fifos have bytes.
func full() uart.State {
	return uart.State{Rx: fifo("xyz"), Tx: fifo("uvw!"), Ier: 5, Lcr: 0x1b, Mcr: 0x0a, Scr: 0xc3, Dll: 0xd4, Dlm: 0xe6, Over: true, Wait: 2}
}

// with is a state that is changed by a function.
func with(s uart.State, change func(*uart.State)) uart.State {
	change(&s)
	return s
}

// atDivisor is a state whose places 0 and 1 mean Dll and Dlm.
func atDivisor(s uart.State) uart.State {
	s.Lcr |= 0x80
	return s
}

// noPlaces are places that nobody answers: those behind the others, and ones that are another's but for a bit.
func noPlaces() []uint32 {
	var out []uint32
	for at := uint32(8); at < 600; at++ {
		out = append(out, at)
	}
	for b := 3; b < 32; b++ {
		for at := range uint32(8) {
			out = append(out, at|1<<b)
		}
	}
	for at := range uint32(8) {
		out = append(out, 0x10000000+at, math.MaxUint32-at, math.MaxInt32-at)
	}
	return out
}

// oddFifos are those that can't be: of too few and too many bytes, and with one behind them.
func oddFifos() []uart.Fifo {
	var out []uart.Fifo
	for _, n := range []int{-1, -2, -16, -17, 17, 18, 32, 255, 256, 1 << 32, 1<<32 + 1, math.MinInt, math.MaxInt, math.MinInt32, math.MaxInt32} {
		f := fifo(letters)
		f.N = n
		out = append(out, f, uart.Fifo{N: n})
	}
	for n := range 16 {
		for i := n; i < 16; i++ {
			for _, c := range []byte{1, 0x80, 0xff} {
				f := fifo(letters[:n])
				f.B[i] = c
				out = append(out, f)
			}
		}
	}
	return out
}

// oddStates are states that can't be, each for one reason alone, and some for all of them.
func oddStates() []uart.State {
	var out []uart.State
	odd := func(change func(*uart.State)) {
		for _, s := range []uart.State{{Tx: fifo("a")}, full(), atDivisor(full())} {
			out = append(out, with(s, change))
		}
	}
	for _, f := range oddFifos() {
		out = append(out, uart.State{Rx: f, Ier: 7}, uart.State{Tx: f, Ier: 7})
		odd(func(s *uart.State) { s.Rx = f })
		odd(func(s *uart.State) { s.Tx, s.Wait = f, 0 })
	}
	for _, w := range []int{-1, -2, -3, -4, 4, 5, 7, 8, 256, 1 << 32, 1<<32 + 1, math.MinInt, math.MaxInt} {
		odd(func(s *uart.State) { s.Wait = w })
		odd(func(s *uart.State) { s.Tx, s.Wait = fifo(letters), w })
	}
	for _, w := range []int{-4, -1, 1, 2, 3, 4} {
		odd(func(s *uart.State) { s.Tx, s.Wait = uart.Fifo{}, w })
	}
	for v := 8; v < 256; v++ {
		odd(func(s *uart.State) { s.Ier = byte(v) })
	}
	for v := 32; v < 256; v++ {
		odd(func(s *uart.State) { s.Mcr = byte(v) })
	}
	odd(func(s *uart.State) { s.Rx.N, s.Tx.N, s.Ier, s.Mcr, s.Wait = -1, 17, 255, 255, -1 })
	return out
}

// someStates are states that may be: of all fillings, waits and edges.
func someStates() []uart.State {
	out := []uart.State{{}, full(), atDivisor(full())}
	for _, rx := range []int{0, 1, 2, 15, 16} {
		for _, tx := range []int{0, 1, 2, 15, 16} {
			for i := range 16 {
				s := uart.State{Rx: fifo(letters[:rx]), Tx: fifo(letters[16-tx:]), Ier: byte(i % 8), Over: i >= 8, Mcr: byte(2*i + 1), Scr: byte(i * 17)}
				s.Lcr, s.Dll, s.Dlm = byte(i*37), byte(255-i), byte(100+i)
				if tx > 0 {
					s.Wait = i % 4
				}
				out = append(out, s)
			}
		}
	}
	return out
}

// read is a byte that must be read.
func read(t *testing.T, s uart.State, at uint32) (uart.State, byte) {
	t.Helper()
	got, c, err := uart.Read(s, at)
	if err != nil {
		t.Fatalf("Read of %d of %v: %v", at, s, err)
	}
	return got, c
}

// write is a state of a write that must be done.
func write(t *testing.T, s uart.State, at uint32, v byte) uart.State {
	t.Helper()
	got, err := uart.Write(s, at, v)
	if err != nil {
		t.Fatalf("Write of %d to %d of %v: %v", v, at, s, err)
	}
	return got
}

// UA1: fifos of 0 to 16 bytes may be, of whatever bytes, noughts too.
func TestCheckOfFifos(t *testing.T) {
	for n := 0; n <= 16; n++ {
		noughts := uart.Fifo{N: n}
		set := uart.Fifo{N: n}
		for i := range n {
			set.B[i] = 0xff
		}
		for _, f := range []uart.Fifo{fifo(letters[:n]), noughts, set} {
			for _, s := range []uart.State{{Rx: f}, {Tx: f}, {Rx: f, Tx: f}} {
				if err := uart.Check(s); err != nil {
					t.Errorf("Check of %v: %v", s, err)
				}
			}
		}
	}
	for _, f := range oddFifos() {
		for _, s := range []uart.State{{Rx: f}, {Tx: f}, {Rx: f, Tx: f}, {Rx: fifo(letters), Tx: f}, {Rx: f, Tx: fifo(letters)}} {
			if got := errno(uart.Check(s)); got != api.ErrArg {
				t.Errorf("Check of %v: %d, not %d", s, got, api.ErrArg)
			}
		}
	}
}

// UA1: by hand: which numbers and bytes a fifo may have.
func TestCheckOfFifosByHand(t *testing.T) {
	var sixteen [16]byte
	for i := range sixteen {
		sixteen[i] = byte(i + 1)
	}
	fifteen := sixteen
	fifteen[15] = 0
	for _, c := range []struct {
		f    uart.Fifo
		want api.Errno
	}{
		{uart.Fifo{}, 0},
		{uart.Fifo{B: [16]byte{7}, N: 1}, 0},
		{uart.Fifo{N: 1}, 0},
		{uart.Fifo{B: fifteen, N: 15}, 0},
		{uart.Fifo{B: sixteen, N: 16}, 0},
		{uart.Fifo{B: fifteen, N: 16}, 0},
		{uart.Fifo{N: 16}, 0},
		{uart.Fifo{N: -1}, 1},
		{uart.Fifo{N: 17}, 1},
		{uart.Fifo{B: sixteen, N: 17}, 1},
		{uart.Fifo{B: sixteen, N: -1}, 1},
		{uart.Fifo{B: [16]byte{7}}, 1},
		{uart.Fifo{B: [16]byte{15: 7}}, 1},
		{uart.Fifo{B: [16]byte{7, 8}, N: 1}, 1},
		{uart.Fifo{B: [16]byte{7, 0, 8}, N: 1}, 1},
		{uart.Fifo{B: sixteen, N: 15}, 1},
		{uart.Fifo{B: [16]byte{15: 1}, N: 15}, 1},
		{uart.Fifo{B: fifteen, N: 14}, 1},
	} {
		if got := errno(uart.Check(uart.State{Rx: c.f})); got != c.want {
			t.Errorf("Check of Rx %v: %d, not %d", c.f, got, c.want)
		}
		if got := errno(uart.Check(uart.State{Tx: c.f})); got != c.want {
			t.Errorf("Check of Tx %v: %d, not %d", c.f, got, c.want)
		}
	}
}

// UA1: Wait is 0 to 3, and 0 if Tx is empty, whatever Rx has.
func TestCheckOfWait(t *testing.T) {
	for _, c := range []struct {
		wait        int
		some, empty api.Errno
	}{
		{0, 0, 0}, {1, 0, 1}, {2, 0, 1}, {3, 0, 1}, {4, 1, 1}, {5, 1, 1}, {-1, 1, 1}, {-3, 1, 1}, {-4, 1, 1},
		{1 << 32, 1, 1}, {math.MaxInt, 1, 1}, {math.MinInt, 1, 1},
	} {
		for _, rx := range []string{"", "a", letters} {
			for _, tx := range []string{"", "\x00", "b", letters[:15], letters} {
				want := c.some
				if tx == "" {
					want = c.empty
				}
				if got := errno(uart.Check(uart.State{Rx: fifo(rx), Tx: fifo(tx), Wait: c.wait})); got != want {
					t.Errorf("Check of Wait %d, Rx %q, Tx %q: %d, not %d", c.wait, rx, tx, got, want)
				}
			}
		}
	}
}

// UA1: Ier is at most 7, Mcr at most 31; the other registers may be whatever they are.
func TestCheckOfRegisters(t *testing.T) {
	check := func(s uart.State, may bool) {
		t.Helper()
		want := api.ErrArg
		if may {
			want = 0
		}
		if got := errno(uart.Check(s)); got != want {
			t.Errorf("Check of %v: %d, not %d", s, got, want)
		}
	}
	for v := range 256 {
		for _, s := range []uart.State{{}, full()} {
			check(with(s, func(s *uart.State) { s.Ier = byte(v) }), v <= 7)
			check(with(s, func(s *uart.State) { s.Mcr = byte(v) }), v <= 31)
			check(with(s, func(s *uart.State) { s.Lcr, s.Scr, s.Dll, s.Dlm = byte(v), byte(v), byte(v), byte(v) }), true)
		}
	}
	check(uart.State{Ier: 7, Mcr: 31}, true)
	check(uart.State{Ier: 8}, false)
	check(uart.State{Mcr: 32}, false)
	check(uart.State{Over: true}, true)
	for _, s := range someStates() {
		check(s, true)
	}
}

// UA1: of a state that can't be nothing is done: it is answered as it is, or ErrArg, which comes ahead of ErrBus.
func TestStatesThatCannotBe(t *testing.T) {
	for _, s := range oddStates() {
		if got := errno(uart.Check(s)); got != api.ErrArg {
			t.Fatalf("Check of %v: %d, not %d", s, got, api.ErrArg)
		}
		for _, c := range []byte{0, 'a', 0xff} {
			if got := uart.Put(s, c); got != s {
				t.Fatalf("Put of %d into %v: %v", c, s, got)
			}
		}
		if got, c, is := uart.Tick(s); got != s || c != 0 || is {
			t.Fatalf("Tick of %v: %v, %d, %v", s, got, c, is)
		}
		if uart.Asks(s) {
			t.Fatalf("%v asks", s)
		}
		for _, at := range []uint32{0, 1, 2, 3, 4, 5, 6, 7, 8, 9, 0x100, 0x80000000, math.MaxUint32} {
			if got, c, err := uart.Read(s, at); got != (uart.State{}) || c != 0 || errno(err) != api.ErrArg {
				t.Fatalf("Read of %d of %v: %v, %d, %v", at, s, got, c, err)
			}
			for _, v := range []byte{0, 6, 0xff} {
				if got, err := uart.Write(s, at, v); got != (uart.State{}) || errno(err) != api.ErrArg {
					t.Fatalf("Write of %d to %d of %v: %v, %v", v, at, s, got, err)
				}
			}
		}
	}
}

// UA1: a byte lies behind the others; the seventeenth is lost, and Over is set; nothing else is.
func TestPutByHand(t *testing.T) {
	for _, c := range []struct {
		rx   string
		c    byte
		want string
		over bool
	}{
		{"", 'a', "a", false},
		{"", 0, "\x00", false},
		{"a", 'b', "ab", false},
		{"a", 'a', "aa", false},
		{"\x00", 0xff, "\x00\xff", false},
		{"abcdefg", 'h', "abcdefgh", false},
		{"abcdefghijklmn", 'o', "abcdefghijklmno", false},
		{"abcdefghijklmno", 'p', "abcdefghijklmnop", false},
		{"abcdefghijklmno", 0, "abcdefghijklmno\x00", false},
		{"abcdefghijklmnop", 'q', "abcdefghijklmnop", true},
		{"abcdefghijklmnop", 0, "abcdefghijklmnop", true},
	} {
		for _, s := range []uart.State{{}, full(), atDivisor(full())} {
			for _, over := range []bool{false, true} {
				s.Rx, s.Over = fifo(c.rx), over
				want := s
				want.Rx, want.Over = fifo(c.want), over || c.over
				if got := uart.Put(s, c.c); got != want {
					t.Errorf("Put of %q into %v: %v, not %v", c.c, s, got, want)
				}
			}
		}
	}
}

// UA1: seventeen bytes, one by one: the sixteenth still has room, and none but the seventeenth sets Over.
func TestPutTillOver(t *testing.T) {
	var s uart.State
	for i := range 20 {
		s = uart.Put(s, byte('a'+i))
		want := uart.State{Rx: fifo(letters[:min(i+1, 16)]), Over: i >= 16}
		if s != want {
			t.Fatalf("behind %d bytes: %v, not %v", i+1, s, want)
		}
	}
}

// UA1: of an empty Tx nothing goes out, and nothing waits.
func TestTickOfEmptyTx(t *testing.T) {
	for _, s := range someStates() {
		s.Tx, s.Wait = uart.Fifo{}, 0
		if got, c, is := uart.Tick(s); got != s || c != 0 || is {
			t.Fatalf("Tick of %v: %v, %d, %v", s, got, c, is)
		}
	}
}

// UA1: three ticks nothing goes out, at the fourth the first byte does, and Wait begins again.
func TestTickByHand(t *testing.T) {
	for _, c := range []struct {
		tx   string
		wait int
		want string
		then int
		out  byte
		is   bool
	}{
		{"", 0, "", 0, 0, false},
		{"a", 0, "a", 1, 0, false},
		{"a", 1, "a", 2, 0, false},
		{"a", 2, "a", 3, 0, false},
		{"a", 3, "", 0, 'a', true},
		{"\x00", 2, "\x00", 3, 0, false},
		{"\x00", 3, "", 0, 0, true},
		{"ab", 2, "ab", 3, 0, false},
		{"ab", 3, "b", 0, 'a', true},
		{"\xff\x00", 3, "\x00", 0, 0xff, true},
		{letters[:15], 0, letters[:15], 1, 0, false},
		{letters[:15], 3, letters[1:15], 0, 'a', true},
		{letters, 0, letters, 1, 0, false},
		{letters, 1, letters, 2, 0, false},
		{letters, 2, letters, 3, 0, false},
		{letters, 3, letters[1:], 0, 'a', true},
	} {
		for _, s := range []uart.State{{}, full(), atDivisor(full())} {
			s.Tx, s.Wait = fifo(c.tx), c.wait
			want := s
			want.Tx, want.Wait = fifo(c.want), c.then
			if got, out, is := uart.Tick(s); got != want || out != c.out || is != c.is {
				t.Errorf("Tick of %v: %v, %q, %v, not %v, %q, %v", s, got, out, is, want, c.out, c.is)
			}
		}
	}
	if uart.Rate != 4 {
		t.Errorf("Rate is %d", uart.Rate)
	}
}

// UA1: the chapter's example, and what stands behind it: `a` goes out at the fourth tick, and nothing more.
func TestExample(t *testing.T) {
	s := write(t, uart.State{}, 0, 'a')
	for i := range 12 {
		var c byte
		var is bool
		s, c, is = uart.Tick(s)
		if is != (i == 3) || is && c != 'a' || !is && c != 0 {
			t.Errorf("Tick %d: %q, %v", i+1, c, is)
		}
	}
	if s != (uart.State{}) {
		t.Errorf("behind all: %v", s)
	}
}

// askCase is how a port stands, and what it asks for then.
type askCase struct {
	over bool
	rx   string
	tx   string
	ier  byte
	want byte
}

// askCases are what it asks for, by hand: each alone, two and three at once, and each without its bit.
func askCases() []askCase {
	return []askCase{
		{false, "", "", 0, 1}, {true, "a", "", 0, 1}, {true, letters, "b", 0, 1},
		// Each alone, with its bit, and without it.
		{true, "", "b", 4, 6}, {true, "", "b", 3, 1}, {true, "", "b", 7, 6}, {false, "", "b", 7, 1},
		{false, "a", "b", 1, 4}, {false, "a", "b", 6, 1}, {false, "a", "b", 7, 4}, {false, letters, "b", 1, 4},
		{false, "", "", 2, 2}, {false, "", "", 5, 1}, {false, "", "", 7, 2},
		{false, "", letters, 2, 1}, {false, "", "b", 2, 1}, {false, "\x00", "b", 1, 4}, {false, "", "\x00", 2, 1},
		// Over and bytes.
		{true, "a", "b", 7, 6}, {true, "a", "b", 5, 6}, {true, "a", "b", 4, 6}, {true, "a", "b", 3, 4}, {true, "a", "b", 1, 4}, {true, "a", "b", 2, 1},
		// Over and room.
		{true, "", "", 7, 6}, {true, "", "", 6, 6}, {true, "", "", 4, 6}, {true, "", "", 3, 2}, {true, "", "", 2, 2}, {true, "", "", 1, 1},
		// Bytes and room.
		{false, "a", "", 7, 4}, {false, "a", "", 3, 4}, {false, "a", "", 1, 4}, {false, "a", "", 2, 2}, {false, "a", "", 6, 2}, {false, "a", "", 4, 1},
		// All three.
		{true, "a", "", 7, 6}, {true, "a", "", 6, 6}, {true, "a", "", 5, 6}, {true, "a", "", 4, 6},
		{true, "a", "", 3, 4}, {true, "a", "", 1, 4}, {true, "a", "", 2, 2}, {true, "a", "", 0, 1},
		{true, letters, "", 7, 6}, {true, letters, letters, 7, 6}, {true, letters, letters, 1, 4}, {true, letters, letters, 2, 1},
	}
}

// UA1, UA2: what it asks for, and that it asks, is the first that holds with its bit of Ier set; to read it changes nothing.
func TestAsksByHand(t *testing.T) {
	for _, c := range askCases() {
		for _, lcr := range []byte{0, 0x80, 0xff} {
			s := uart.State{Rx: fifo(c.rx), Tx: fifo(c.tx), Ier: c.ier, Over: c.over, Lcr: lcr, Scr: 9}
			if got := uart.Asks(s); got != (c.want != 1) {
				t.Errorf("Asks of %+v: %v", c, got)
			}
			if got, v := read(t, s, 2); got != s || v != 192+c.want {
				t.Errorf("Read of 2 of %+v: %d, not %d; %v", c, v, 192+c.want, got)
			}
		}
	}
}

// UA1: how long it waits, and what the other registers are, is nothing to what it asks for.
func TestAsksWhateverElse(t *testing.T) {
	for _, c := range askCases() {
		for i := range 256 {
			s := uart.State{Rx: fifo(c.rx), Tx: fifo(c.tx), Ier: c.ier, Over: c.over, Lcr: byte(i), Mcr: byte(i % 32), Scr: byte(i), Dll: byte(i), Dlm: byte(i)}
			if c.tx != "" {
				s.Wait = i % 4
			}
			if got := uart.Asks(s); got != (c.want != 1) {
				t.Fatalf("Asks of %v: %v", s, got)
			}
		}
	}
}

// UA2: what each place reads, and what becomes of the state, of answers that are written out.
func TestReadByHand(t *testing.T) {
	taken := with(full(), func(s *uart.State) { s.Rx = fifo("yz") })
	told := with(full(), func(s *uart.State) { s.Over = false })
	dlab := atDivisor(full())
	dlabTold := atDivisor(told)
	for _, c := range []struct {
		s    uart.State
		at   uint32
		want byte
		then uart.State
	}{
		{full(), 0, 'x', taken},
		{full(), 1, 5, full()},
		{full(), 2, 198, full()},
		{full(), 3, 0x1b, full()},
		{full(), 4, 0x0a, full()},
		{full(), 5, 3, told},
		{full(), 6, 0, full()},
		{full(), 7, 0xc3, full()},
		{dlab, 0, 0xd4, dlab},
		{dlab, 1, 0xe6, dlab},
		{dlab, 2, 198, dlab},
		{dlab, 3, 0x9b, dlab},
		{dlab, 4, 0x0a, dlab},
		{dlab, 5, 3, dlabTold},
		{dlab, 6, 0, dlab},
		{dlab, 7, 0xc3, dlab},
		{uart.State{}, 0, 0, uart.State{}},
		{uart.State{}, 1, 0, uart.State{}},
		{uart.State{}, 2, 193, uart.State{}},
		{uart.State{}, 3, 0, uart.State{}},
		{uart.State{}, 4, 0, uart.State{}},
		{uart.State{}, 5, 96, uart.State{}},
		{uart.State{}, 6, 0, uart.State{}},
		{uart.State{}, 7, 0, uart.State{}},
	} {
		if got, v := read(t, c.s, c.at); got != c.then || v != c.want {
			t.Errorf("Read of %d of %v: %d, %v, not %d, %v", c.at, c.s, v, got, c.want, c.then)
		}
	}
}

// UA2: Lcr's bit 7, and no other, says what the places 0 and 1 mean; nothing is taken where it is set.
func TestReadOfDivisor(t *testing.T) {
	for v := range 256 {
		s := with(full(), func(s *uart.State) { s.Lcr = byte(v) })
		first, second, then := byte('x'), byte(5), with(s, func(s *uart.State) { s.Rx = fifo("yz") })
		if v >= 128 {
			first, second, then = 0xd4, 0xe6, s
		}
		if got, c := read(t, s, 0); got != then || c != first {
			t.Errorf("Lcr %#x: 0 reads %#x, %v", v, c, got)
		}
		if got, c := read(t, s, 1); got != s || c != second {
			t.Errorf("Lcr %#x: 1 reads %#x, %v", v, c, got)
		}
	}
}

// UA2: a read of 0 takes the first byte, all others moving up; of an empty Rx it is 0, and nothing is taken; Over stays.
func TestReadTakes(t *testing.T) {
	for _, c := range []struct {
		rx   string
		want byte
		then string
	}{
		{"", 0, ""},
		{"a", 'a', ""},
		{"\x00", 0, ""},
		{"\xff", 0xff, ""},
		{"ab", 'a', "b"},
		{"\x00b", 0, "b"},
		{"a\x00b", 'a', "\x00b"},
		{letters[:15], 'a', letters[1:15]},
		{letters, 'a', letters[1:]},
	} {
		for _, over := range []bool{false, true} {
			s := with(full(), func(s *uart.State) { s.Rx, s.Over = fifo(c.rx), over })
			then := with(s, func(s *uart.State) { s.Rx = fifo(c.then) })
			if got, v := read(t, s, 0); got != then || v != c.want {
				t.Errorf("Read of 0 of Rx %q: %q, %v", c.rx, v, got)
			}
		}
	}
}

// UA2: how the fifos stand; Over is told once.
func TestReadOfStatus(t *testing.T) {
	for _, c := range []struct {
		rx, tx string
		over   bool
		want   byte
		again  byte
	}{
		{"", "", false, 0x60, 0x60},
		{"a", "", false, 0x61, 0x61},
		{"\x00", "", false, 0x61, 0x61},
		{letters, "", false, 0x61, 0x61},
		{"", "b", false, 0, 0},
		{"", "\x00", false, 0, 0},
		{"", letters, false, 0, 0},
		{"a", "b", false, 1, 1},
		{letters, letters, false, 1, 1},
		{"", "", true, 0x62, 0x60},
		{"a", "", true, 0x63, 0x61},
		{"", "b", true, 2, 0},
		{"a", "b", true, 3, 1},
		{letters, letters, true, 3, 1},
	} {
		for _, lcr := range []byte{0, 0xff} {
			s := uart.State{Rx: fifo(c.rx), Tx: fifo(c.tx), Ier: 7, Lcr: lcr, Mcr: 31, Scr: 7, Over: c.over}
			then := with(s, func(s *uart.State) { s.Over = false })
			got, v := read(t, s, 5)
			if got != then || v != c.want {
				t.Errorf("Read of 5 of %v: %#x, %v, not %#x", s, v, got, c.want)
			}
			if got, v := read(t, got, 5); got != then || v != c.again {
				t.Errorf("Read of 5 of %v once more: %#x, %v, not %#x", s, v, got, c.again)
			}
		}
	}
}

// UA2: no read but that of 5 changes Over, and none but that of 0 takes a byte.
func TestReadsThatChangeNothing(t *testing.T) {
	for _, s := range someStates() {
		for _, at := range []uint32{1, 2, 3, 4, 6, 7} {
			if got, _ := read(t, s, at); got != s {
				t.Fatalf("Read of %d of %v: %v", at, s, got)
			}
		}
	}
}

// UA2, UA3: of any other place ErrBus, and nothing beside it.
func TestNobodyAnswers(t *testing.T) {
	for _, s := range []uart.State{{}, full(), atDivisor(full())} {
		for _, at := range noPlaces() {
			if got, c, err := uart.Read(s, at); got != (uart.State{}) || c != 0 || errno(err) != api.ErrBus {
				t.Fatalf("Read of %#x of %v: %v, %d, %v", at, s, got, c, err)
			}
			if got, err := uart.Write(s, at, 0xff); got != (uart.State{}) || errno(err) != api.ErrBus {
				t.Fatalf("Write to %#x of %v: %v, %v", at, s, got, err)
			}
		}
	}
}

// UA3: what each place becomes, of answers that are written out.
func TestWriteByHand(t *testing.T) {
	dlab := atDivisor(full())
	for _, c := range []struct {
		s    uart.State
		at   uint32
		v    byte
		then uart.State
	}{
		{full(), 0, 'q', with(full(), func(s *uart.State) { s.Tx = fifo("uvw!q") })},
		{full(), 1, 2, with(full(), func(s *uart.State) { s.Ier = 2 })},
		{full(), 1, 0, with(full(), func(s *uart.State) { s.Ier = 0 })},
		{full(), 2, 0, full()},
		{full(), 3, 0x80, with(full(), func(s *uart.State) { s.Lcr = 0x80 })},
		{full(), 3, 0, with(full(), func(s *uart.State) { s.Lcr = 0 })},
		{full(), 4, 0x15, with(full(), func(s *uart.State) { s.Mcr = 0x15 })},
		{full(), 5, 0xff, full()},
		{full(), 5, 0, full()},
		{full(), 6, 0xff, full()},
		{full(), 6, 0, full()},
		{full(), 7, 0x5a, with(full(), func(s *uart.State) { s.Scr = 0x5a })},
		{full(), 7, 0, with(full(), func(s *uart.State) { s.Scr = 0 })},
		{dlab, 0, 'q', with(dlab, func(s *uart.State) { s.Dll = 'q' })},
		{dlab, 0, 0, with(dlab, func(s *uart.State) { s.Dll = 0 })},
		{dlab, 1, 2, with(dlab, func(s *uart.State) { s.Dlm = 2 })},
		{dlab, 1, 0xff, with(dlab, func(s *uart.State) { s.Dlm = 0xff })},
		{dlab, 2, 0, dlab},
		{dlab, 3, 0x7f, with(full(), func(s *uart.State) { s.Lcr = 0x7f })},
		{dlab, 4, 0x15, with(dlab, func(s *uart.State) { s.Mcr = 0x15 })},
		{dlab, 5, 0xff, dlab},
		{dlab, 6, 0xff, dlab},
		{dlab, 7, 0x5a, with(dlab, func(s *uart.State) { s.Scr = 0x5a })},
	} {
		if got := write(t, c.s, c.at, c.v); got != c.then {
			t.Errorf("Write of %#x to %d of %v: %v, not %v", c.v, c.at, c.s, got, c.then)
		}
	}
}

// UA3: each value of a byte at each place: Ier keeps three bits, Mcr five, the others all, and nothing else changes.
func TestWriteOfAllValues(t *testing.T) {
	for _, s := range []uart.State{{}, full()} {
		for i := range 256 {
			v := byte(i)
			for at, then := range []uart.State{
				1: with(s, func(s *uart.State) { s.Ier = byte(i % 8) }),
				3: with(s, func(s *uart.State) { s.Lcr = v }),
				4: with(s, func(s *uart.State) { s.Mcr = byte(i % 32) }),
				5: s,
				6: s,
				7: with(s, func(s *uart.State) { s.Scr = v }),
			} {
				if at == 0 || at == 2 {
					continue
				}
				if got := write(t, s, uint32(at), v); got != then {
					t.Fatalf("Write of %#x to %d of %v: %v, not %v", v, at, s, got, then)
				}
			}
			d := atDivisor(s)
			if got := write(t, d, 0, v); got != with(d, func(s *uart.State) { s.Dll = v }) {
				t.Fatalf("Write of %#x to 0 of %v: %v", v, d, got)
			}
			if got := write(t, d, 1, v); got != with(d, func(s *uart.State) { s.Dlm = v }) {
				t.Fatalf("Write of %#x to 1 of %v: %v", v, d, got)
			}
		}
	}
}

// UA3: high bits are cut off of Ier and Mcr, by hand.
func TestWriteCutsHighBits(t *testing.T) {
	for _, c := range []struct{ v, ier, mcr byte }{
		{0, 0, 0}, {7, 7, 7}, {8, 0, 8}, {0x0f, 7, 0x0f}, {0x1f, 7, 0x1f}, {0x20, 0, 0}, {0x3f, 7, 0x1f}, {0x80, 0, 0}, {0x85, 5, 5}, {0xf2, 2, 0x12}, {0xff, 7, 0x1f},
	} {
		if got := write(t, full(), 1, c.v); got.Ier != c.ier || uart.Check(got) != nil {
			t.Errorf("Write of %#x to 1: Ier %#x", c.v, got.Ier)
		}
		if got := write(t, full(), 4, c.v); got.Mcr != c.mcr || uart.Check(got) != nil {
			t.Errorf("Write of %#x to 4: Mcr %#x", c.v, got.Mcr)
		}
	}
}

// UA3: Lcr's bit 7, and no other, says what the places 0 and 1 mean.
func TestWriteOfDivisor(t *testing.T) {
	for v := range 256 {
		s := with(full(), func(s *uart.State) { s.Lcr = byte(v) })
		first := with(s, func(s *uart.State) { s.Tx = fifo("uvw!q") })
		second := with(s, func(s *uart.State) { s.Ier = 2 })
		if v >= 128 {
			first = with(s, func(s *uart.State) { s.Dll = 'q' })
			second = with(s, func(s *uart.State) { s.Dlm = 0xfa })
		}
		if got := write(t, s, 0, 'q'); got != first {
			t.Errorf("Lcr %#x: 0 becomes %v", v, got)
		}
		if got := write(t, s, 1, 0xfa); got != second {
			t.Errorf("Lcr %#x: 1 becomes %v", v, got)
		}
	}
}

// UA3: a write of 0 lies behind the others; when sixteen wait it is lost, and nobody is told; Wait stays.
func TestWriteOfBytes(t *testing.T) {
	for _, c := range []struct {
		tx   string
		v    byte
		then string
	}{
		{"", 'a', "a"},
		{"", 0, "\x00"},
		{"a", 'b', "ab"},
		{"\x00", 0, "\x00\x00"},
		{"abc", 0xff, "abc\xff"},
		{letters[:14], 'o', letters[:15]},
		{letters[:15], 'p', letters},
		{letters[:15], 0, letters[:15] + "\x00"},
		{letters, 'q', letters},
		{letters, 0, letters},
	} {
		for wait := range 4 {
			for _, over := range []bool{false, true} {
				s := with(full(), func(s *uart.State) { s.Tx, s.Over, s.Wait = fifo(c.tx), over, wait })
				if c.tx == "" {
					s.Wait = 0
				}
				then := with(s, func(s *uart.State) { s.Tx = fifo(c.then) })
				if got := write(t, s, 0, c.v); got != then {
					t.Errorf("Write of %q to Tx %q: %v, not %v", c.v, c.tx, got, then)
				}
			}
		}
	}
}

// UA3: the bit 1 of a write of 2 empties Rx, and takes Over back; the bit 2 empties Tx, and Wait begins again; no other bit does anything.
func TestWriteEmpties(t *testing.T) {
	for _, s := range someStates() {
		for v := range 256 {
			then := s
			if v/2%2 == 1 {
				then.Rx, then.Over = uart.Fifo{}, false
			}
			if v/4%2 == 1 {
				then.Tx, then.Wait = uart.Fifo{}, 0
			}
			if got := write(t, s, 2, byte(v)); got != then {
				t.Fatalf("Write of %#x to 2 of %v: %v, not %v", v, s, got, then)
			}
		}
	}
}

// UA3: by hand: what is emptied, and what stays.
func TestWriteEmptiesByHand(t *testing.T) {
	noRx := with(full(), func(s *uart.State) { s.Rx, s.Over = uart.Fifo{}, false })
	noTx := with(full(), func(s *uart.State) { s.Tx, s.Wait = uart.Fifo{}, 0 })
	none := uart.State{Ier: 5, Lcr: 0x1b, Mcr: 0x0a, Scr: 0xc3, Dll: 0xd4, Dlm: 0xe6}
	for _, c := range []struct {
		v    byte
		then uart.State
	}{
		{0, full()}, {1, full()}, {2, noRx}, {3, noRx}, {4, noTx}, {5, noTx}, {6, none}, {7, none}, {8, full()}, {0xf9, full()}, {0xfb, noRx}, {0xfd, noTx}, {0xff, none},
	} {
		if got := write(t, full(), 2, c.v); got != c.then {
			t.Errorf("Write of %#x to 2: %v, not %v", c.v, got, c.then)
		}
	}
	over := uart.State{Rx: fifo(letters), Over: true, Ier: 7, Tx: fifo("a"), Wait: 3}
	got := write(t, over, 2, 2)
	if got != (uart.State{Ier: 7, Tx: fifo("a"), Wait: 3}) || uart.Asks(got) {
		t.Errorf("behind all were lost: %v", got)
	}
}

// UA3: what is written is read, where nothing is taken and nothing cut off, and Dll and Dlm stand by themselves.
func TestWriteThenRead(t *testing.T) {
	s := full()
	for _, c := range []struct {
		at uint32
		v  byte
	}{{1, 3}, {4, 0x1e}, {7, 0x77}, {3, 0x83}, {0, 0x12}, {1, 0x34}} {
		s = write(t, s, c.at, c.v)
		if got, v := read(t, s, c.at); got != s || v != c.v {
			t.Errorf("%#x written to %d: %#x, %v", c.v, c.at, v, got)
		}
	}
	s = write(t, s, 3, 3)
	for _, c := range []struct {
		at   uint32
		want byte
	}{{0, 'x'}, {1, 3}, {3, 3}, {4, 0x1e}, {7, 0x77}} {
		if _, v := read(t, s, c.at); v != c.want {
			t.Errorf("%d reads %#x, not %#x", c.at, v, c.want)
		}
	}
	s = write(t, s, 3, 0x80)
	if _, v := read(t, s, 0); v != 0x12 {
		t.Errorf("Dll is %#x", v)
	}
	if _, v := read(t, s, 1); v != 0x34 {
		t.Errorf("Dlm is %#x", v)
	}
}

// UA1 to UA3: of a state that may be all calls make ones that may be.
func TestWhatMayBeStays(t *testing.T) {
	for _, s := range someStates() {
		check := func(what string, got uart.State) {
			t.Helper()
			if err := uart.Check(got); err != nil {
				t.Fatalf("%s of %v: %v: %v", what, s, got, err)
			}
		}
		check("Put", uart.Put(s, 0xff))
		ticked, _, _ := uart.Tick(s)
		check("Tick", ticked)
		for at := range uint32(8) {
			got, _ := read(t, s, at)
			check(fmt.Sprint("Read of ", at), got)
			for _, v := range []byte{0, 1, 2, 4, 6, 0x7f, 0x80, 0xff} {
				check(fmt.Sprint("Write to ", at), write(t, s, at, v))
			}
		}
	}
}

// UA4: sixteen bytes that are written go out one by one, four ticks apart, as they were written.
func TestBytesGoOutInOrder(t *testing.T) {
	var s uart.State
	for _, c := range []byte(letters + "qrs") {
		s = write(t, s, 0, c)
	}
	var out []byte
	for i := range 80 {
		var c byte
		var is bool
		s, c, is = uart.Tick(s)
		if is != (i%4 == 3 && i < 64) {
			t.Fatalf("Tick %d: %v", i+1, is)
		}
		if is {
			out = append(out, c)
		}
	}
	if string(out) != letters || s != (uart.State{}) {
		t.Errorf("out went %q; %v", out, s)
	}
}

// UA4: sixteen bytes that come are read as they came; those behind them are lost, and bytes that come when there is room again are not.
func TestBytesAreReadInOrder(t *testing.T) {
	var s uart.State
	for _, c := range []byte(letters + "LOST") {
		s = uart.Put(s, c)
	}
	var in []byte
	for range 3 {
		var c byte
		s, c = read(t, s, 0)
		in = append(in, c)
	}
	for _, c := range []byte("xyzLOST") {
		s = uart.Put(s, c)
	}
	for range 16 {
		var c byte
		s, c = read(t, s, 0)
		in = append(in, c)
	}
	if string(in) != letters+"xyz" || s != (uart.State{Over: true}) {
		t.Errorf("%q was read; %v", in, s)
	}
	if got, c := read(t, s, 0); c != 0 || got != s {
		t.Errorf("behind all: %q, %v", c, got)
	}
}

// UA4: each value of a byte goes through, both ways, however full a fifo is.
func TestAllBytesGoThrough(t *testing.T) {
	for n := range 16 {
		for v := range 256 {
			s := uart.State{Rx: fifo(letters[:n]), Tx: fifo(letters[:n])}
			s = write(t, uart.Put(s, byte(v)), 0, byte(v))
			want := append([]byte(letters[:n]), byte(v))
			for i, w := range want {
				var c byte
				if s, c = read(t, s, 0); c != w {
					t.Fatalf("%d of %d: %d was read, not %d", i, n, c, w)
				}
			}
			var out []byte
			for range 4 * (n + 1) {
				var c byte
				var is bool
				if s, c, is = uart.Tick(s); is {
					out = append(out, c)
				}
			}
			if string(out) != string(want) || s != (uart.State{}) {
				t.Fatalf("%d: out went %v; %v", n, out, s)
			}
		}
	}
}

// UA3, UA4: bytes that are written while others go out wait behind them, and Wait goes on.
func TestWritesWhileBytesGoOut(t *testing.T) {
	s := write(t, uart.State{}, 0, 'a')
	var out []byte
	for i := range 13 {
		var c byte
		var is bool
		s, c, is = uart.Tick(s)
		if is {
			out = append(out, c, byte('0'+i%10))
		}
		if i == 1 || i == 2 {
			s = write(t, s, 0, byte('a'+i))
		}
	}
	if string(out) != "a3b7c1" || s != (uart.State{}) {
		t.Errorf("out went %q; %v", out, s)
	}
}

// UA3, UA4: behind an emptied Tx a byte takes its four ticks from the write on.
func TestWriteBehindEmptied(t *testing.T) {
	for wait := range 4 {
		s := uart.State{Tx: fifo("zz"), Wait: wait}
		s = write(t, write(t, s, 2, 4), 0, 'a')
		for i := range 8 {
			var c byte
			var is bool
			s, c, is = uart.Tick(s)
			if is != (i == 3) || is && c != 'a' {
				t.Fatalf("Wait was %d: tick %d: %q, %v", wait, i+1, c, is)
			}
		}
	}
}

// UA1 to UA3: a driver that is told of bytes, and of those that were lost, and then of room.
func TestDriver(t *testing.T) {
	s := write(t, uart.State{}, 1, 7)
	if _, v := read(t, s, 2); v != 0xc2 || !uart.Asks(s) {
		t.Fatalf("at first: %#x", v)
	}
	s = write(t, s, 0, 'o')
	if _, v := read(t, s, 2); v != 0xc1 || uart.Asks(s) {
		t.Fatalf("while a byte waits: %#x", v)
	}
	for range 17 {
		s = uart.Put(s, 'i')
	}
	if _, v := read(t, s, 2); v != 0xc6 || !uart.Asks(s) {
		t.Fatalf("behind a lost byte: %#x", v)
	}
	s, v := read(t, s, 5)
	if v != 3 {
		t.Fatalf("the status: %#x", v)
	}
	for i := range 16 {
		if _, v := read(t, s, 2); v != 0xc4 || !uart.Asks(s) {
			t.Fatalf("with %d bytes: %#x", 16-i, v)
		}
		if s, v = read(t, s, 0); v != 'i' {
			t.Fatalf("byte %d: %q", i, v)
		}
	}
	if _, v := read(t, s, 2); v != 0xc1 || uart.Asks(s) {
		t.Fatalf("behind the last: %#x", v)
	}
	for range 4 {
		s, _, _ = uart.Tick(s)
	}
	if _, v := read(t, s, 2); v != 0xc2 || !uart.Asks(s) || s != (uart.State{Ier: 7}) {
		t.Fatalf("at last: %#x, %v", v, s)
	}
}

// Rule 4: what a call answers hangs on its arguments alone, and the state that is handed in stays.
func TestCallsAgain(t *testing.T) {
	for _, s := range someStates() {
		was := s
		for range 2 {
			uart.Put(s, 'q')
			uart.Tick(s)
			uart.Asks(s)
			for at := range uint32(9) {
				got, c, _ := uart.Read(s, at)
				again, d, _ := uart.Read(was, at)
				if got != again || c != d {
					t.Fatalf("Read of %d of %v: %v, then %v", at, was, got, again)
				}
				first, _ := uart.Write(s, at, 0xff)
				second, _ := uart.Write(was, at, 0xff)
				if first != second {
					t.Fatalf("Write to %d of %v: %v, then %v", at, was, first, second)
				}
			}
		}
		if s != was || uart.Put(s, 'q') != uart.Put(was, 'q') || uart.Asks(s) != uart.Asks(was) {
			t.Fatalf("%v became %v", was, s)
		}
	}
}
