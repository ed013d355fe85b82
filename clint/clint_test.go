package clint_test

import (
	"errors"
	"math"
	"math/rand"
	"testing"

	"pinnace/api"
	"pinnace/clint"
)

// last is the greatest number of 64 bits, behind which Time turns round.
const last = math.MaxUint64

// errno is the number that errors.As finds in an error; 0 of nil, -1 of another error.
func errno(err error) api.Errno {
	if err == nil {
		return 0
	}
	var e api.Errno
	if errors.As(err, &e) {
		return e
	}
	return -1
}

// full has another value in each half of each part.
func full() clint.State {
	return clint.State{Soft: 1, Time: 0x89abcdef_fedcba98, Cmp: 0x01234567_76543210}
}

// places are all places that are read and written, by hand.
func places() []uint32 {
	return []uint32{0, 0x4000, 0x4004, 0xbff8, 0xbffc}
}

// noPlaces are places that nobody answers: those between and beside the others, and ones that are another's but for a bit.
func noPlaces() []uint32 {
	is := map[uint32]bool{}
	for _, at := range places() {
		is[at] = true
	}
	var out []uint32
	add := func(at uint32) {
		if !is[at] {
			out = append(out, at)
		}
	}
	for at := uint32(0); at < 0x10100; at++ {
		add(at)
	}
	for _, at := range places() {
		for b := range 32 {
			add(at ^ 1<<b)
		}
		add(-at)
		add(^at)
		add(at + 0x02000000)
		add(at + 0x80000000)
	}
	add(math.MaxUint32)
	add(math.MaxInt32)
	return out
}

// someWords are words at the edges, each bit alone, and each bit missing.
func someWords() []uint32 {
	out := []uint32{0, 2, 3, 4, 5, math.MaxUint32, math.MaxInt32, 0xfffffffe, 0x80000001, 0x12345678, 0x87654321, 0xffff0000}
	for b := range 32 {
		out = append(out, 1<<b, ^uint32(1<<b))
	}
	return out
}

// someTimes are numbers at the edges, and beside them: those at which a half is all set, or all clear.
func someTimes() []uint64 {
	var out []uint64
	for _, v := range []uint64{0, 5, 1 << 31, 1 << 32, 1<<32 | 1<<31, 2 << 32, 1 << 63, 0xffffffff_00000000, 0x01234567_89abcdef} {
		out = append(out, v-2, v-1, v, v+1)
	}
	return out
}

// someStates are states of all edges, and those made by chance from a seed.
func someStates() []clint.State {
	out := []clint.State{{}, full()}
	for i, time := range someTimes() {
		for j, cmp := range someTimes() {
			out = append(out, clint.State{Soft: uint32(i+j) % 2, Time: time, Cmp: cmp})
		}
	}
	r := rand.New(rand.NewSource(10))
	for range 300 {
		out = append(out, clint.State{Soft: r.Uint32() % 2, Time: r.Uint64(), Cmp: r.Uint64()})
	}
	return out
}

// oddSofts are those above 1: a state with one can't be, but the calls tell something of it all the same.
func oddSofts() []uint32 {
	out := []uint32{3, 5, 6, 7, 0x101, 0xfffffffe, math.MaxUint32, math.MaxInt32, 0x80000001}
	for b := 1; b < 32; b++ {
		out = append(out, 1<<b)
	}
	return out
}

// CT1: Soft is 0 or 1; Time and Cmp may be whatever they are.
func TestCheck(t *testing.T) {
	for _, s := range someStates() {
		if err := clint.Check(s); err != nil {
			t.Fatalf("Check of %x: %v", s, err)
		}
	}
	for _, time := range someTimes() {
		for _, soft := range []uint32{0, 1} {
			if err := clint.Check(clint.State{Soft: soft, Time: time, Cmp: ^time}); err != nil {
				t.Errorf("Check of Soft %d at %#x: %v", soft, time, err)
			}
		}
	}
	for _, soft := range oddSofts() {
		for _, s := range []clint.State{{}, full(), {Time: last}, {Cmp: last}} {
			s.Soft = soft
			if got := errno(clint.Check(s)); got != api.ErrArg {
				t.Errorf("Check of %x: %d, not %d", s, got, api.ErrArg)
			}
		}
	}
	if got := errno(clint.Check(clint.State{Soft: 2})); got != api.ErrArg {
		t.Errorf("Check of Soft 2: %d, not %d", got, api.ErrArg)
	}
}

// CT1: a tick is one more, from half to half, and round; all else stays.
func TestTickByHand(t *testing.T) {
	for _, c := range []struct{ time, want uint64 }{
		{0, 1},
		{1, 2},
		{0x7fffffff, 0x80000000},
		{0xfffffffe, 0xffffffff},
		{0xffffffff, 0x1_00000000},
		{0x1_00000000, 0x1_00000001},
		{0x7fffffff_ffffffff, 0x80000000_00000000},
		{0x80000000_00000000, 0x80000000_00000001},
		{0xfffffffe_ffffffff, 0xffffffff_00000000},
		{0xffffffff_00000000, 0xffffffff_00000001},
		{0xffffffff_fffffffe, 0xffffffff_ffffffff},
		{0xffffffff_ffffffff, 0},
	} {
		for _, cmp := range []uint64{0, c.time, c.want, 0x01234567_89abcdef, last} {
			for _, soft := range []uint32{0, 1, 2, math.MaxUint32} {
				got := clint.Tick(clint.State{Soft: soft, Time: c.time, Cmp: cmp})
				if got != (clint.State{Soft: soft, Time: c.want, Cmp: cmp}) {
					t.Errorf("Tick at %#x, Cmp %#x, Soft %#x: %x", c.time, cmp, soft, got)
				}
			}
		}
	}
}

// CT1: the timer asks at Cmp and above it, and not below, without signs and by both halves.
func TestLinesOfTheTimer(t *testing.T) {
	for _, c := range []struct {
		time, cmp uint64
		asks      bool
	}{
		{3, 5, false}, // the chapter's example
		{4, 5, false},
		{5, 5, true},
		{6, 5, true},
		{0, 0, true},
		{1, 0, true},
		{last, 0, true},
		{0, 1, false},
		{0, last, false},
		{last - 1, last, false},
		{last, last, true},
		{last, last - 1, true},
		{0xffffffff, 0x1_00000000, false},
		{0x1_00000000, 0x1_00000000, true},
		{0x1_00000000, 0xffffffff, true},
		{0x1_ffffffff, 0x2_00000000, false},
		{0x2_00000000, 0x1_ffffffff, true},
		{0x7fffffff, 0x80000000, false},
		{0x80000000, 0x7fffffff, true},
		{0x7fffffff_ffffffff, 0x80000000_00000000, false},
		{0x80000000_00000000, 0x7fffffff_ffffffff, true},
		{0, 0xffffffff_00000000, false},
		{0xffffffff_00000000, 0xffffffff, true},
	} {
		for _, soft := range []uint32{0, 2, 8, 0x80, 0xfffffffe, 1, 3, math.MaxUint32} {
			want := uint32(0)
			if c.asks {
				want += 128
			}
			if soft%2 == 1 {
				want += 8
			}
			if got := clint.Lines(clint.State{Soft: soft, Time: c.time, Cmp: c.cmp}); got != want {
				t.Errorf("Lines at %#x, Cmp %#x, Soft %#x: %#x, not %#x", c.time, c.cmp, soft, got, want)
			}
		}
	}
}

// CT1: software asks if Soft is odd, even of a state that can't be.
func TestLinesOfSoftware(t *testing.T) {
	for _, c := range []struct{ soft, want uint32 }{
		{0, 0}, {1, 8}, {2, 0}, {3, 8}, {4, 0}, {5, 8}, {8, 0}, {9, 8}, {0x80, 0}, {0x81, 8}, {0x88, 0}, {0x100, 0},
		{0x80000000, 0}, {0x80000001, 8}, {0x7fffffff, 8}, {0x7ffffffe, 0}, {0xfffffffe, 0}, {math.MaxUint32, 8},
	} {
		if got := clint.Lines(clint.State{Soft: c.soft, Time: 4, Cmp: 5}); got != c.want {
			t.Errorf("Lines of Soft %#x below Cmp: %#x, not %#x", c.soft, got, c.want)
		}
		if got := clint.Lines(clint.State{Soft: c.soft, Time: 5, Cmp: 5}); got != c.want+128 {
			t.Errorf("Lines of Soft %#x at Cmp: %#x, not %#x", c.soft, got, c.want+128)
		}
	}
}

// CT1: Next is how far Cmp is, 0 where Time is there or beyond, whatever Soft is.
func TestNextByHand(t *testing.T) {
	for _, c := range []struct{ time, cmp, want uint64 }{
		{3, 5, 2},
		{4, 5, 1},
		{5, 5, 0},
		{6, 5, 0},
		{0, 0, 0},
		{1, 0, 0},
		{0, 1, 1},
		{last, 0, 0},
		{last, last - 1, 0},
		{last, last, 0},
		{last - 1, last, 1},
		{0, last, last},
		{1, last, 0xffffffff_fffffffe},
		{0xffffffff, 0x1_00000000, 1},
		{0x1_00000000, 0xffffffff, 0},
		{0, 0x1_00000000, 0x1_00000000},
		{1, 0x1_00000000, 0xffffffff},
		{0xfffffffe, 0x3_00000001, 0x2_00000003},
		{0x7fffffff_ffffffff, 0x80000000_00000000, 1},
		{0, 0x80000000_00000000, 0x80000000_00000000},
		{0x80000000_00000000, 0, 0},
		{0x80000000_00000000, 0x7fffffff_ffffffff, 0},
		{0x7fffffff_ffffffff, last, 0x80000000_00000000},
	} {
		for _, soft := range []uint32{0, 1, 2, math.MaxUint32} {
			if got := clint.Next(clint.State{Soft: soft, Time: c.time, Cmp: c.cmp}); got != c.want {
				t.Errorf("Next at %#x, Cmp %#x, Soft %#x: %#x, not %#x", c.time, c.cmp, soft, got, c.want)
			}
		}
	}
}

// CT2: what each place reads, of answers that are written out.
func TestReadByHand(t *testing.T) {
	for _, c := range []struct {
		s    clint.State
		want [5]uint32
	}{
		{full(), [5]uint32{1, 0x76543210, 0x01234567, 0xfedcba98, 0x89abcdef}},
		{clint.State{}, [5]uint32{}},
		{clint.State{Time: 0xffffffff, Cmp: 0xffffffff_00000000}, [5]uint32{0, 0, 0xffffffff, 0xffffffff, 0}},
		{clint.State{Time: 0xffffffff_00000000, Cmp: 0xffffffff}, [5]uint32{0, 0xffffffff, 0, 0, 0xffffffff}},
		{clint.State{Soft: 1, Time: 0x80000000, Cmp: 0x80000000_00000001}, [5]uint32{1, 1, 0x80000000, 0x80000000, 0}},
		{clint.State{Time: last}, [5]uint32{0, 0, 0, 0xffffffff, 0xffffffff}},
		{clint.State{Cmp: last}, [5]uint32{0, 0xffffffff, 0xffffffff, 0, 0}},
	} {
		for i, at := range places() {
			if got, err := clint.Read(c.s, at); got != c.want[i] || err != nil {
				t.Errorf("Read of %#x of %x: %#x, %v, not %#x", at, c.s, got, err, c.want[i])
			}
		}
	}
}

// CT2: of a state that can't be Soft is read as it is, and the others as ever: Read names no ErrArg.
func TestReadOfOddSoft(t *testing.T) {
	for _, soft := range oddSofts() {
		s := full()
		s.Soft = soft
		want := [5]uint32{soft, 0x76543210, 0x01234567, 0xfedcba98, 0x89abcdef}
		for i, at := range places() {
			if got, err := clint.Read(s, at); got != want[i] || err != nil {
				t.Errorf("Read of %#x with Soft %#x: %#x, %v, not %#x", at, soft, got, err, want[i])
			}
		}
	}
}

// CT2: what each place becomes, of answers that are written out; the other half, and all else, stays.
func TestWriteByHand(t *testing.T) {
	const v = 0xdeadbeef
	for _, c := range []struct {
		at, v uint32
		want  clint.State
	}{
		{0, 0, clint.State{Soft: 0, Time: 0x89abcdef_fedcba98, Cmp: 0x01234567_76543210}},
		{0, v, clint.State{Soft: 1, Time: 0x89abcdef_fedcba98, Cmp: 0x01234567_76543210}},
		{0x4000, v, clint.State{Soft: 1, Time: 0x89abcdef_fedcba98, Cmp: 0x01234567_deadbeef}},
		{0x4004, v, clint.State{Soft: 1, Time: 0x89abcdef_fedcba98, Cmp: 0xdeadbeef_76543210}},
		{0xbff8, v, clint.State{Soft: 1, Time: 0x89abcdef_deadbeef, Cmp: 0x01234567_76543210}},
		{0xbffc, v, clint.State{Soft: 1, Time: 0xdeadbeef_fedcba98, Cmp: 0x01234567_76543210}},
		{0x4000, 0, clint.State{Soft: 1, Time: 0x89abcdef_fedcba98, Cmp: 0x01234567_00000000}},
		{0x4004, 0, clint.State{Soft: 1, Time: 0x89abcdef_fedcba98, Cmp: 0x00000000_76543210}},
		{0xbff8, 0, clint.State{Soft: 1, Time: 0x89abcdef_00000000, Cmp: 0x01234567_76543210}},
		{0xbffc, 0, clint.State{Soft: 1, Time: 0x00000000_fedcba98, Cmp: 0x01234567_76543210}},
		{0x4000, math.MaxUint32, clint.State{Soft: 1, Time: 0x89abcdef_fedcba98, Cmp: 0x01234567_ffffffff}},
		{0x4004, math.MaxUint32, clint.State{Soft: 1, Time: 0x89abcdef_fedcba98, Cmp: 0xffffffff_76543210}},
		{0xbff8, math.MaxUint32, clint.State{Soft: 1, Time: 0x89abcdef_ffffffff, Cmp: 0x01234567_76543210}},
		{0xbffc, math.MaxUint32, clint.State{Soft: 1, Time: 0xffffffff_fedcba98, Cmp: 0x01234567_76543210}},
	} {
		if got, err := clint.Write(full(), c.at, c.v); got != c.want || err != nil {
			t.Errorf("Write of %#x to %#x: %x, %v, not %x", c.v, c.at, got, err, c.want)
		}
	}
}

// CT2: Soft becomes the lowest bit of what is written, whatever it was and whatever stands above that bit.
func TestWriteOfSoft(t *testing.T) {
	for _, c := range []struct{ v, want uint32 }{
		{0, 0}, {1, 1}, {2, 0}, {3, 1}, {4, 0}, {5, 1}, {8, 0}, {0x80, 0}, {0xff, 1}, {0x100, 0}, {0x101, 1}, {0x10000, 0},
		{0x7ffffffe, 0}, {0x7fffffff, 1}, {0x80000000, 0}, {0x80000001, 1}, {0xfffffffe, 0}, {math.MaxUint32, 1},
	} {
		for _, soft := range append([]uint32{0, 1}, oddSofts()...) {
			s, want := full(), full()
			s.Soft, want.Soft = soft, c.want
			got, err := clint.Write(s, 0, c.v)
			if got != want || err != nil {
				t.Errorf("Write of %#x to Soft %#x: %x, %v, not %x", c.v, soft, got, err, want)
			}
			if err := clint.Check(got); err != nil {
				t.Errorf("behind a write of %#x to Soft %#x: %v", c.v, soft, err)
			}
		}
	}
}

// CT2: a write to a half leaves Soft as it is, even where it can't be: Write names no ErrArg.
func TestWriteLeavesOddSoft(t *testing.T) {
	for _, soft := range oddSofts() {
		for _, at := range places()[1:] {
			s := full()
			s.Soft = soft
			got, err := clint.Write(s, at, 7)
			if got.Soft != soft || err != nil {
				t.Errorf("Write to %#x with Soft %#x: %x, %v", at, soft, got, err)
			}
			if v, err := clint.Read(got, at); v != 7 || err != nil {
				t.Errorf("Read of %#x with Soft %#x: %#x, %v", at, soft, v, err)
			}
		}
	}
}

// CT2: what is written to a half is read there, and each other place reads as it did.
func TestWriteThenRead(t *testing.T) {
	for _, s := range []clint.State{{}, full(), {Soft: 1, Time: last, Cmp: last}, {Time: 0xffffffff, Cmp: 0xffffffff_00000000}} {
		for _, v := range someWords() {
			for _, at := range places() {
				got, err := clint.Write(s, at, v)
				if err != nil {
					t.Fatalf("Write of %#x to %#x: %v", v, at, err)
				}
				for _, p := range places() {
					want, _ := clint.Read(s, p)
					switch {
					case p == at && at == 0:
						want = v % 2
					case p == at:
						want = v
					}
					if r, err := clint.Read(got, p); r != want || err != nil {
						t.Errorf("%x, %#x written to %#x: %#x reads %#x, %v, not %#x", s, v, at, p, r, err, want)
					}
				}
			}
		}
	}
}

// CT2: what may be stays so, whatever is written and however many ticks go by.
func TestWhatMayBeStays(t *testing.T) {
	for _, s := range someStates() {
		if err := clint.Check(clint.Tick(s)); err != nil {
			t.Fatalf("a tick of %x: %v", s, err)
		}
		for _, at := range places() {
			for _, v := range []uint32{0, 1, 2, 3, math.MaxUint32} {
				got, err := clint.Write(s, at, v)
				if err != nil || clint.Check(got) != nil {
					t.Fatalf("Write of %#x to %#x of %x: %x, %v", v, at, s, got, err)
				}
			}
		}
	}
}

// CT2: of any other place ErrBus, and nothing beside it.
func TestNobodyAnswers(t *testing.T) {
	odd := full()
	odd.Soft = math.MaxUint32
	for _, s := range []clint.State{{}, full(), odd, {Soft: 2}} {
		for _, at := range noPlaces() {
			if v, err := clint.Read(s, at); v != 0 || errno(err) != api.ErrBus {
				t.Fatalf("Read of %#x of %x: %#x, %v", at, s, v, err)
			}
			if got, err := clint.Write(s, at, math.MaxUint32); got != (clint.State{}) || errno(err) != api.ErrBus {
				t.Fatalf("Write to %#x of %x: %x, %v", at, s, got, err)
			}
		}
	}
}

// CT3: the chapter's example: two ticks, and no fewer.
func TestExample(t *testing.T) {
	s := clint.State{Time: 3, Cmp: 5}
	for i, want := range []uint32{0, 0, 128, 128, 128} {
		if got := clint.Lines(s); got != want {
			t.Errorf("Lines behind %d ticks: %d, not %d", i, got, want)
		}
		s = clint.Tick(s)
	}
}

// CT3: behind Next ticks, and no fewer, the timer asks; each tick on the way brings it nearer by one.
func TestAsksBehindNextTicks(t *testing.T) {
	for _, from := range someTimes() {
		for far := uint64(0); far <= 40 && far <= last-from; far++ {
			s := clint.State{Time: from, Cmp: from + far}
			for i := uint64(0); i < far; i++ {
				if clint.Next(s) != far-i || clint.Lines(s) != 0 {
					t.Fatalf("%#x, %d ticks behind: Next %d, Lines %d", from, i, clint.Next(s), clint.Lines(s))
				}
				s = clint.Tick(s)
			}
			if clint.Next(s) != 0 || clint.Lines(s) != 128 {
				t.Fatalf("%#x, all %d ticks behind: Next %d, Lines %d", from, far, clint.Next(s), clint.Lines(s))
			}
		}
	}
}

// CT3: a long way is told by Next as well: Next ticks on the timer asks, one fewer it does not.
func TestAsksFarOn(t *testing.T) {
	for _, s := range someStates() {
		s.Soft = 0
		n := clint.Next(s)
		then := s
		then.Time += n
		if clint.Lines(then) != 128 || clint.Next(then) != 0 {
			t.Fatalf("%x, %d ticks on: Lines %d, Next %d", s, n, clint.Lines(then), clint.Next(then))
		}
		if n == 0 {
			continue
		}
		then.Time--
		if clint.Lines(then) != 0 || clint.Next(then) != 1 {
			t.Fatalf("%x, %d ticks on: Lines %d, Next %d", s, n-1, clint.Lines(then), clint.Next(then))
		}
		if got := clint.Lines(clint.Tick(then)); got != 128 {
			t.Fatalf("%x, %d ticks on by a tick: Lines %d", s, n, got)
		}
	}
}

// CT3: the timer asks on till Time turns round; behind that it asks no more, but of Cmp 0, and Next is Cmp again.
func TestAsksTillTimeTurnsRound(t *testing.T) {
	for _, cmp := range []uint64{0, 1, 5, 0xffffffff, 0x1_00000000, 1 << 63, last - 3, last - 1, last} {
		from := max(cmp, last-100)
		s := clint.State{Time: from, Cmp: cmp}
		for i := uint64(0); i <= last-from; i++ {
			if s.Time != from+i || clint.Lines(s) != 128 || clint.Next(s) != 0 {
				t.Fatalf("%d ticks behind %#x: %x, Lines %d, Next %d", i, from, s, clint.Lines(s), clint.Next(s))
			}
			s = clint.Tick(s)
		}
		want := uint32(0)
		if cmp == 0 {
			want = 128
		}
		if s != (clint.State{Cmp: cmp}) || clint.Lines(s) != want || clint.Next(s) != cmp {
			t.Errorf("round, Cmp %#x: %x, Lines %d, Next %#x", cmp, s, clint.Lines(s), clint.Next(s))
		}
	}
}

// CT2, CT3: a driver sets Cmp by halves, so that the timer does not ask between them, and then sets it on.
func TestDriverSetsTheTimer(t *testing.T) {
	s := clint.State{Time: 0x1_fffffffe, Cmp: 0x1_fffffff0}
	for _, c := range []struct {
		at, v uint32
		lines uint32
		next  uint64
	}{
		{0x4000, 0xffffffff, 0, 1},
		{0x4004, 2, 0, 0x1_00000001},
		{0x4000, 1, 0, 3},
		{0, 1, 8, 3},
		{0xbff8, 0xffffffff, 8, 2},
		{0xbffc, 2, 136, 0},
		{0, 0xfffffffe, 128, 0},
	} {
		var err error
		if s, err = clint.Write(s, c.at, c.v); err != nil {
			t.Fatal(err)
		}
		if clint.Lines(s) != c.lines || clint.Next(s) != c.next {
			t.Errorf("%#x written to %#x: Lines %d, Next %#x, not %d, %#x", c.v, c.at, clint.Lines(s), clint.Next(s), c.lines, c.next)
		}
	}
}

// Rule 4: what a call answers hangs on its arguments alone, and the state that is handed in stays.
func TestCallsAgain(t *testing.T) {
	for _, s := range someStates()[:200] {
		was := s
		clint.Tick(s)
		clint.Write(s, 0x4000, 9)
		clint.Write(s, 0xbffc, 9)
		a, errA := clint.Write(s, 0x4004, 3)
		b, errB := clint.Write(s, 0x4004, 3)
		if s != was || a != b || errA != nil || errB != nil || clint.Tick(s) != clint.Tick(was) || clint.Lines(s) != clint.Lines(was) {
			t.Fatalf("%x: %x, %x", was, a, b)
		}
	}
}
