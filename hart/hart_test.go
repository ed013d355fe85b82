package hart_test

import (
	"errors"
	"fmt"
	"math"
	"math/rand"
	"strings"
	"testing"

	"pinnace/api"
	"pinnace/asm"
	"pinnace/csr"
	"pinnace/hart"
	"pinnace/inst"
)

const (
	minus7 = 0xfffffff9
	all    = math.MaxUint32
)

// errno is the number that errors.As finds in an error; 0 of nil, -1 of another error.
func errno(err error) api.Errno {
	if err == nil {
		return 0
	}
	var e api.Errno
	if errors.As(err, &e) {
		return e
	}
	return -1
}

// base is a hart that may be, with interrupts on, a vector at 0x2000 with places for interrupts, and -7, 2, -2^31, and places in X.
func base() hart.State {
	h := hart.State{Pc: 0x1000, C: csr.State{Status: 8, Enable: 0x888, Vector: 0x2001, Scratch: 0xf0f0, Epc: 0x3000, Cause: 77, Value: 78, Count: 41}}
	for i := 1; i < 32; i++ {
		h.X[i] = uint32(i) * 0x01010100
	}
	h.X[1], h.X[2], h.X[3], h.X[4], h.X[5] = minus7, 2, 1<<31, 0x80001000, all
	return h
}

// wordText is the word of an instruction's text.
func wordText(t *testing.T, text string) uint32 {
	t.Helper()
	i, err := asm.Parse(text)
	if err != nil {
		t.Fatalf("%q is no instruction", text)
	}
	w, err := inst.Encode(i)
	if err != nil {
		t.Fatalf("%q has no word", text)
	}
	return w
}

// went is a hart that has gone on to a place.
func went(h hart.State, to uint32) hart.State {
	h.Pc = to
	h.C.Count++
	return h
}

// put is a hart that has written a register and gone on behind its instruction.
func put(h hart.State, r int, v uint32) hart.State {
	h.X[r] = v
	return went(h, h.Pc+4)
}

// trapped is a hart that may be, and has gone on at its vector; told here once more, apart from csr.Trap.
func trapped(h hart.State, cause, value uint32) hart.State {
	h.C.Epc, h.C.Cause, h.C.Value = h.Pc, cause, value
	h.C.Status = h.C.Status & 8 * 16
	h.Pc = h.C.Vector / 4 * 4
	if h.C.Vector%2 == 1 && cause >= 1<<31 {
		h.Pc += (cause - 1<<31) * 4
	}
	return h
}

// tell is a hart in digits of base 16.
func tell(h hart.State) string {
	return fmt.Sprintf("{Pc %x, X %x, Wait %v, C %x}", h.Pc, h.X, h.Wait, h.C)
}

// expect holds what a hart has become against what it should be.
func expect(t *testing.T, name string, got, want hart.State) {
	t.Helper()
	if got != want {
		t.Errorf("%s:\n%s, not\n%s", name, tell(got), tell(want))
	}
}

// expectDo does a text, and holds what it made, and what it asked for, against what they should be.
func expectDo(t *testing.T, h hart.State, text string, want hart.State, ask hart.Access) {
	t.Helper()
	for _, lines := range []uint32{0, 0x888, all} {
		got, a := hart.Do(h, wordText(t, text), lines)
		expect(t, text, got, want)
		if a != ask {
			t.Errorf("%s asks for %v, not %v", text, a, ask)
		}
	}
}

// HA1: which states may be, by each bit of each part.
func TestCheckLooksAtEachPart(t *testing.T) {
	for _, full := range []hart.State{{}, base(), {Pc: 0xfffffffc, Wait: true, C: csr.State{Status: 0x88, Enable: 0x888, Vector: 0xfffffffd,
		Scratch: all, Epc: 0xfffffffc, Cause: all, Value: all, Count: math.MaxUint64}}} {
		if err := hart.Check(full); err != nil {
			t.Fatalf("Check of %s: %v", tell(full), err)
		}
		for b := range 32 {
			cases := []struct {
				name string
				part func(h *hart.State) *uint32
				may  bool
			}{
				{"Pc", func(h *hart.State) *uint32 { return &h.Pc }, b > 1},
				{"X[0]", func(h *hart.State) *uint32 { return &h.X[0] }, false},
				{"X[1]", func(h *hart.State) *uint32 { return &h.X[1] }, true},
				{"X[b]", func(h *hart.State) *uint32 { return &h.X[max(b, 1)] }, true},
				{"X[31]", func(h *hart.State) *uint32 { return &h.X[31] }, true},
				{"Status", func(h *hart.State) *uint32 { return &h.C.Status }, b == 3 || b == 7},
				{"Enable", func(h *hart.State) *uint32 { return &h.C.Enable }, b == 3 || b == 7 || b == 11},
				{"Vector", func(h *hart.State) *uint32 { return &h.C.Vector }, b != 1},
				{"Scratch", func(h *hart.State) *uint32 { return &h.C.Scratch }, true},
				{"Epc", func(h *hart.State) *uint32 { return &h.C.Epc }, b > 1},
				{"Cause", func(h *hart.State) *uint32 { return &h.C.Cause }, true},
				{"Value", func(h *hart.State) *uint32 { return &h.C.Value }, true},
			}
			for _, c := range cases {
				h := full
				*c.part(&h) ^= 1 << b
				want := api.ErrArg
				if c.may {
					want = 0
				}
				if got := errno(hart.Check(h)); got != want {
					t.Errorf("Check with the bit %d of %s: %d, not %d", b, c.name, got, want)
				}
			}
		}
	}
	if got := errno(hart.Check(hart.State{Pc: 1, X: [32]uint32{1}, C: csr.State{Status: all, Enable: all, Vector: all, Epc: all}})); got != api.ErrArg {
		t.Errorf("Check of a state that is wrong in all parts: %d", got)
	}
}

// HA1: a hart that begins.
func TestReset(t *testing.T) {
	for pc, want := range map[uint32]uint32{0: 0, 1: 0, 2: 0, 3: 0, 4: 4, 7: 4, 0x80000000: 0x80000000, 0x80000003: 0x80000000,
		0xfffffffc: 0xfffffffc, 0xffffffff: 0xfffffffc} {
		h := hart.Reset(pc)
		expect(t, "Reset", h, hart.State{Pc: want})
		if err := hart.Check(h); err != nil {
			t.Errorf("Reset of %x makes a state that can't be", pc)
		}
	}
}

// HA1: a hart that does not wait, and that nothing asks, fetches as it is.
func TestBeginOfNothing(t *testing.T) {
	for _, c := range []struct{ status, enable, lines uint32 }{
		{8, 0x888, 0}, {8, 0, 0x888}, {8, 0, 0}, {0, 0x888, 0x888}, {0x80, 0x888, 0x888}, {8, 0x80, 0x808}, {8, 0x888, ^uint32(0x888)},
	} {
		h := base()
		h.C.Status, h.C.Enable = c.status, c.enable
		got, fetches := hart.Begin(h, c.lines)
		expect(t, fmt.Sprintf("Begin of %x", c), got, h)
		if !fetches {
			t.Errorf("Begin of %x does not fetch", c)
		}
	}
}

// HA1: which interrupt comes first, and where it goes on; it fetches there.
func TestBeginTakesInterrupts(t *testing.T) {
	for _, c := range []struct{ enable, lines, cause, to uint32 }{
		{0x888, 0x888, 0x8000000b, 0x202c},
		{0x888, 0x088, 0x80000003, 0x200c},
		{0x888, 0x880, 0x8000000b, 0x202c},
		{0x888, 0x808, 0x8000000b, 0x202c},
		{0x888, 0x080, 0x80000007, 0x201c},
		{0x888, 0x008, 0x80000003, 0x200c},
		{0x888, 0x800, 0x8000000b, 0x202c},
		{0x088, 0x888, 0x80000003, 0x200c},
		{0x080, 0x888, 0x80000007, 0x201c},
		{0x800, all, 0x8000000b, 0x202c},
	} {
		for _, waits := range []bool{false, true} {
			for _, flat := range []bool{false, true} {
				h := base()
				h.C.Enable, h.Wait = c.enable, waits
				if flat {
					h.C.Vector = 0x2000
				}
				want := h
				want.Wait, want.Pc = false, c.to
				want.C.Epc, want.C.Cause, want.C.Value, want.C.Status = 0x1000, c.cause, 0, 0x80
				if flat {
					want.Pc = 0x2000
				}
				got, fetches := hart.Begin(h, c.lines)
				expect(t, fmt.Sprintf("Begin of %x, which waits: %v", c, waits), got, want)
				if !fetches {
					t.Errorf("Begin of %x does not fetch", c)
				}
				again, fetches := hart.Begin(got, c.lines)
				expect(t, "Begin behind an interrupt", again, got)
				if !fetches {
					t.Errorf("Begin behind an interrupt does not fetch")
				}
			}
		}
	}
}

// HA1: a hart that waits does so till a line is there that is enabled, whether interrupts are on or not.
func TestBeginOfAWait(t *testing.T) {
	for _, c := range []struct {
		status, enable, lines uint32
		wakes                 bool
	}{
		{8, 0x888, 0, false}, {8, 0, 0x888, false}, {8, 0x80, 0x808, false}, {8, 0x888, ^uint32(0x888), false}, {8, 0, all, false},
		{0, 0x888, 0, false}, {0, 0x808, 0x80, false}, {0x88, 0, 0, false},
		{8, all, ^uint32(0x888), false}, // what is no line wakes nobody, in Enable or not
		{0, all, ^uint32(0x888), false}, {0, all, 1, false},
		{0, 0x888, 0x8, true}, {0, 0x888, 0x80, true}, {0, 0x888, 0x800, true}, {0x80, 0x80, 0x880, true}, {0, 0x8, all, true},
	} {
		h := base()
		h.C.Status, h.C.Enable, h.Wait = c.status, c.enable, true
		want := h
		want.Wait = !c.wakes
		got, fetches := hart.Begin(h, c.lines)
		expect(t, fmt.Sprintf("Begin of %v, which waits", c), got, want)
		if fetches != c.wakes {
			t.Errorf("Begin of %v, which waits, fetches: %v", c, fetches)
		}
	}
}

// HA2: the example of the chapter.
func TestExample(t *testing.T) {
	h, a := hart.Do(hart.Reset(0), 0x00500093, 0)
	expect(t, "addi", h, hart.State{Pc: 4, X: [32]uint32{1: 5}, C: csr.State{Count: 1}})
	if a != (hart.Access{}) {
		t.Errorf("addi asks for %v", a)
	}
}

// made are instructions that write a register, and go on behind themselves, told by hand: of base.
func made() []struct {
	text string
	rd   int
	v    uint32
} {
	return []struct {
		text string
		rd   int
		v    uint32
	}{
		{"lui x6, 74565", 6, 0x12345000}, {"lui x6, -1", 6, 0xfffff000}, {"lui x6, 0", 6, 0}, {"lui x31, -524288", 31, 1 << 31},
		{"auipc x6, 74565", 6, 0x12346000}, {"auipc x6, -1", 6, 0}, {"auipc x6, -2", 6, 0xfffff000}, {"auipc x6, 0", 6, 0x1000},
		{"addi x6, x1, 7", 6, 0}, {"addi x6, x1, 2047", 6, 2040}, {"addi x6, x2, -2048", 6, 0xfffff802}, {"addi x1, x1, -1", 1, 0xfffffff8},
		{"addi x6, x5, 1", 6, 0}, {"addi x6, x0, -1", 6, all},
		{"slti x6, x1, -6", 6, 1}, {"slti x6, x1, -7", 6, 0}, {"slti x6, x2, -1", 6, 0}, {"slti x6, x3, 0", 6, 1},
		{"sltiu x6, x2, -1", 6, 1}, {"sltiu x6, x2, 2", 6, 0}, {"sltiu x6, x1, -6", 6, 1}, {"sltiu x6, x3, 1", 6, 0},
		{"xori x6, x1, -1", 6, 6}, {"xori x6, x2, 3", 6, 1},
		{"ori x6, x2, 5", 6, 7}, {"ori x6, x2, -2048", 6, 0xfffff802},
		{"andi x6, x1, 255", 6, 0xf9}, {"andi x6, x5, -2048", 6, 0xfffff800},
		{"slli x6, x1, 0", 6, minus7}, {"slli x6, x1, 31", 6, 1 << 31}, {"slli x6, x2, 4", 6, 32}, {"slli x6, x2, 31", 6, 0},
		{"srli x6, x1, 0", 6, minus7}, {"srli x6, x1, 31", 6, 1}, {"srli x6, x1, 4", 6, 0x0fffffff},
		{"srai x6, x1, 0", 6, minus7}, {"srai x6, x1, 31", 6, all}, {"srai x6, x1, 1", 6, 0xfffffffc}, {"srai x6, x2, 31", 6, 0},
		{"add x6, x1, x2", 6, 0xfffffffb}, {"add x6, x5, x2", 6, 1}, {"add x6, x3, x3", 6, 0},
		{"sub x6, x1, x2", 6, 0xfffffff7}, {"sub x6, x2, x1", 6, 9}, {"sub x1, x0, x1", 1, 7},
		{"sll x6, x2, x2", 6, 8}, {"sll x6, x1, x5", 6, 1 << 31}, {"sll x6, x1, x3", 6, minus7}, {"sll x6, x1, x0", 6, minus7},
		{"slt x6, x1, x2", 6, 1}, {"slt x6, x2, x1", 6, 0}, {"slt x6, x2, x2", 6, 0},
		{"sltu x6, x1, x2", 6, 0}, {"sltu x6, x2, x1", 6, 1}, {"sltu x6, x0, x2", 6, 1},
		{"xor x6, x1, x2", 6, 0xfffffffb}, {"xor x1, x1, x1", 1, 0},
		{"srl x6, x1, x2", 6, 0x3ffffffe}, {"srl x6, x1, x5", 6, 1}, {"srl x6, x1, x3", 6, minus7},
		{"sra x6, x1, x2", 6, 0xfffffffe}, {"sra x6, x3, x5", 6, all}, {"sra x6, x1, x3", 6, minus7},
		{"or x6, x1, x2", 6, 0xfffffffb}, {"or x6, x2, x3", 6, 0x80000002},
		{"and x6, x1, x5", 6, minus7}, {"and x6, x1, x2", 6, 0},
		{"mul x6, x1, x2", 6, 0xfffffff2}, {"mul x6, x3, x2", 6, 0},
		{"mulh x6, x1, x2", 6, all}, {"mulh x6, x5, x5", 6, 0}, {"mulh x6, x3, x3", 6, 0x40000000},
		{"mulhsu x6, x1, x2", 6, all}, {"mulhsu x6, x2, x1", 6, 1}, {"mulhsu x6, x5, x5", 6, all},
		{"mulhu x6, x1, x2", 6, 1}, {"mulhu x6, x5, x5", 6, 0xfffffffe},
		{"div x6, x1, x2", 6, 0xfffffffd}, {"div x6, x1, x0", 6, all}, {"div x6, x3, x5", 6, 1 << 31}, {"div x6, x0, x0", 6, all},
		{"divu x6, x1, x2", 6, 0x7ffffffc}, {"divu x6, x1, x0", 6, all}, {"divu x6, x3, x5", 6, 0},
		{"rem x6, x1, x2", 6, all}, {"rem x6, x1, x0", 6, minus7}, {"rem x6, x3, x5", 6, 0}, {"rem x6, x2, x1", 6, 2},
		{"remu x6, x1, x2", 6, 1}, {"remu x6, x1, x0", 6, minus7}, {"remu x6, x3, x5", 6, 1 << 31},
	}
}

// HA2: what is written to a register, of the forms U, I, H and R.
func TestMade(t *testing.T) {
	for _, c := range made() {
		expectDo(t, base(), c.text, put(base(), c.rd, c.v), hart.Access{})
	}
}

// HA2: jumps: where they go on, and what they keep.
func TestJumps(t *testing.T) {
	for _, c := range []struct {
		text string
		rd   int
		to   uint32
	}{
		{"jal x6, 8", 6, 0x1008}, {"jal x6, 0", 6, 0x1000}, {"jal x6, -4096", 6, 0}, {"jal x6, -4100", 6, 0xfffffffc},
		{"jal x6, -1048576", 6, 0xfff01000}, {"jal x6, 1048572", 6, 0x100ffc}, {"jal x0, 4", 0, 0x1004},
		{"jalr x6, x4, 0", 6, 0x80001000}, {"jalr x6, x4, -4", 6, 0x80000ffc}, {"jalr x6, x4, 1", 6, 0x80001000}, {"jalr x6, x4, 5", 6, 0x80001004},
		{"jalr x4, x4, 8", 4, 0x80001008}, // the place is taken ahead of the write
		{"jalr x6, x5, 1", 6, 0}, {"jalr x6, x5, 2", 6, 0}, {"jalr x6, x5, 5", 6, 4}, {"jalr x6, x5, -2", 6, 0xfffffffc},
		{"jalr x6, x0, -4", 6, 0xfffffffc}, {"jalr x0, x4, 0", 0, 0x80001000}, {"jalr x6, x2, 2", 6, 4},
	} {
		want := went(base(), c.to)
		if c.rd != 0 {
			want.X[c.rd] = 0x1004
		}
		expectDo(t, base(), c.text, want, hart.Access{})
	}
	for _, c := range []struct {
		text string
		to   uint32
	}{
		{"jal x6, 2", 0x1002}, {"jal x6, 6", 0x1006}, {"jal x6, -2", 0xffe}, {"jal x0, 2", 0x1002}, {"jal x6, 1048574", 0x100ffe}, {"jal x6, -4098", 0xfffffffe},
		{"jalr x6, x4, 2", 0x80001002}, {"jalr x6, x4, 3", 0x80001002}, {"jalr x6, x2, 0", 2}, {"jalr x2, x2, 0", 2}, {"jalr x0, x2, 1", 2},
		{"jalr x6, x5, 0", 0xfffffffe}, {"jalr x6, x5, 4", 2}, {"jalr x4, x4, -1", 0x80000ffe},
	} {
		expectDo(t, base(), c.text, trapped(base(), 0, c.to), hart.Access{})
	}
}

// HA2: branches: which are taken, and where they go on; only those that are taken trap.
func TestBranches(t *testing.T) {
	for _, c := range []struct {
		text  string
		takes bool
	}{
		{"beq x2, x2", true}, {"beq x1, x2", false}, {"beq x0, x0", true},
		{"bne x1, x2", true}, {"bne x2, x2", false},
		{"blt x1, x2", true}, {"blt x2, x1", false}, {"blt x2, x2", false}, {"blt x3, x5", true},
		{"bge x1, x2", false}, {"bge x2, x1", true}, {"bge x2, x2", true},
		{"bltu x1, x2", false}, {"bltu x2, x1", true}, {"bltu x2, x2", false}, {"bltu x0, x5", true},
		{"bgeu x1, x2", true}, {"bgeu x2, x1", false}, {"bgeu x2, x2", true},
	} {
		for n, to := range map[string]uint32{"8": 0x1008, "0": 0x1000, "-4": 0xffc, "4092": 0x1ffc, "-4096": 0} {
			want := went(base(), 0x1004)
			if c.takes {
				want = went(base(), to)
			}
			expectDo(t, base(), c.text+", "+n, want, hart.Access{})
		}
		for n, to := range map[string]uint32{"2": 0x1002, "-2": 0xffe, "6": 0x1006, "4094": 0x1ffe, "-4094": 2} {
			want := went(base(), 0x1004)
			if c.takes {
				want = trapped(base(), 0, to)
			}
			expectDo(t, base(), c.text+", "+n, want, hart.Access{})
		}
	}
}

// HA2: places near 2^32 go round.
func TestPlacesGoRound(t *testing.T) {
	h := base()
	h.Pc = 0xfffffffc
	for _, c := range []struct {
		text string
		want hart.State
	}{
		{"addi x6, x0, 1", put(h, 6, 1)},
		{"fence x0, x0, 0", went(h, 0)},
		{"auipc x6, 1", put(h, 6, 0xffc)},
		{"jal x6, 4", put(h, 6, 0)},
		{"jal x0, 8", went(h, 4)},
		{"jal x6, 6", trapped(h, 0, 2)},
		{"jalr x6, x0, 0", put(h, 6, 0)},
		{"beq x0, x0, 12", went(h, 8)},
		{"beq x0, x0, 6", trapped(h, 0, 2)},
		{"bne x0, x0, 6", went(h, 0)},
		{"csrrs x6, 832, x0", put(h, 6, 0xf0f0)},
	} {
		if c.want.Pc == 0xfffffffc {
			t.Fatalf("%s: Pc stays", c.text)
		}
		expectDo(t, h, c.text, c.want, hart.Access{})
	}
	expect(t, "Done", hart.Done(h, hart.Access{Kind: hart.Store, N: 4}, 0), went(h, 0))
	expect(t, "Done", hart.Done(h, hart.Access{Kind: hart.Load, N: 4, Rd: 9}, 3), put(h, 9, 3))
	for _, c := range []struct {
		text string
		ask  hart.Access
	}{
		{"lw x6, 1(x5)", hart.Access{Kind: hart.Load, At: 0, N: 4, Signed: true, Rd: 6}},
		{"lbu x6, 2(x5)", hart.Access{Kind: hart.Load, At: 1, N: 1, Rd: 6}},
		{"lw x6, -4(x0)", hart.Access{Kind: hart.Load, At: 0xfffffffc, N: 4, Signed: true, Rd: 6}},
		{"sw x2, 5(x5)", hart.Access{Kind: hart.Store, At: 4, N: 4, Value: 2}},
		{"sb x1, -1(x0)", hart.Access{Kind: hart.Store, At: all, N: 1, Value: minus7}},
	} {
		expectDo(t, h, c.text, h, c.ask)
	}
}

// HA2: loads and stores of each width at each of eight places, at both ends of what a number can be.
func TestLoadsAndStores(t *testing.T) {
	loads := []struct {
		name   string
		n      int
		signed bool
	}{{"lb", 1, true}, {"lh", 2, true}, {"lw", 4, true}, {"lbu", 1, false}, {"lhu", 2, false}}
	for _, off := range []int{-2048, -4, -3, -2, -1, 0, 1, 2, 3, 4, 2044, 2045, 2046, 2047} {
		at := uint32(0x80001000 + int64(off))
		for _, l := range loads {
			for _, rd := range []int{0, 4, 6, 31} {
				text := fmt.Sprintf("%s x%d, %d(x4)", l.name, rd, off)
				if at%uint32(l.n) != 0 {
					expectDo(t, base(), text, trapped(base(), 4, at), hart.Access{})
					continue
				}
				expectDo(t, base(), text, base(), hart.Access{Kind: hart.Load, At: at, N: l.n, Signed: l.signed, Rd: rd})
			}
		}
		for i, name := range []string{"sb", "sh", "sw"} {
			n := 1 << i
			for _, rs2 := range []int{0, 1, 4, 31} {
				text := fmt.Sprintf("%s x%d, %d(x4)", name, rs2, off)
				if at%uint32(n) != 0 {
					expectDo(t, base(), text, trapped(base(), 6, at), hart.Access{})
					continue
				}
				expectDo(t, base(), text, base(), hart.Access{Kind: hart.Store, At: at, N: n, Value: base().X[rs2]})
			}
		}
	}
}

// HA2: fences do nothing, whatever is in their fields.
func TestFences(t *testing.T) {
	for _, text := range []string{"fence x0, x0, 0", "fence x0, x0, 255", "fence x6, x4, -1", "fence.i x0, x0, 0", "fence.i x31, x31, -2048"} {
		expectDo(t, base(), text, went(base(), 0x1004), hart.Access{})
	}
}

// HA2: calls and breaks trap, with interrupts on and off.
func TestCallsAndBreaks(t *testing.T) {
	for _, status := range []uint32{0, 8, 0x80, 0x88} {
		h := base()
		h.C.Status, h.Wait = status, status == 8
		expectDo(t, h, "ecall", trapped(h, 11, 0), hart.Access{})
		expectDo(t, h, "ebreak", trapped(h, 3, 0x1000), hart.Access{})
	}
	h, _ := hart.Do(base(), 0x73, 0)
	want := base()
	want.Pc = 0x2000
	want.C = csr.State{Status: 0x80, Enable: 0x888, Vector: 0x2001, Scratch: 0xf0f0, Epc: 0x1000, Cause: 11, Value: 0, Count: 41}
	expect(t, "ecall, all by hand", h, want)
}

// HA2: mret goes on where the trap was, and is counted.
func TestReturns(t *testing.T) {
	for status, want := range map[uint32]uint32{0: 0x80, 8: 0x80, 0x80: 0x88, 0x88: 0x88} {
		h := base()
		h.C.Status = status
		back := went(h, 0x3000)
		back.C.Status = want
		expectDo(t, h, "mret", back, hart.Access{})
	}
	// A state that can't be: where mret goes on is looked at, too, behind the return.
	h := base()
	h.C.Epc = 0x3002
	got, _ := hart.Do(h, 0x30200073, 0)
	want := base()
	want.Pc = 0x2000
	want.C.Status, want.C.Epc, want.C.Cause, want.C.Value = 0, 0x1000, 0, 0x3002
	expect(t, "mret to an odd place", got, want)
}

// HA2, HA1: wfi waits, and is done; behind it nothing is fetched till a line asks.
func TestWaits(t *testing.T) {
	want := went(base(), 0x1004)
	want.Wait = true
	expectDo(t, base(), "wfi", want, hart.Access{})
	still, fetches := hart.Begin(want, 0)
	expect(t, "Begin of a wait", still, want)
	if fetches {
		t.Error("it fetches while it waits")
	}
	woken, fetches := hart.Begin(still, 0x80)
	awake := want
	awake.Wait = false
	expect(t, "Begin of a wait that ends", woken, trapped(awake, 0x80000007, 0))
	if !fetches || woken.C.Epc != 0x1004 {
		t.Errorf("a wait ends: %v, %x", fetches, woken.C.Epc)
	}
}

// HA2: words that are no instruction's trap with the word; nothing is asked.
func TestWordsOfNoInstruction(t *testing.T) {
	words := []uint32{0, all, 1, 0x12345678, 0x00000072, 0x00000074, 0x00200073, 0x00000173, 0x00008073, 0x30200173, 0x30208073, 0x10200073, 0x10500173,
		0x7b200073, 0x00004073, 0x30004073, 0x00001067, 0x00002063, 0x00003063, 0x00003003, 0x00006003, 0x00007003, 0x00003023, 0x00004023, 0x00007023,
		0x02001013, 0x40001013, 0x02005013, 0x42005013, 0x80005013, 0x40001033, 0x40007033, 0x04000033, 0x42000033, 0x0000200f, 0x0000700f,
		0x00000005, 0x0000000b, 0x0000002f, 0x00000053, 0x00000057, 0x8082, 0x00500090, 0x00500091, 0x00500092}
	for _, w := range words {
		for _, waits := range []bool{false, true} {
			h := base()
			h.Wait = waits
			got, a := hart.Do(h, w, 0x888)
			expect(t, fmt.Sprintf("Do of %08x", w), got, trapped(h, 2, w))
			if a != (hart.Access{}) {
				t.Errorf("Do of %08x asks for %v", w, a)
			}
		}
	}
}

// HA2: Rd 0 of each form that has one writes nothing, and all else is done.
func TestRdZero(t *testing.T) {
	for _, c := range made() {
		name, rest, _ := strings.Cut(c.text, " ")
		_, rest, _ = strings.Cut(rest, ",")
		expectDo(t, base(), name+" x0,"+rest, went(base(), 0x1004), hart.Access{})
	}
	expectDo(t, base(), "jal x0, 16", went(base(), 0x1010), hart.Access{})
	expectDo(t, base(), "jalr x0, x4, 16", went(base(), 0x80001010), hart.Access{})
	expectDo(t, base(), "fence x0, x1, 16", went(base(), 0x1004), hart.Access{})
	for _, name := range []string{"csrrs x0, 832, x0", "csrrc x0, 832, x0", "csrrsi x0, 832, 0", "csrrci x0, 832, 0"} {
		expectDo(t, base(), name, went(base(), 0x1004), hart.Access{})
	}
	for _, a := range []hart.Access{{Kind: hart.Load, N: 4}, {Kind: hart.Load, N: 1, Signed: true}, {Kind: hart.Load, N: 2}} {
		expect(t, "Done with Rd 0", hart.Done(base(), a, all), went(base(), 0x1004))
	}
}

// HA2: the six ways to ask for a control register, told by hand: of Scratch, which is 0xf0f0.
func TestControlOfScratch(t *testing.T) {
	for _, c := range []struct {
		text    string
		rd      int
		scratch uint32
	}{
		{"csrrw x6, 832, x1", 6, minus7}, {"csrrw x6, 832, x0", 6, 0}, {"csrrw x0, 832, x2", 0, 2}, {"csrrw x0, 832, x0", 0, 0}, {"csrrw x1, 832, x1", 1, minus7},
		{"csrrs x6, 832, x2", 6, 0xf0f2}, {"csrrs x6, 832, x0", 6, 0xf0f0}, {"csrrs x0, 832, x5", 0, all}, {"csrrs x5, 832, x5", 5, all},
		{"csrrc x6, 832, x5", 6, 0}, {"csrrc x6, 832, x1", 6, 0}, {"csrrc x6, 832, x2", 6, 0xf0f0}, {"csrrc x6, 832, x0", 6, 0xf0f0}, {"csrrc x6, 832, x16", 6, 0xe0f0},
		{"csrrwi x6, 832, 31", 6, 31}, {"csrrwi x6, 832, 0", 6, 0}, {"csrrwi x0, 832, 5", 0, 5}, {"csrrwi x0, 832, 0", 0, 0}, {"csrrwi x1, 832, 1", 1, 1},
		{"csrrsi x6, 832, 5", 6, 0xf0f5}, {"csrrsi x6, 832, 0", 6, 0xf0f0}, {"csrrsi x0, 832, 31", 0, 0xf0ff},
		{"csrrci x6, 832, 31", 6, 0xf0e0}, {"csrrci x6, 832, 0", 6, 0xf0f0}, {"csrrci x0, 832, 16", 0, 0xf0e0}, {"csrrci x6, 832, 1", 6, 0xf0f0},
	} {
		want := went(base(), 0x1004)
		want.C.Scratch = c.scratch
		if c.rd != 0 {
			want.X[c.rd] = 0xf0f0
		}
		expectDo(t, base(), c.text, want, hart.Access{})
	}
}

// ways are the six ways to ask for a control register.
var ways = []string{"csrrw", "csrrs", "csrrc", "csrrwi", "csrrsi", "csrrci"}

// asked is the text of one of the six ways.
func asked(way string, rd, at, rs1 int) string {
	if strings.HasSuffix(way, "i") {
		return fmt.Sprintf("%s x%d, %d, %d", way, rd, at, rs1)
	}
	return fmt.Sprintf("%s x%d, %d, x%d", way, rd, at, rs1)
}

// HA2: registers that are not there trap, each of the six ways, whatever Rd and Rs1 are, and nothing is written.
func TestControlOfNone(t *testing.T) {
	for _, at := range []int{0, 1, 0x100, 0x180, 0x2ff, 0x302, 0x303, 0x306, 0x33f, 0x345, 0xaff, 0xb01, 0xb03, 0xb81, 0xb83, 0xc00, 0xc01, 0xf10, 0xf15, 0xfff} {
		for _, way := range ways {
			for _, rd := range []int{0, 6} {
				for _, rs1 := range []int{0, 1, 7} {
					text := asked(way, rd, at, rs1)
					expectDo(t, base(), text, trapped(base(), 2, wordText(t, text)), hart.Access{})
				}
			}
		}
	}
}

// HA2: registers that may not be written trap, if they are: also with bits that change nothing; what sets or clears with Rs1 0 writes nothing.
func TestControlOfWhatIsReadAlone(t *testing.T) {
	h := base()
	h.X[8] = 0
	for at := 0xf11; at <= 0xf14; at++ {
		for _, way := range ways {
			for _, rd := range []int{0, 6} {
				for _, rs1 := range []int{0, 1, 8} {
					text := asked(way, rd, at, rs1)
					if rs1 == 0 && way != "csrrw" && way != "csrrwi" {
						want := went(h, 0x1004)
						if rd != 0 {
							want.X[rd] = 0
						}
						expectDo(t, h, text, want, hart.Access{})
						continue
					}
					expectDo(t, h, text, trapped(h, 2, wordText(t, text)), hart.Access{})
				}
			}
		}
	}
}

// HA2: what each register tells and takes, by the way of csrrw, with the lines that are there.
func TestControlOfEach(t *testing.T) {
	for _, c := range []struct {
		at   int
		told uint32
		want func(c *csr.State)
	}{
		{0x300, 0x1808, func(c *csr.State) { c.Status = 0x88 }},
		{0x301, 0x40001100, func(c *csr.State) {}},
		{0x304, 0x888, func(c *csr.State) { c.Enable = 0x888 }},
		{0x305, 0x2001, func(c *csr.State) { c.Vector = 0xfffffffd }},
		{0x340, 0xf0f0, func(c *csr.State) { c.Scratch = all }},
		{0x341, 0x3000, func(c *csr.State) { c.Epc = 0xfffffffc }},
		{0x342, 77, func(c *csr.State) { c.Cause = all }},
		{0x343, 78, func(c *csr.State) { c.Value = all }},
		{0x344, 0x880, func(c *csr.State) {}},
		// What is written to the count is one more behind the instruction.
		{0xb00, 41, func(c *csr.State) { c.Count = 0xffffffff }},
		{0xb02, 41, func(c *csr.State) { c.Count = 0xffffffff }},
		{0xb80, 0, func(c *csr.State) { c.Count = 0xffffffff00000029 }},
		{0xb82, 0, func(c *csr.State) { c.Count = 0xffffffff00000029 }},
	} {
		want := base()
		want.X[6], want.Pc = c.told, 0x1004
		c.want(&want.C)
		want.C.Count++
		text := asked("csrrw", 6, c.at, 5)
		got, a := hart.Do(base(), wordText(t, text), 0x880|^uint32(0x888))
		expect(t, text, got, want)
		if a != (hart.Access{}) {
			t.Errorf("%s asks for %v", text, a)
		}
	}
}

// HA2: lines are told by 0x344, of each of the six ways.
func TestControlOfLines(t *testing.T) {
	for _, lines := range []uint32{0, 8, 0x80, 0x800, 0x888, all, ^uint32(0x888)} {
		for _, way := range ways {
			for _, rs1 := range []int{0, 1} {
				text := asked(way, 6, 0x344, rs1)
				got, _ := hart.Do(base(), wordText(t, text), lines)
				expect(t, text, got, put(base(), 6, lines&0x888))
			}
		}
	}
}

// HA2: Rs1 0 writes nothing, though X's first one, or the number, would change nothing as well; another one that holds 0 writes what was read.
func TestControlSetsNothing(t *testing.T) {
	h := base()
	h.X[8] = 0
	// A state that can't be tells a write from none: what is written loses its odd bits.
	h.C.Status = 0x1888
	for _, way := range []string{"csrrs", "csrrc", "csrrsi", "csrrci"} {
		text := asked(way, 6, 0x300, 0)
		expectDo(t, h, text, put(h, 6, 0x1888), hart.Access{})
	}
	for _, way := range []string{"csrrs", "csrrc"} {
		want := put(h, 6, 0x1888)
		want.C.Status = 0x88
		expectDo(t, h, asked(way, 6, 0x300, 8), want, hart.Access{})
	}
}

// HA2: the count goes round at 2^64, and carries at 2^32; what traps is not counted.
func TestCount(t *testing.T) {
	for from, want := range map[uint64]uint64{0: 1, 0xfffffffe: 0xffffffff, 0xffffffff: 1 << 32, math.MaxUint64 - 1: math.MaxUint64, math.MaxUint64: 0} {
		for _, text := range []string{"addi x6, x6, 1", "jal x0, 8", "jalr x6, x4, 0", "beq x0, x0, 8", "bne x0, x0, 8", "add x6, x6, x6", "fence x0, x0, 0",
			"wfi", "mret", "csrrs x6, 832, x0", "csrrw x6, 832, x1", "lui x6, 1"} {
			h := base()
			h.C.Count = from
			if got, _ := hart.Do(h, wordText(t, text), 0); got.C.Count != want {
				t.Errorf("%s with the count %x: %x, not %x", text, from, got.C.Count, want)
			}
		}
		for _, text := range []string{"ecall", "ebreak", "jal x0, 2", "jalr x6, x4, 2", "beq x0, x0, 2", "lw x6, 1(x4)", "sw x6, 1(x4)", "lw x6, 0(x4)", "sw x6, 0(x4)",
			"csrrs x6, 0, x0", "csrrw x6, 3857, x0"} {
			h := base()
			h.C.Count = from
			if got, _ := hart.Do(h, wordText(t, text), 0); got.C.Count != from {
				t.Errorf("%s with the count %x: %x", text, from, got.C.Count)
			}
		}
		h := base()
		h.C.Count = from
		for _, a := range []hart.Access{{Kind: hart.Load, N: 4, Rd: 6}, {Kind: hart.Store, N: 4}} {
			if got := hart.Done(h, a, 0); got.C.Count != want {
				t.Errorf("Done with the count %x: %x, not %x", from, got.C.Count, want)
			}
			if got := hart.Fault(h, a); got.C.Count != from {
				t.Errorf("Fault with the count %x: %x", from, got.C.Count)
			}
		}
	}
	for _, c := range []struct {
		text       string
		told       uint32
		count, was uint64
	}{
		{"csrrw x6, 2816, x5", 5, 0x200000000, 0x100000005}, // 2^32 - 1 into the low half, and one more
		{"csrrw x6, 2944, x5", 1, 0xffffffff00000006, 0x100000005},
		{"csrrw x6, 2818, x0", 5, 0x100000001, 0x100000005},
		{"csrrs x6, 2816, x0", 5, 0x100000006, 0x100000005},
		{"csrrs x6, 2946, x0", 1, 0x100000006, 0x100000005},
		{"csrrw x6, 2944, x5", 0, 0, 0xffffffff},
	} {
		h := base()
		h.C.Count = c.was
		want := put(h, 6, c.told)
		want.C.Count = c.count
		expectDo(t, h, c.text, want, hart.Access{})
	}
}

// HA3: what a load brings, by its bytes and its sign.
func TestDoneOfALoad(t *testing.T) {
	for _, c := range []struct {
		n      int
		signed bool
		v      uint32
		want   uint32
	}{
		{1, true, 0x80, 0xffffff80}, {1, true, 0x7f, 0x7f}, {1, true, 0xffffff7f, 0x7f}, {1, true, 0x12345680, 0xffffff80}, {1, true, all, all},
		{1, false, 0x80, 0x80}, {1, false, 0xffffff7f, 0x7f}, {1, false, 0x12345680, 0x80}, {1, false, all, 0xff},
		{2, true, 0x8000, 0xffff8000}, {2, true, 0x7fff, 0x7fff}, {2, true, 0xffff7fff, 0x7fff}, {2, true, 0x12348001, 0xffff8001}, {2, true, 0x80, 0x80},
		{2, false, 0x8000, 0x8000}, {2, false, 0xffff7fff, 0x7fff}, {2, false, all, 0xffff},
		{4, true, 0x80000000, 0x80000000}, {4, true, 0x12345678, 0x12345678}, {4, true, all, all}, {4, true, 0, 0},
		{4, false, 0x80000000, 0x80000000}, {4, false, 0xfedcba98, 0xfedcba98}, {4, false, 0, 0},
		// Widths that no instruction asks for: so many of the lowest bytes, as far as there are any.
		{3, true, 0x12800000, 0xff800000}, {3, false, 0x12800000, 0x800000}, {0, true, all, 0}, {0, false, all, 0}, {-1, true, all, 0}, {-1, false, all, 0},
		{5, true, 0x89abcdef, 0x89abcdef}, {8, false, 0x89abcdef, 0x89abcdef},
		{math.MinInt, true, all, 0}, {math.MinInt, false, all, 0}, {math.MaxInt, true, 0x89abcdef, 0x89abcdef}, {math.MaxInt, false, 0x89abcdef, 0x89abcdef},
		{1 << 61, true, 0x89abcdef, 0x89abcdef}, {1 << 61, false, 0x89abcdef, 0x89abcdef}, {1<<61 + 1, true, 0x89abcdef, 0x89abcdef},
		{-1<<61 + 1, false, 0x89abcdef, 0}, {1 << 60, true, 0x89abcdef, 0x89abcdef},
	} {
		for _, rd := range []int{1, 6, 31} {
			a := hart.Access{Kind: hart.Load, At: 0x1002, N: c.n, Signed: c.signed, Rd: rd, Value: 0x5a5a5a5a}
			expect(t, fmt.Sprintf("Done of %v, %x", a, c.v), hart.Done(base(), a, c.v), put(base(), rd, c.want))
		}
	}
}

// HA3: of a store nothing is written, and it goes on.
func TestDoneOfAStore(t *testing.T) {
	for _, a := range []hart.Access{{Kind: hart.Store}, {Kind: hart.Store, At: 3, N: 4, Value: 9}, {Kind: hart.Store, N: 1, Rd: 6, Signed: true}, {Kind: hart.Store, N: -5, Rd: 31}} {
		expect(t, fmt.Sprintf("Done of %v", a), hart.Done(base(), a, 0x11223344), went(base(), 0x1004))
		h := base()
		h.Wait = true
		expect(t, "Done while it waits", hart.Done(h, a, 0), went(h, 0x1004))
	}
}

// HA3: what could not be done traps.
func TestFault(t *testing.T) {
	for _, at := range []uint32{0, 1, 0x80001000, all} {
		for _, rd := range []int{0, 6, 31} {
			for _, vector := range []uint32{0, 0x2000, 0x2001, 0xfffffffd} {
				h := base()
				h.C.Vector = vector
				a := hart.Access{At: at, N: 4, Signed: true, Rd: rd, Value: 5}
				expect(t, "Fault of a fetch", hart.Fault(h, a), trapped(h, 1, 0x1000))
				a.Kind = hart.Load
				expect(t, "Fault of a load", hart.Fault(h, a), trapped(h, 5, at))
				a.Kind = hart.Store
				expect(t, "Fault of a store", hart.Fault(h, a), trapped(h, 7, at))
			}
		}
	}
}

// HA3: kinds that are none, and registers that are none, change nothing.
func TestDoneAndFaultOfNone(t *testing.T) {
	for _, h := range []hart.State{{}, base(), {Pc: 3, X: [32]uint32{7}, Wait: true, C: csr.State{Status: all}}} {
		for _, kind := range []int{math.MinInt, -1 << 32, -3, -2, -1, 3, 4, 255, 256, 257, 1 << 32, 1<<32 + 1, math.MaxInt} {
			a := hart.Access{Kind: kind, At: 8, N: 4, Rd: 6}
			expect(t, fmt.Sprintf("Done of the kind %d", kind), hart.Done(h, a, 9), h)
			expect(t, fmt.Sprintf("Fault of the kind %d", kind), hart.Fault(h, a), h)
		}
		// Nothing can fault, but not be done.
		expect(t, "Done of Nothing", hart.Done(h, hart.Access{}, 9), h)
		expect(t, "Done of Nothing", hart.Done(h, hart.Access{Kind: hart.Nothing, N: 4, Rd: 6}, 9), h)
		for _, rd := range []int{math.MinInt, -1 << 32, -32, -31, -1, 32, 33, 64, 1 << 32, 1<<32 + 1, math.MaxInt} {
			for kind := -1; kind <= 3; kind++ {
				a := hart.Access{Kind: kind, At: 8, N: 4, Rd: rd}
				expect(t, fmt.Sprintf("Done of the kind %d, Rd %d", kind, rd), hart.Done(h, a, 9), h)
				expect(t, fmt.Sprintf("Fault of the kind %d, Rd %d", kind, rd), hart.Fault(h, a), h)
			}
		}
	}
}

// HA2: kinds of accesses by their numbers.
func TestKinds(t *testing.T) {
	if hart.Nothing != 0 || hart.Load != 1 || hart.Store != 2 {
		t.Errorf("%d, %d, %d", hart.Nothing, hart.Load, hart.Store)
	}
}

// HA2, HA4: every operation, with fields and states by chance, held against the second hart; states that may be make such.
func TestEachOperationByChance(t *testing.T) {
	if len(shapes) != inst.Ops {
		t.Fatalf("%d shapes", len(shapes))
	}
	r := rand.New(rand.NewSource(8))
	for op := range shapes {
		for range 3000 {
			w := wordOf(r, op)
			if i, err := inst.Decode(w); err != nil || i.Op != op {
				t.Fatalf("%08x is no %s", w, inst.Name(op))
			}
			checkDo(t, someState(r), w, edge(r))
		}
	}
}

// checkDo does a word twice: here and in the second hart.
func checkDo(t *testing.T, h hart.State, w, lines uint32) {
	t.Helper()
	got, a := hart.Do(h, w, lines)
	want, ask := plainDo(h, w, lines)
	if got != want || a != ask {
		t.Fatalf("Do of %08x, lines %x, of\n%s:\n%s, %v, not\n%s, %v", w, lines, tell(h), tell(got), a, tell(want), ask)
	}
	if hart.Check(h) == nil && hart.Check(got) != nil {
		t.Fatalf("Do of %08x of\n%s makes a state that can't be:\n%s", w, tell(h), tell(got))
	}
}

// HA2, HA4: any words, and words that are an instruction's but for a bit.
func TestAnyWords(t *testing.T) {
	r := rand.New(rand.NewSource(88))
	for range 100000 {
		checkDo(t, someState(r), r.Uint32(), edge(r))
		checkDo(t, someState(r), wordOf(r, r.Intn(len(shapes)))^1<<r.Intn(32), edge(r))
	}
}

// HA1 to HA3: states that can't be do as the rules say, too, and nothing panics.
func TestStatesThatCannotBe(t *testing.T) {
	r := rand.New(rand.NewSource(888))
	for range 100000 {
		checkDo(t, oddState(r), wordOf(r, r.Intn(len(shapes))), edge(r))
		checkRest(t, oddState(r), someAccess(r), edge(r), edge(r))
	}
}

// checkRest asks the other calls twice.
func checkRest(t *testing.T, h hart.State, a hart.Access, v, lines uint32) {
	t.Helper()
	began, fetches := hart.Begin(h, lines)
	want, wants := plainBegin(h, lines)
	if began != want || fetches != wants {
		t.Fatalf("Begin, lines %x, of\n%s:\n%s, %v, not\n%s, %v", lines, tell(h), tell(began), fetches, tell(want), wants)
	}
	done, fault := hart.Done(h, a, v), hart.Fault(h, a)
	if want := plainDone(h, a, v); done != want {
		t.Fatalf("Done of %v, %x, of\n%s:\n%s, not\n%s", a, v, tell(h), tell(done), tell(want))
	}
	if want := plainFault(h, a); fault != want {
		t.Fatalf("Fault of %v of\n%s:\n%s, not\n%s", a, tell(h), tell(fault), tell(want))
	}
	for _, x := range []hart.State{began, done, fault} {
		if hart.Check(h) == nil && hart.Check(x) != nil {
			t.Fatalf("%v of\n%s makes a state that can't be:\n%s", a, tell(h), tell(x))
		}
	}
}

// HA1, HA3, HA4: the other calls, with states and accesses by chance.
func TestBeginDoneFaultByChance(t *testing.T) {
	r := rand.New(rand.NewSource(8888))
	for range 100000 {
		checkRest(t, someState(r), someAccess(r), edge(r), edge(r))
	}
}

// HA4: long runs: whatever words and lines come, a state that may be stays one.
func TestLongRuns(t *testing.T) {
	r := rand.New(rand.NewSource(88888))
	for range 50 {
		h := hart.Reset(edge(r))
		for range 2000 {
			lines := edge(r)
			h, _ = hart.Begin(h, lines)
			w := wordOf(r, r.Intn(len(shapes)))
			checkDo(t, h, w, lines)
			next, a := hart.Do(h, w, lines)
			switch {
			case a.Kind == hart.Nothing && r.Intn(20) > 0:
				h = next
			case r.Intn(4) == 0:
				h = hart.Fault(next, a)
			default:
				h = hart.Done(next, a, edge(r))
			}
			if err := hart.Check(h); err != nil {
				t.Fatalf("%08x makes a state that can't be:\n%s", w, tell(h))
			}
		}
	}
}

// HA2, HA3: a program whole: the sum of five words in memory, to its end.
func TestProgram(t *testing.T) {
	words, _, err := asm.Program("lui x1, -524288\naddi x2, x0, 5\nloop:\nlw x3, 256(x1)\nadd x4, x4, x3\naddi x1, x1, 4\naddi x2, x2, -1\nbne x2, x0, loop\nsw x4, 256(x1)\necall\n")
	if err != nil {
		t.Fatal(err)
	}
	memory := map[uint32]uint32{0x80000100: 1, 0x80000104: 20, 0x80000108: 300, 0x8000010c: 4000, 0x80000110: 50000}
	for i, w := range words {
		memory[uint32(0x80000000+4*i)] = w
	}
	h := hart.Reset(0x80000000)
	steps := 0
	for h.Pc != 0 && steps < 100 {
		var a hart.Access
		h, a = hart.Do(h, memory[h.Pc], 0)
		switch a.Kind {
		case hart.Load:
			h = hart.Done(h, a, memory[a.At])
		case hart.Store:
			memory[a.At] = a.Value
			h = hart.Done(h, a, 0)
		}
		steps++
	}
	if memory[0x80000114] != 54321 || h.C.Cause != 11 || h.C.Epc != 0x80000020 || h.C.Count != 28 || steps != 29 {
		t.Errorf("%d, %s, %d steps", memory[0x80000114], tell(h), steps)
	}
}
