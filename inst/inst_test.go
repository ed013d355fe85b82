package inst_test

import (
	"errors"
	"math"
	"slices"
	"strings"
	"testing"

	"pinnace/api"
	"pinnace/inst"
)

// errno is the number that errors.As finds in an error; 0 of nil, -1 of another error.
func errno(err error) api.Errno {
	if err == nil {
		return 0
	}
	var e api.Errno
	if errors.As(err, &e) {
		return e
	}
	return -1
}

// row is a line of the chapter's list; its number is the line's.
type row struct {
	op   int
	name string
	kind byte
	word uint32
}

func rows() []row {
	return []row{
		{inst.Lui, "lui", 'U', 0x37},
		{inst.Auipc, "auipc", 'U', 0x17},
		{inst.Jal, "jal", 'J', 0x6f},
		{inst.Jalr, "jalr", 'I', 0x67},
		{inst.Beq, "beq", 'B', 0x63},
		{inst.Bne, "bne", 'B', 0x1063},
		{inst.Blt, "blt", 'B', 0x4063},
		{inst.Bge, "bge", 'B', 0x5063},
		{inst.Bltu, "bltu", 'B', 0x6063},
		{inst.Bgeu, "bgeu", 'B', 0x7063},
		{inst.Lb, "lb", 'L', 0x3},
		{inst.Lh, "lh", 'L', 0x1003},
		{inst.Lw, "lw", 'L', 0x2003},
		{inst.Lbu, "lbu", 'L', 0x4003},
		{inst.Lhu, "lhu", 'L', 0x5003},
		{inst.Sb, "sb", 'S', 0x23},
		{inst.Sh, "sh", 'S', 0x1023},
		{inst.Sw, "sw", 'S', 0x2023},
		{inst.Addi, "addi", 'I', 0x13},
		{inst.Slti, "slti", 'I', 0x2013},
		{inst.Sltiu, "sltiu", 'I', 0x3013},
		{inst.Xori, "xori", 'I', 0x4013},
		{inst.Ori, "ori", 'I', 0x6013},
		{inst.Andi, "andi", 'I', 0x7013},
		{inst.Slli, "slli", 'H', 0x1013},
		{inst.Srli, "srli", 'H', 0x5013},
		{inst.Srai, "srai", 'H', 0x40005013},
		{inst.Add, "add", 'R', 0x33},
		{inst.Sub, "sub", 'R', 0x40000033},
		{inst.Sll, "sll", 'R', 0x1033},
		{inst.Slt, "slt", 'R', 0x2033},
		{inst.Sltu, "sltu", 'R', 0x3033},
		{inst.Xor, "xor", 'R', 0x4033},
		{inst.Srl, "srl", 'R', 0x5033},
		{inst.Sra, "sra", 'R', 0x40005033},
		{inst.Or, "or", 'R', 0x6033},
		{inst.And, "and", 'R', 0x7033},
		{inst.Mul, "mul", 'R', 0x2000033},
		{inst.Mulh, "mulh", 'R', 0x2001033},
		{inst.Mulhsu, "mulhsu", 'R', 0x2002033},
		{inst.Mulhu, "mulhu", 'R', 0x2003033},
		{inst.Div, "div", 'R', 0x2004033},
		{inst.Divu, "divu", 'R', 0x2005033},
		{inst.Rem, "rem", 'R', 0x2006033},
		{inst.Remu, "remu", 'R', 0x2007033},
		{inst.Fence, "fence", 'F', 0xf},
		{inst.FenceI, "fence.i", 'F', 0x100f},
		{inst.Ecall, "ecall", 'N', 0x73},
		{inst.Ebreak, "ebreak", 'N', 0x100073},
		{inst.Mret, "mret", 'N', 0x30200073},
		{inst.Wfi, "wfi", 'N', 0x10500073},
		{inst.Csrrw, "csrrw", 'C', 0x1073},
		{inst.Csrrs, "csrrs", 'C', 0x2073},
		{inst.Csrrc, "csrrc", 'C', 0x3073},
		{inst.Csrrwi, "csrrwi", 'C', 0x5073},
		{inst.Csrrsi, "csrrsi", 'C', 0x6073},
		{inst.Csrrci, "csrrci", 'C', 0x7073},
	}
}

// noOps are numbers that are no operation's.
func noOps() []int {
	return []int{-1, inst.Ops, inst.Ops + 1, 256, 1 << 32, 1<<32 + 18, -1 << 32, math.MinInt32, math.MinInt, math.MaxInt}
}

// shaped is a line of the list, with what the chapter says of its form.
type shaped struct {
	row
	shape
	mask uint32
}

func shapedRows(t testing.TB) []shaped {
	var out []shaped
	for _, r := range rows() {
		s := shapeOf(t, r.kind)
		out = append(out, shaped{r, s, s.taken()})
	}
	return out
}

// shape is what the chapter says of a form: its fields, and the places of its number's bits in the word, the highest first
// (-1 is a bit 0).
type shape struct {
	rd, rs1, rs2, csr bool
	bits              []int
	sign              bool
}

// from are the places from hi down to lo.
func from(hi, lo int) []int {
	var out []int
	for p := hi; p >= lo; p-- {
		out = append(out, p)
	}
	return out
}

func join(lists ...[]int) []int {
	var out []int
	for _, l := range lists {
		out = append(out, l...)
	}
	return out
}

func shapeOf(t testing.TB, kind byte) shape {
	t.Helper()
	nought := []int{-1}
	switch kind {
	case 'U':
		return shape{rd: true, bits: join(from(31, 12), slices.Repeat(nought, 12)), sign: true}
	case 'J':
		return shape{rd: true, bits: join(from(31, 31), from(19, 12), from(20, 20), from(30, 21), nought), sign: true}
	case 'I', 'L', 'F':
		return shape{rd: true, rs1: true, bits: from(31, 20), sign: true}
	case 'B':
		return shape{rs1: true, rs2: true, bits: join(from(31, 31), from(7, 7), from(30, 25), from(11, 8), nought), sign: true}
	case 'S':
		return shape{rs1: true, rs2: true, bits: join(from(31, 25), from(11, 7)), sign: true}
	case 'H':
		return shape{rd: true, rs1: true, bits: from(24, 20)}
	case 'R':
		return shape{rd: true, rs1: true, rs2: true}
	case 'N':
		return shape{}
	case 'C':
		return shape{rd: true, rs1: true, csr: true}
	}
	t.Fatalf("no form is %q", kind)
	return shape{}
}

// taken are the bits that a form's fields take.
func (s shape) taken() uint32 {
	var out uint32
	for _, f := range []struct {
		has    bool
		hi, lo int
	}{{s.rd, 11, 7}, {s.rs1, 19, 15}, {s.rs2, 24, 20}, {s.csr, 31, 20}} {
		for _, p := range from(f.hi, f.lo) {
			if f.has {
				out |= 1 << p
			}
		}
	}
	for _, p := range s.bits {
		if p >= 0 {
			out |= 1 << p
		}
	}
	return out
}

// number is the number in a word, read bit by bit from the highest one on.
func (s shape) number(w uint32) int {
	v := 0
	for i, p := range s.bits {
		v *= 2
		if p >= 0 && w>>p&1 == 1 {
			if i == 0 && s.sign {
				v--
			} else {
				v++
			}
		}
	}
	return v
}

// bounds are the lowest and the highest number, and what all are multiples of.
func (s shape) bounds() (int, int, int) {
	step := 1
	for _, p := range s.bits {
		if p < 0 {
			step *= 2
		}
	}
	all := 1 << len(s.bits)
	if s.sign {
		return -all / 2, all/2 - step, step
	}
	return 0, all - step, step
}

// plainTold is the instruction of a word, by the chapter's words, if it is one of that line.
func plainTold(r shaped, w uint32) (inst.Inst, bool) {
	if w&^r.mask != r.word {
		return inst.Inst{}, false
	}
	out := inst.Inst{Op: r.op, Imm: r.number(w)}
	if r.rd {
		out.Rd = int(w / (1 << 7) % 32)
	}
	if r.rs1 {
		out.Rs1 = int(w / (1 << 15) % 32)
	}
	if r.rs2 {
		out.Rs2 = int(w / (1 << 20) % 32)
	}
	if r.csr {
		out.Csr = int(w / (1 << 20))
	}
	return out, true
}

// plainCheck tells whether an instruction of that line can be, by the chapter's words.
func plainCheck(r shaped, i inst.Inst) bool {
	field := func(has bool, v, high int) bool { return v == 0 || has && v > 0 && v <= high }
	lo, hi, step := r.bounds()
	return field(r.rd, i.Rd, 31) && field(r.rs1, i.Rs1, 31) && field(r.rs2, i.Rs2, 31) && field(r.csr, i.Csr, 4095) &&
		i.Imm >= lo && i.Imm <= hi && i.Imm%step == 0
}

// someWords are words of all kinds, most of them no instruction's.
func someWords(n int) []uint32 {
	out := []uint32{0, 1, 0xffffffff, 0x80000000, 0x7fffffff, 0x55555555, 0xaaaaaaaa}
	v := uint32(2463534242)
	for range n {
		v ^= v << 13
		v ^= v >> 17
		v ^= v << 5
		out = append(out, v)
	}
	return out
}

// IN1: the list, line by line.
func TestList(t *testing.T) {
	list := rows()
	if inst.Ops != 57 || len(list) != 57 {
		t.Fatalf("%d operations, %d lines; asked for 57", inst.Ops, len(list))
	}
	for n, r := range list {
		if r.op != n {
			t.Errorf("%s: number %d; asked for %d", r.name, r.op, n)
		}
		if got := inst.Name(n); got != r.name {
			t.Errorf("Name of %d: %q; asked for %q", n, got, r.name)
		}
		if op, err := inst.Find(r.name); op != n || err != nil {
			t.Errorf("Find of %q: %d, %v; asked for %d", r.name, op, err, n)
		}
		if got := inst.Kind(n); got != r.kind {
			t.Errorf("Kind of %d: %q; asked for %q", n, got, r.kind)
		}
		if err := inst.Check(inst.Inst{Op: n}); err != nil {
			t.Errorf("Check of %s with noughts: %v", r.name, err)
		}
		if w, err := inst.Encode(inst.Inst{Op: n}); w != r.word || err != nil {
			t.Errorf("Encode of %s with noughts: %x, %v; asked for %x", r.name, w, err, r.word)
		}
		if i, err := inst.Decode(r.word); (i != inst.Inst{Op: n}) || err != nil {
			t.Errorf("Decode of %x: %v, %v; asked for %s with noughts", r.word, i, err, r.name)
		}
	}
}

// IN1, IN2: numbers that are no operation's.
func TestNoOperation(t *testing.T) {
	for _, op := range noOps() {
		if got := inst.Name(op); got != "" {
			t.Errorf("Name of %d: %q", op, got)
		}
		if got := inst.Kind(op); got != 0 {
			t.Errorf("Kind of %d: %q", op, got)
		}
		for _, i := range []inst.Inst{{Op: op}, {Op: op, Rd: 1, Imm: 5}, {Op: op, Rd: -1}, {Op: op, Csr: math.MaxInt}} {
			if err := inst.Check(i); errno(err) != api.ErrArg {
				t.Errorf("Check of %v: %v", i, err)
			}
			if w, err := inst.Encode(i); w != 0 || errno(err) != api.ErrArg {
				t.Errorf("Encode of %v: %x, %v", i, w, err)
			}
		}
	}
}

// IN1: names that are none.
func TestNoName(t *testing.T) {
	names := []string{"", " ", "a", "ad", "x1", "nop", "li", "ret", "addiw", "addw", "fencei", "fence_i", "fence.", "fence.tso",
		"sret", "uret", "Ecall", "\x00", "ä", "addi x1, x0, 5", "csrrwii", "lui,auipc", strings.Repeat("addi", 1000)}
	for _, r := range rows() {
		names = append(names, strings.ToUpper(r.name), strings.ToUpper(r.name[:1])+r.name[1:], " "+r.name, r.name+" ",
			r.name+"\n", r.name+"\x00", r.name+".", r.name+r.name)
	}
	for _, name := range names {
		if op, err := inst.Find(name); op != 0 || errno(err) != api.ErrName {
			t.Errorf("Find of %q: %d, %v", name, op, err)
		}
	}
}

// IN1, IN2: each form's number at its bounds, and beside them.
func TestBoundsOfNumbers(t *testing.T) {
	for _, c := range []struct {
		kinds        string
		lo, hi, step int
	}{
		{"U", -1 << 31, 1<<31 - 4096, 4096}, {"J", -1 << 20, 1<<20 - 2, 2}, {"ILFS", -2048, 2047, 1},
		{"B", -4096, 4094, 2}, {"H", 0, 31, 1}, {"RNC", 0, 0, 1},
	} {
		for _, r := range rows() {
			if strings.IndexByte(c.kinds, r.kind) < 0 {
				continue
			}
			for _, v := range []int{c.lo, c.hi, 0, c.lo / 2, c.hi / 2 / c.step * c.step} {
				checkTaken(t, inst.Inst{Op: r.op, Imm: v})
			}
			wrong := []int{c.lo - c.step, c.lo - 1, c.hi + 1, c.hi + c.step, 1 << 32, -1 << 32, 1 << 40, 1<<32 + 4096,
				math.MinInt, math.MaxInt, math.MinInt + 1, math.MaxInt - 4095}
			if c.step > 1 {
				wrong = append(wrong, 1, -1, c.step-1, c.step+1, 1-c.step, c.lo+1, c.hi-1, c.step/2, c.lo+c.step/2)
			}
			for _, v := range wrong {
				checkRefused(t, inst.Inst{Op: r.op, Imm: v})
			}
		}
	}
}

// checkTaken holds an instruction that can be against what the calls answer.
func checkTaken(t *testing.T, i inst.Inst) {
	t.Helper()
	if err := inst.Check(i); err != nil {
		t.Errorf("Check of %v: %v", i, err)
	}
	w, err := inst.Encode(i)
	if err != nil {
		t.Errorf("Encode of %v: %v", i, err)
		return
	}
	if back, err := inst.Decode(w); back != i || err != nil {
		t.Errorf("Decode of Encode of %v (%x): %v, %v", i, w, back, err)
	}
}

// checkRefused holds an instruction that can't be against what the calls answer.
func checkRefused(t *testing.T, i inst.Inst) {
	t.Helper()
	if err := inst.Check(i); errno(err) != api.ErrArg {
		t.Errorf("Check of %v: %v", i, err)
	}
	if w, err := inst.Encode(i); w != 0 || errno(err) != api.ErrArg {
		t.Errorf("Encode of %v: %x, %v", i, w, err)
	}
}

// IN1, IN2: each form's fields at their bounds and beside them; those that a form has not.
func TestBoundsOfFields(t *testing.T) {
	set := func(op, field, v int) inst.Inst {
		i := inst.Inst{Op: op}
		*[]*int{&i.Rd, &i.Rs1, &i.Rs2, &i.Csr}[field] = v
		return i
	}
	for _, r := range rows() {
		has := map[byte][4]bool{
			'U': {true}, 'J': {true}, 'I': {true, true}, 'L': {true, true}, 'F': {true, true}, 'H': {true, true},
			'B': {false, true, true}, 'S': {false, true, true}, 'R': {true, true, true}, 'N': {},
			'C': {true, true, false, true},
		}[r.kind]
		for field, high := range []int{31, 31, 31, 4095} {
			for _, v := range []int{1, high / 2, high - 1, high} {
				if has[field] {
					checkTaken(t, set(r.op, field, v))
				} else {
					checkRefused(t, set(r.op, field, v))
				}
			}
			for _, v := range []int{-1, high + 1, -high, high + 2, -high - 1, 1 << 32, 1<<32 + 1, -1 << 32, math.MinInt, math.MaxInt} {
				checkRefused(t, set(r.op, field, v))
			}
		}
	}
}

// IN1, IN2: many fields together, held against the chapter's words.
func TestCheckOfManyInstructions(t *testing.T) {
	regs := []int{math.MinInt, -1, 0, 1, 19, 31, 32, 1 << 32}
	csrs := []int{-1, 0, 1, 0x305, 4095, 4096, 1 << 32}
	imms := []int{math.MinInt, -1<<31 - 4096, -1 << 31, -1 << 20, -1<<20 - 2, -4096, -4098, -2049, -2048, -2, -1, 0, 1, 2, 5, 31, 32,
		33, 2047, 2048, 4094, 4095, 4096, 1<<20 - 2, 1 << 20, 1<<31 - 4096, 1<<31 - 1, 1 << 31, 1 << 32, math.MaxInt}
	taken := 0
	for _, r := range shapedRows(t) {
		for n := range len(regs) * len(regs) * len(regs) {
			rd, rs1, rs2 := regs[n%len(regs)], regs[n/len(regs)%len(regs)], regs[n/len(regs)/len(regs)]
			for k, imm := range imms {
				csr := 0
				if r.kind == 'C' || (n+k)%5 == 0 {
					csr = csrs[(n+k)%len(csrs)]
				}
				i := inst.Inst{Op: r.op, Rd: rd, Rs1: rs1, Rs2: rs2, Imm: imm, Csr: csr}
				want := plainCheck(r, i)
				if got := inst.Check(i); (got == nil) != want || !want && errno(got) != api.ErrArg {
					t.Fatalf("Check of %s %v: %v; asked whether it is taken: %t", r.name, i, got, want)
				}
				w, err := inst.Encode(i)
				if !want && (w != 0 || errno(err) != api.ErrArg) {
					t.Fatalf("Encode of %s %v: %x, %v", r.name, i, w, err)
				}
				if !want {
					continue
				}
				taken++
				if back, is := plainTold(r, w); err != nil || !is || back != i {
					t.Fatalf("Encode of %s %v: %x, %v", r.name, i, w, err)
				}
				if back, err := inst.Decode(w); back != i || err != nil {
					t.Fatalf("Decode of Encode of %s %v: %x, %v, %v", r.name, i, w, back, err)
				}
			}
		}
	}
	if taken < 4000 {
		t.Errorf("only %d instructions were taken", taken)
	}
}

// IN2: where each bit of a form's number stands, one by one.
func TestBitsOfNumbers(t *testing.T) {
	for _, r := range shapedRows(t) {
		for n, place := range r.bits {
			if place < 0 {
				continue
			}
			v := 1 << (len(r.bits) - 1 - n)
			if n == 0 && r.sign {
				v = -v
			}
			want := r.word | 1<<place
			if w, err := inst.Encode(inst.Inst{Op: r.op, Imm: v}); w != want || err != nil {
				t.Errorf("Encode of %s, %d: %x, %v; asked for %x", r.name, v, w, err, want)
			}
			if i, err := inst.Decode(want); (i != inst.Inst{Op: r.op, Imm: v}) || err != nil {
				t.Errorf("Decode of %x: %v, %v; asked for %s, %d", want, i, err, r.name, v)
			}
		}
	}
}

// IN2: words as other assemblers make them.
func TestWords(t *testing.T) {
	for _, c := range []struct {
		w uint32
		i inst.Inst
	}{
		{0x00500093, inst.Inst{Op: inst.Addi, Rd: 1, Imm: 5}},
		{0xfff10113, inst.Inst{Op: inst.Addi, Rd: 2, Rs1: 2, Imm: -1}},
		{0x80000f93, inst.Inst{Op: inst.Addi, Rd: 31, Imm: -2048}},
		{0xfffff2b7, inst.Inst{Op: inst.Lui, Rd: 5, Imm: -4096}},
		{0x123450b7, inst.Inst{Op: inst.Lui, Rd: 1, Imm: 0x12345000}},
		{0x80000517, inst.Inst{Op: inst.Auipc, Rd: 10, Imm: -1 << 31}},
		{0xffdff0ef, inst.Inst{Op: inst.Jal, Rd: 1, Imm: -4}},
		{0x0010006f, inst.Inst{Op: inst.Jal, Imm: 2048}},
		{0x00008067, inst.Inst{Op: inst.Jalr, Rs1: 1}},
		{0xfe009ee3, inst.Inst{Op: inst.Bne, Rs1: 1, Imm: -4}},
		{0x00b50463, inst.Inst{Op: inst.Beq, Rs1: 10, Rs2: 11, Imm: 8}},
		{0x7e20ffe3, inst.Inst{Op: inst.Bgeu, Rs1: 1, Rs2: 2, Imm: 4094}},
		{0xffc12503, inst.Inst{Op: inst.Lw, Rd: 10, Rs1: 2, Imm: -4}},
		{0xfe21ae23, inst.Inst{Op: inst.Sw, Rs1: 3, Rs2: 2, Imm: -4}},
		{0x00112623, inst.Inst{Op: inst.Sw, Rs1: 2, Rs2: 1, Imm: 12}},
		{0x41f15093, inst.Inst{Op: inst.Srai, Rd: 1, Rs1: 2, Imm: 31}},
		{0x01f11093, inst.Inst{Op: inst.Slli, Rd: 1, Rs1: 2, Imm: 31}},
		{0x003100b3, inst.Inst{Op: inst.Add, Rd: 1, Rs1: 2, Rs2: 3}},
		{0x023100b3, inst.Inst{Op: inst.Mul, Rd: 1, Rs1: 2, Rs2: 3}},
		{0x403100b3, inst.Inst{Op: inst.Sub, Rd: 1, Rs1: 2, Rs2: 3}},
		{0x0ff0000f, inst.Inst{Op: inst.Fence, Imm: 255}},
		{0x8330000f, inst.Inst{Op: inst.Fence, Imm: -1997}},
		{0x0000100f, inst.Inst{Op: inst.FenceI}},
		{0x00000073, inst.Inst{Op: inst.Ecall}},
		{0x00100073, inst.Inst{Op: inst.Ebreak}},
		{0x30200073, inst.Inst{Op: inst.Mret}},
		{0x10500073, inst.Inst{Op: inst.Wfi}},
		{0x30009073, inst.Inst{Op: inst.Csrrw, Rs1: 1, Csr: 0x300}},
		{0xf14022f3, inst.Inst{Op: inst.Csrrs, Rd: 5, Csr: 0xf14}},
		{0xfffffff3, inst.Inst{Op: inst.Csrrci, Rd: 31, Rs1: 31, Csr: 4095}},
	} {
		if i, err := inst.Decode(c.w); i != c.i || err != nil {
			t.Errorf("Decode of %08x: %v, %v; asked for %v", c.w, i, err, c.i)
		}
		if w, err := inst.Encode(c.i); w != c.w || err != nil {
			t.Errorf("Encode of %v: %08x, %v; asked for %08x", c.i, w, err, c.w)
		}
	}
}

// IN2: words that are no instruction's.
func TestNoWords(t *testing.T) {
	for _, w := range []uint32{
		0, 0xffffffff, 1, 0x4501, 0x00000012, 0x00000010, 0x80000000,
		0x00001067, 0x00007067, // jalr has only its one
		0x00002063, 0x00003063, // no such conditions
		0x00003003, 0x00006003, 0x00007003, // no such loads
		0x00003023, 0x00004023, 0x00007023, // no such stores
		0x02001013, 0x40001013, 0x02005013, 0x42005013, 0x80005013, // shifts with a bit too many
		0x40001033, 0x40007033, 0x04000033, 0x42000033, 0x60000033, 0x80000033, 0xfe000033,
		0x0000200f, 0x0000700f,
		0x00200073, 0x10200073, 0x30200073 + 1<<20, 0x10500073 + 1<<7, 0x00000073 + 1<<7, 0x00000073 + 1<<15,
		0x00100073 + 1<<11, 0x00100073 + 1<<19, 0x12000073, 0x80000073, 0x00004073, 0xfff04073,
		0x0000001b, 0x0000003b, 0x00000007, 0x00000027, 0x0000002f, 0x00000053, 0x0000000b,
	} {
		if i, err := inst.Decode(w); (i != inst.Inst{}) || errno(err) != api.ErrForm {
			t.Errorf("Decode of %08x: %v, %v", w, i, err)
		}
	}
}

// checkWord holds one word against the chapter's words: one instruction at most is its own, and each is its word's.
func checkWord(t *testing.T, list []shaped, w uint32) bool {
	t.Helper()
	var want inst.Inst
	found := 0
	for _, r := range list {
		if i, is := plainTold(r, w); is {
			want = i
			found++
		}
	}
	got, err := inst.Decode(w)
	if found > 1 {
		t.Fatalf("%08x is the word of %d instructions", w, found)
	}
	if found == 0 {
		if (got != inst.Inst{}) || errno(err) != api.ErrForm {
			t.Fatalf("Decode of %08x: %v, %v; asked for an error", w, got, err)
		}
		return false
	}
	if got != want || err != nil {
		t.Fatalf("Decode of %08x: %v, %v; asked for %v", w, got, err, want)
	}
	if err := inst.Check(got); err != nil {
		t.Fatalf("Check of %v, which is %08x: %v", got, w, err)
	}
	if back, err := inst.Encode(got); back != w || err != nil {
		t.Fatalf("Encode of %v: %08x, %v; asked for %08x", got, back, err, w)
	}
	return true
}

// IN2, IN3: each operation's word, with one and two bits turned.
func TestWordsNearBy(t *testing.T) {
	list := shapedRows(t)
	for _, r := range list {
		checkWord(t, list, r.word)
		for a := range 32 {
			checkWord(t, list, r.word^1<<a)
			for b := range a {
				checkWord(t, list, r.word^1<<a^1<<b)
			}
		}
	}
}

// IN2, IN3: all that tells operations apart (the bits 0 to 6, 12 to 14 and 25 to 31), with some fields between.
func TestWordsAll(t *testing.T) {
	list := shapedRows(t)
	fields := []uint32{0, 0x01ff8f80, 0x00100000, 0x00200000}
	words := 0
	for low := range uint32(128) {
		// All words of the list end with 3 in their two lowest bits: of others one kind of fields is enough.
		some := fields[low%4 : low%4+1]
		if low&3 == 3 {
			some = fields
		}
		for middle := range uint32(8) {
			for high := range uint32(128) {
				for _, f := range some {
					if checkWord(t, list, low|middle<<12|high<<25|f) {
						words++
					}
				}
			}
		}
	}
	if words < 1000 {
		t.Errorf("only %d words are instructions'", words)
	}
}

// IN2, IN3: words as they come, and each operation's with fields as they come.
func TestWordsByChance(t *testing.T) {
	list := shapedRows(t)
	for n, w := range someWords(20000) {
		checkWord(t, list, w)
		r := list[n%len(list)]
		if !checkWord(t, list, r.word|w&r.mask) {
			t.Fatalf("%08x is no instruction's; asked for %s", r.word|w&r.mask, r.name)
		}
	}
}
