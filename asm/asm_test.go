package asm_test

import (
	"errors"
	"fmt"
	"math"
	"math/rand"
	"regexp"
	"slices"
	"strconv"
	"strings"
	"testing"

	"pinnace/api"
	"pinnace/asm"
	"pinnace/inst"
)

// errno is the number that errors.As finds in an error; 0 of nil, -1 of another error.
func errno(err error) api.Errno {
	if err == nil {
		return 0
	}
	var e api.Errno
	if errors.As(err, &e) {
		return e
	}
	return -1
}

// pair is an instruction and its text.
type pair struct {
	i    inst.Inst
	text string
}

// pairs are a text of each form, with the lowest and the highest of each number, written out by hand.
func pairs() []pair {
	return []pair{
		{inst.Inst{Op: inst.Lui}, "lui x0, 0"},
		{inst.Inst{Op: inst.Lui, Rd: 31, Imm: 4096}, "lui x31, 1"},
		{inst.Inst{Op: inst.Lui, Rd: 1, Imm: -4096}, "lui x1, -1"},
		{inst.Inst{Op: inst.Lui, Rd: 9, Imm: 524287 * 4096}, "lui x9, 524287"},
		{inst.Inst{Op: inst.Auipc, Rd: 10, Imm: -524288 * 4096}, "auipc x10, -524288"},
		{inst.Inst{Op: inst.Jal}, "jal x0, 0"},
		{inst.Inst{Op: inst.Jal, Rd: 1, Imm: 1048574}, "jal x1, 1048574"},
		{inst.Inst{Op: inst.Jal, Rd: 31, Imm: -1048576}, "jal x31, -1048576"},
		{inst.Inst{Op: inst.Jalr, Rd: 1, Rs1: 5, Imm: 8}, "jalr x1, x5, 8"},
		{inst.Inst{Op: inst.Beq, Rs1: 1, Rs2: 2, Imm: 4094}, "beq x1, x2, 4094"},
		{inst.Inst{Op: inst.Bgeu, Rs1: 31, Rs2: 0, Imm: -4096}, "bgeu x31, x0, -4096"},
		{inst.Inst{Op: inst.Bltu, Rs2: 30, Imm: 2}, "bltu x0, x30, 2"},
		{inst.Inst{Op: inst.Lw, Rd: 3, Rs1: 4, Imm: 2047}, "lw x3, 2047(x4)"},
		{inst.Inst{Op: inst.Lbu, Rd: 30, Rs1: 31, Imm: -2048}, "lbu x30, -2048(x31)"},
		{inst.Inst{Op: inst.Lh}, "lh x0, 0(x0)"},
		{inst.Inst{Op: inst.Sw, Rs1: 4, Rs2: 3, Imm: -2048}, "sw x3, -2048(x4)"},
		{inst.Inst{Op: inst.Sb, Rs1: 31, Rs2: 30, Imm: 2047}, "sb x30, 2047(x31)"},
		{inst.Inst{Op: inst.Sh, Rs1: 10, Rs2: 19}, "sh x19, 0(x10)"},
		{inst.Inst{Op: inst.Addi, Rd: 1, Rs1: 2, Imm: -2048}, "addi x1, x2, -2048"},
		{inst.Inst{Op: inst.Sltiu, Rd: 31, Rs1: 31, Imm: 2047}, "sltiu x31, x31, 2047"},
		{inst.Inst{Op: inst.Andi, Rd: 20, Rs1: 29, Imm: 10}, "andi x20, x29, 10"},
		{inst.Inst{Op: inst.Slli, Rd: 1, Rs1: 2}, "slli x1, x2, 0"},
		{inst.Inst{Op: inst.Srai, Rd: 31, Rs1: 30, Imm: 31}, "srai x31, x30, 31"},
		{inst.Inst{Op: inst.Add, Rd: 1, Rs1: 2, Rs2: 3}, "add x1, x2, x3"},
		{inst.Inst{Op: inst.Mulhsu, Rd: 31, Rs1: 30, Rs2: 29}, "mulhsu x31, x30, x29"},
		{inst.Inst{Op: inst.Fence}, "fence x0, x0, 0"},
		{inst.Inst{Op: inst.Fence, Imm: 255}, "fence x0, x0, 255"},
		{inst.Inst{Op: inst.FenceI, Rd: 31, Rs1: 1, Imm: -2048}, "fence.i x31, x1, -2048"},
		{inst.Inst{Op: inst.Ecall}, "ecall"},
		{inst.Inst{Op: inst.Ebreak}, "ebreak"},
		{inst.Inst{Op: inst.Mret}, "mret"},
		{inst.Inst{Op: inst.Wfi}, "wfi"},
		{inst.Inst{Op: inst.Csrrw, Rd: 1, Rs1: 2, Csr: 768}, "csrrw x1, 768, x2"},
		{inst.Inst{Op: inst.Csrrs, Rd: 31, Rs1: 31, Csr: 4095}, "csrrs x31, 4095, x31"},
		{inst.Inst{Op: inst.Csrrc}, "csrrc x0, 0, x0"},
		{inst.Inst{Op: inst.Csrrwi, Rd: 1, Rs1: 31, Csr: 4095}, "csrrwi x1, 4095, 31"},
		{inst.Inst{Op: inst.Csrrsi, Rd: 2, Rs1: 8, Csr: 768}, "csrrsi x2, 768, 8"},
		{inst.Inst{Op: inst.Csrrci}, "csrrci x0, 0, 0"},
	}
}

// AS1, AS3: each text is that of its instruction, both ways.
func TestTextAndParse(t *testing.T) {
	for _, p := range pairs() {
		if got, err := asm.Text(p.i); got != p.text || err != nil {
			t.Errorf("Text(%+v) = %q, %v, want %q", p.i, got, err, p.text)
		}
		if got, err := asm.Parse(p.text); got != p.i || err != nil {
			t.Errorf("Parse(%q) = %+v, %v, want %+v", p.text, got, err, p.i)
		}
	}
}

// AS1: Text answers ErrArg where inst.Check does, with no text.
func TestTextOfNoInstruction(t *testing.T) {
	for _, i := range []inst.Inst{
		{Op: -1}, {Op: inst.Ops}, {Op: math.MinInt}, {Op: math.MaxInt}, {Op: 1 << 32},
		{Op: inst.Addi, Rd: 32}, {Op: inst.Addi, Rd: -1}, {Op: inst.Addi, Rs1: 32}, {Op: inst.Addi, Rs1: -1},
		{Op: inst.Addi, Rs2: 1}, {Op: inst.Addi, Csr: 1}, {Op: inst.Addi, Imm: 2048}, {Op: inst.Addi, Imm: -2049},
		{Op: inst.Lui, Imm: 1}, {Op: inst.Lui, Imm: 4095}, {Op: inst.Lui, Imm: -1}, {Op: inst.Lui, Imm: 1 << 31},
		{Op: inst.Lui, Imm: -1<<31 - 4096}, {Op: inst.Lui, Imm: math.MaxInt}, {Op: inst.Lui, Imm: math.MinInt},
		{Op: inst.Jal, Imm: 1}, {Op: inst.Jal, Imm: 1 << 20}, {Op: inst.Jal, Imm: -1<<20 - 2}, {Op: inst.Jal, Rs1: 1},
		{Op: inst.Beq, Imm: 4096}, {Op: inst.Beq, Imm: -4098}, {Op: inst.Beq, Imm: 3}, {Op: inst.Beq, Rd: 1},
		{Op: inst.Lw, Imm: 2048}, {Op: inst.Lw, Rs2: 1}, {Op: inst.Sw, Imm: -2049}, {Op: inst.Sw, Rd: 1}, {Op: inst.Sw, Rs2: 32},
		{Op: inst.Slli, Imm: 32}, {Op: inst.Slli, Imm: -1}, {Op: inst.Slli, Rs2: 1},
		{Op: inst.Add, Imm: 1}, {Op: inst.Add, Rs2: 32},
		{Op: inst.Fence, Imm: 2048}, {Op: inst.Ecall, Rd: 1}, {Op: inst.Wfi, Imm: 1},
		{Op: inst.Csrrw, Csr: 4096}, {Op: inst.Csrrw, Csr: -1}, {Op: inst.Csrrwi, Rs1: 32}, {Op: inst.Csrrwi, Imm: 1},
	} {
		if got, err := asm.Text(i); got != "" || errno(err) != api.ErrArg {
			t.Errorf("Text(%+v) = %q, %v, want ErrArg", i, got, err)
		}
	}
}

// AS1: what is the text of no instruction is ErrForm, with no instruction.
func TestParseOfNoText(t *testing.T) {
	for _, s := range []string{
		// No operation, or another spelling of one.
		"", " ", "x1", "add", "addi", "nop", "ADD x1, x2, x3", "Add x1, x2, x3", "adds x1, x2, x3", "fencei x0, x0, 0", "fence.i",
		"loop:", ".word 0", "addi: x1, x2, 3", "# wfi", "wfi #", "wfi\n", "\nwfi", "wfi\r", "wfi\x00",
		// Numbers beside the lowest and the highest ones.
		"lui x1, 524288", "lui x1, -524289", "auipc x1, 524288", "auipc x1, -524289",
		"jal x1, 1048575", "jal x1, 1048576", "jal x1, -1048577", "jal x1, -1048578", "jal x1, 1", "jal x1, -1",
		"beq x1, x2, 4095", "beq x1, x2, 4096", "beq x1, x2, -4097", "beq x1, x2, -4098", "beq x1, x2, 1", "bne x1, x2, 3",
		"addi x1, x2, 2048", "addi x1, x2, -2049", "jalr x1, x2, 2048", "fence x0, x0, 2048", "fence x0, x0, -2049",
		"lw x1, 2048(x2)", "lw x1, -2049(x2)", "sw x1, 2048(x2)", "sw x1, -2049(x2)",
		"slli x1, x2, 32", "slli x1, x2, -1", "srai x1, x2, 1024",
		"csrrw x1, 4096, x2", "csrrw x1, -1, x2", "csrrwi x1, 0, 32", "csrrwi x1, 0, -1", "csrrwi x1, 4096, 0",
		// Numbers far too great, that might wrap round.
		"addi x1, x2, 4294967296", "addi x1, x2, 4294967297", "addi x1, x2, -4294967297", "addi x1, x2, 18446744073709551617",
		"addi x1, x2, 9223372036854775807", "addi x1, x2, 9223372036854775808", "addi x1, x2, -9223372036854775808",
		"lui x1, 1048576", "lui x1, 4294967296", "lui x1, 4503599627370496", "lui x1, 4503599627370497", "lui x1, -4503599627370497",
		"lui x1, " + strings.Repeat("9", 400), "add x1, x2, x4294967297", "csrrw x1, 4294967297, x2",
		// Registers.
		"add x32, x1, x1", "add x1, x32, x1", "add x1, x1, x32", "add x00, x1, x1", "add x01, x1, x1", "add x1, x031, x1", "add x-1, x1, x1",
		"add x-0, x1, x1", "add x+1, x1, x1", "add X1, x1, x1", "add 1, x1, x1", "add x, x1, x1", "add xx1, x1, x1", "add ra, x1, x1",
		"add x1, x2, 3", "addi x1, 2, 3", "addi x1, x2, x3", "lui x1, x2", "lw x1, x2(x3)", "lw x1, 2(3)", "sw 1, 2(x3)",
		"csrrw x1, x2, x3", "csrrw x1, 2, 3", "csrrs x1, 2, 3", "csrrc x1, 2, 3", "csrrwi x1, 2, x3", "csrrsi x1, 2, x3", "csrrci x1, 2, x3",
		// Numbers in another spelling.
		"addi x1, x2, 00", "addi x1, x2, 01", "addi x1, x2, -01", "addi x1, x2, -0", "addi x1, x2, +1", "addi x1, x2, --1", "addi x1, x2, 0x1",
		"addi x1, x2, 1_0", "addi x1, x2, -", "addi x1, x2, - 1", "addi x1, x2, 1.0", "addi x1, x2, 1e1", "addi x1, x2, a", "lui x1, -0",
		"lw x1, -0(x2)", "lw x1, 00(x2)", "csrrw x1, 01, x2", "csrrwi x1, 1, 00", "addi x1, x2, \u0661",
		// Blanks and commas that are missing or too many.
		"addi  x1, x2, 3", " addi x1, x2, 3", "addi x1, x2, 3 ", "addi x1,  x2, 3", "addi x1,x2, 3", "addi x1, x2,3", "addi x1 , x2, 3",
		"addi x1 x2 3", "addi x1, x2 3", "addi, x1, x2, 3", "addi x1, x2, 3,", "addi x1, x2, 3, ", "addi ,x1, x2, 3", "addi x1,, x2, 3",
		"addi\tx1, x2, 3", "addi x1,\tx2, 3", "addix1, x2, 3", "addi\u00a0x1, x2, 3", "addi x1; x2; 3",
		// Brackets.
		"lw x1, 0x2", "lw x1, 0 (x2)", "lw x1, 0( x2)", "lw x1, 0(x2 )", "lw x1, 0(x2", "lw x1, 0x2)", "lw x1, (x2)", "lw x1, 0[x2]",
		"lw x1, 0((x2))", "lw x1, 0(x2) ", "lw x1, 0(x2),", "lw x1, 0()", "lw x1, x2, 0", "lw x1, 0, x2", "sw x1, (0)x2", "addi x1, 3(x2)",
		"addi (x1), x2, 3", "sw x1, 0, x2",
		// Operands that are missing or too many.
		"lui x1", "lui", "lui ", "lui x1, ", "lui x1, 1, 1", "jal 8", "jal x1, x2, 8", "add x1, x2", "add x1, x2, x3, x4", "beq x1, 8",
		"addi x1, 8", "addi x1, x2", "addi x1, x2, 3, 4", "lw x1, 0", "lw x1", "csrrw x1, 768", "csrrw x1, x2", "fence", "fence x0, x0",
		"ecall ", " ecall", "ecall x0", "ecall 0", "ecall, ", "wfi 0", "mret ()",
		// A label is no number here.
		"jal x1, loop", "beq x1, x2, loop", "jal loop",
		// Bytes that are no text.
		"\xff", "addi x1, x2, \xff", "addi\xffx1, x2, 3",
	} {
		if got, err := asm.Parse(s); got != (inst.Inst{}) || errno(err) != api.ErrForm {
			t.Errorf("Parse(%q) = %+v, %v, want ErrForm", s, got, err)
		}
	}
}

// plainText is an instruction's text, read off the chapter form by form.
func plainText(i inst.Inst) string {
	n := inst.Name(i.Op)
	switch inst.Kind(i.Op) {
	case 'U':
		return fmt.Sprintf("%s x%d, %d", n, i.Rd, i.Imm>>12)
	case 'J':
		return fmt.Sprintf("%s x%d, %d", n, i.Rd, i.Imm)
	case 'I', 'F', 'H':
		return fmt.Sprintf("%s x%d, x%d, %d", n, i.Rd, i.Rs1, i.Imm)
	case 'L':
		return fmt.Sprintf("%s x%d, %d(x%d)", n, i.Rd, i.Imm, i.Rs1)
	case 'B':
		return fmt.Sprintf("%s x%d, x%d, %d", n, i.Rs1, i.Rs2, i.Imm)
	case 'S':
		return fmt.Sprintf("%s x%d, %d(x%d)", n, i.Rs2, i.Imm, i.Rs1)
	case 'R':
		return fmt.Sprintf("%s x%d, x%d, x%d", n, i.Rd, i.Rs1, i.Rs2)
	case 'C':
		if strings.HasSuffix(n, "i") {
			return fmt.Sprintf("%s x%d, %d, %d", n, i.Rd, i.Csr, i.Rs1)
		}
		return fmt.Sprintf("%s x%d, %d, x%d", n, i.Rd, i.Csr, i.Rs1)
	}
	return n
}

const (
	reg = `x(0|[1-9]|[12][0-9]|3[01])`
	num = `(0|-?[1-9][0-9]*)`
)

// What the chapter says that texts look like.
var (
	formUJ  = regexp.MustCompile(`^([a-z.]+) ` + reg + `, ` + num + `$`)
	formIFH = regexp.MustCompile(`^([a-z.]+) ` + reg + `, ` + reg + `, ` + num + `$`)
	formLS  = regexp.MustCompile(`^([a-z.]+) ` + reg + `, ` + num + `\(` + reg + `\)$`)
	formR   = regexp.MustCompile(`^([a-z.]+) ` + reg + `, ` + reg + `, ` + reg + `$`)
	formN   = regexp.MustCompile(`^([a-z.]+)$`)
	formC   = regexp.MustCompile(`^([a-z.]+) ` + reg + `, ` + num + `, ` + reg + `$`)
	formCi  = regexp.MustCompile(`^([a-z.]+) ` + reg + `, ` + num + `, ` + num + `$`)
)

// matched are the operands of a text that looks as it should, as numbers; none but those that ints can hold are asked for.
func matched(form *regexp.Regexp, s string) ([]int, bool) {
	m := form.FindStringSubmatch(s)
	if m == nil {
		return nil, false
	}
	var out []int
	for _, d := range m[2:] {
		n, err := strconv.Atoi(d)
		if err != nil {
			return nil, false
		}
		out = append(out, n)
	}
	return out, true
}

// plainParse is the instruction of a text; false, if there is none.
func plainParse(s string) (inst.Inst, bool) {
	name, _, _ := strings.Cut(s, " ")
	op, err := inst.Find(name)
	if err != nil {
		return inst.Inst{}, false
	}
	i := inst.Inst{Op: op}
	var l []int
	ok := false
	switch inst.Kind(op) {
	case 'U':
		if l, ok = matched(formUJ, s); ok {
			if l[1] < -1<<31 || l[1] > 1<<31 {
				return inst.Inst{}, false
			}
			i.Rd, i.Imm = l[0], l[1]*4096
		}
	case 'J':
		if l, ok = matched(formUJ, s); ok {
			i.Rd, i.Imm = l[0], l[1]
		}
	case 'I', 'F', 'H':
		if l, ok = matched(formIFH, s); ok {
			i.Rd, i.Rs1, i.Imm = l[0], l[1], l[2]
		}
	case 'L':
		if l, ok = matched(formLS, s); ok {
			i.Rd, i.Imm, i.Rs1 = l[0], l[1], l[2]
		}
	case 'B':
		if l, ok = matched(formIFH, s); ok {
			i.Rs1, i.Rs2, i.Imm = l[0], l[1], l[2]
		}
	case 'S':
		if l, ok = matched(formLS, s); ok {
			i.Rs2, i.Imm, i.Rs1 = l[0], l[1], l[2]
		}
	case 'R':
		if l, ok = matched(formR, s); ok {
			i.Rd, i.Rs1, i.Rs2 = l[0], l[1], l[2]
		}
	case 'N':
		_, ok = matched(formN, s)
	case 'C':
		form := formC
		if strings.HasSuffix(name, "i") {
			form = formCi
		}
		if l, ok = matched(form, s); ok {
			i.Rd, i.Csr, i.Rs1 = l[0], l[1], l[2]
		}
	}
	if !ok || inst.Check(i) != nil {
		return inst.Inst{}, false
	}
	return i, true
}

// someInsts are instructions of all operations, with the edges of every field.
func someInsts() []inst.Inst {
	regs := []int{0, 1, 9, 10, 19, 20, 30, 31}
	nums := []int{
		0, 1, -1, 2, -2, 9, 10, 30, 31, 32, 99, 100, 2046, 2047, 2048, -2047, -2048, -2049, 4092, 4094, 4095, 4096, -4094, -4096, -4097, -4098,
		8192, -8192, 1<<20 - 2, 1 << 20, -1 << 20, -1<<20 - 2, 1<<31 - 4096, 1 << 31, -1 << 31, -1<<31 - 4096,
	}
	var out []inst.Inst
	for op := range inst.Ops {
		for k, a := range regs {
			for m, b := range regs {
				c := regs[(k+m)%len(regs)]
				for _, n := range nums {
					for _, i := range []inst.Inst{
						{Op: op, Rd: a, Imm: n}, {Op: op, Rd: a, Rs1: b, Imm: n}, {Op: op, Rs1: a, Rs2: b, Imm: n},
						{Op: op, Rd: a, Rs1: b, Rs2: c}, {Op: op, Rd: a, Rs1: b, Csr: n}, {Op: op},
					} {
						if inst.Check(i) == nil {
							out = append(out, i)
						}
					}
				}
			}
		}
	}
	return out
}

// AS1, AS3: Text is the plain one, and Parse of it the instruction, of every operation and all edges.
func TestTextOfMany(t *testing.T) {
	seen := map[int]bool{}
	for _, i := range someInsts() {
		seen[i.Op] = true
		text, err := asm.Text(i)
		if text != plainText(i) || err != nil {
			t.Fatalf("Text(%+v) = %q, %v, want %q", i, text, err, plainText(i))
		}
		if got, err := asm.Parse(text); got != i || err != nil {
			t.Fatalf("Parse(%q) = %+v, %v, want %+v", text, got, err, i)
		}
	}
	if len(seen) != inst.Ops {
		t.Errorf("%d operations seen", len(seen))
	}
}

func checkParse(t *testing.T, s string) {
	t.Helper()
	want, ok := plainParse(s)
	got, err := asm.Parse(s)
	if got != want || ok != (err == nil) || !ok && errno(err) != api.ErrForm {
		t.Fatalf("Parse(%q) = %+v, %v, want %+v, %v", s, got, err, want, ok)
	}
}

// AS1: Parse is the plain one of every text that differs by one byte, left out, put in or changed, from a right one.
func TestParseBesideTexts(t *testing.T) {
	const alphabet = " ,()x-+0123489abi.#:\t\n\x00\xff"
	for _, p := range pairs() {
		s := p.text
		for k := range len(s) + 1 {
			for c := range len(alphabet) {
				checkParse(t, s[:k]+alphabet[c:c+1]+s[k:])
				if k < len(s) {
					checkParse(t, s[:k]+alphabet[c:c+1]+s[k+1:])
				}
			}
			if k < len(s) {
				checkParse(t, s[:k]+s[k+1:])
				checkParse(t, s[:k])
				checkParse(t, s[k:])
			}
		}
	}
}

// AS1: every operation's name before every form's operands: only its own form's are its.
func TestParseOfOtherForms(t *testing.T) {
	for op := range inst.Ops {
		for _, p := range pairs() {
			_, rest, more := strings.Cut(p.text, " ")
			s := inst.Name(op)
			if more {
				s += " " + rest
			}
			checkParse(t, s)
		}
	}
}

// told is what Program answers.
type told struct {
	words []uint32
	at    int
	err   api.Errno
}

func run(s string) told {
	l, at, err := asm.Program(s)
	return told{l, at, errno(err)}
}

func same(a, b told) bool { return slices.Equal(a.words, b.words) && a.at == b.at && a.err == b.err }

func checkProgram(t *testing.T, s string, want told) {
	t.Helper()
	if got := run(s); !same(got, want) {
		if len(s) > 200 {
			s = s[:200] + ".."
		}
		t.Errorf("Program(%q) = %x at %d, %v; want %x at %d, %v", s, got.words, got.at, got.err, want.words, want.at, want.err)
	}
}

func words(l ...uint32) told                     { return told{l, 0, 0} }
func wrong(at int, err api.Errno) told           { return told{nil, at, err} }
func jal(rd uint32) uint32                       { return 0x6f | rd<<7 }
func lines(n int, s string) string               { return strings.Repeat(s+"\n", n) }
func many(n int, w uint32, l ...uint32) []uint32 { return append(slices.Repeat([]uint32{w}, n), l...) }

const wfi = 0x10500073

// AS2: lines, notes, blanks and words.
func TestProgramLines(t *testing.T) {
	for _, c := range []struct {
		s    string
		want told
	}{
		{"", words()},
		{"\n", words()},
		{"\n\n\n", words()},
		{" ", words()},
		{"#", words()},
		{"# wfi", words()},
		{"   # nothing # at all\n  \n#", words()},
		{"wfi", words(wfi)},
		{"wfi\n", words(wfi)},
		{"\n\nwfi\n\n", words(wfi)},
		{"wfi\nwfi", words(wfi, wfi)},
		{"   wfi   ", words(wfi)},
		{"wfi#", words(wfi)},
		{"wfi # a note", words(wfi)},
		{"  wfi  ## a # note \xff\r\t", words(wfi)},
		{"#wfi\nwfi", words(wfi)},
		{"addi x1, x0, 7", words(0x00700093)},
		{"addi x1, x0, 7 #, 8", words(0x00700093)},
		{".word 0", words(0)},
		{".word 1", words(1)},
		{".word 12345678", words(0x12345678)},
		{".word deadbeef", words(0xdeadbeef)},
		{".word ffffffff", words(0xffffffff)},
		{".word 00000000", words(0)},
		{".word 0000000f#0", words(0xf)},
		{"  .word a  # ten", words(10)},
		{".word 7\nwfi\n.word 8", words(7, wfi, 8)},
		// Wrong lines, told by their number, of which the first one is 1.
		{"x", wrong(1, api.ErrForm)},
		{"wfi\nx", wrong(2, api.ErrForm)},
		{"x\ny\nz", wrong(1, api.ErrForm)},
		{"wfi\n\n# note\n  \nx\ny", wrong(5, api.ErrForm)},
		{"wfi\nwfi\nadd x1, x2", wrong(3, api.ErrForm)},
		{"addi x1, x0, 2048", wrong(1, api.ErrForm)},
		{"addi x1, # x0, 7", wrong(1, api.ErrForm)},
		{"wfi wfi", wrong(1, api.ErrForm)},
		{"wfi;wfi", wrong(1, api.ErrForm)},
		// Only 32 is a blank, and only 10 parts lines.
		{"\twfi", wrong(1, api.ErrForm)},
		{"wfi\t", wrong(1, api.ErrForm)},
		{"wfi\t# note", wrong(1, api.ErrForm)},
		{"wfi\r\nwfi", wrong(1, api.ErrForm)},
		{"wfi\rwfi", wrong(1, api.ErrForm)},
		{"wfi\u00a0", wrong(1, api.ErrForm)},
		{"wfi\u2028wfi", wrong(1, api.ErrForm)},
		{"wfi\n\t\nwfi", wrong(2, api.ErrForm)},
		{"\x00", wrong(1, api.ErrForm)},
		{"\xef\xbb\xbfwfi", wrong(1, api.ErrForm)},
		// Blanks within are not left out.
		{"addi  x1, x0, 7", wrong(1, api.ErrForm)},
		{"addi x1,  x0, 7", wrong(1, api.ErrForm)},
		// What is no word line.
		{".word", wrong(1, api.ErrForm)},
		{".word ", wrong(1, api.ErrForm)},
		{".word  1", wrong(1, api.ErrForm)},
		{".word\t1", wrong(1, api.ErrForm)},
		{".word1", wrong(1, api.ErrForm)},
		{".word 123456789", wrong(1, api.ErrForm)},
		{".word 000000000", wrong(1, api.ErrForm)},
		{".word 1, 2", wrong(1, api.ErrForm)},
		{".word 1 2", wrong(1, api.ErrForm)},
		{".word 0x1", wrong(1, api.ErrForm)},
		{".word -1", wrong(1, api.ErrForm)},
		{".word A", wrong(1, api.ErrForm)},
		{".word g", wrong(1, api.ErrForm)},
		{".WORD 1", wrong(1, api.ErrForm)},
		{"word 1", wrong(1, api.ErrForm)},
		{"wfi\n.word #1", wrong(2, api.ErrForm)},
	} {
		checkProgram(t, c.s, c.want)
	}
}

// AS2: labels, where they may be and what they mean.
func TestProgramLabels(t *testing.T) {
	const letters = "abcdefghijklmnopqrstuvwxyz"
	for _, c := range []struct {
		s    string
		want told
	}{
		{"loop:\naddi x1, x1, -1\nbne x1, x0, loop", words(0xfff08093, 0xfe009ee3)},
		{"loop:\naddi x1, x1, -1\nbne x1, x0, loop\n", words(0xfff08093, 0xfe009ee3)},
		// Ahead of their use, behind it, at it, at the program's end.
		{"jal x0, a\na:", words(0x0040006f)},
		{"a:\njal x1, a", words(jal(1))},
		{"jal x0, a\nwfi\na:\nwfi", words(0x0080006f, wfi, wfi)},
		{"a:\nwfi\nwfi\njal x0, a", words(wfi, wfi, 0xff9ff06f)},
		{"beq x0, x0, a\na:", words(0x00000263)},
		{"beq x1, x2, a\nwfi\na:\n", words(0x00208463, wfi)},
		{"a:\nbeq x0, x0, a", words(0x00000063)},
		{"a:", words()},
		{"a:\nb:\nc:", words()},
		{"a:\nb:\njal x1, a\njal x1, b\nc:\nd:\njal x1, c\njal x1, d", words(jal(1), 0xffdff0ef, jal(1), 0xffdff0ef)},
		// Words of all kinds have places; lines of nothing and label lines none.
		{"jal x0, a\n.word 7\n\n# note\nb:\nwfi\na:", words(0x00c0006f, 7, wfi)},
		{"  a :\n", wrong(1, api.ErrForm)},
		{"  a:  # note\njal x1, a # note", words(jal(1))},
		{"a:#\njal x1, a#", words(jal(1))},
		// All forms of B and J.
		{"a:\nblt x1, x2, a", words(0x0020c063)},
		{"a:\nbge x1, x2, a", words(0x0020d063)},
		{"a:\nbltu x1, x2, a", words(0x0020e063)},
		{"a:\nbgeu x1, x2, a", words(0x0020f063)},
		// Names.
		{letters[:16] + ":\njal x1, " + letters[:16], words(jal(1))},
		{letters[10:] + ":\njal x1, " + letters[10:], words(jal(1))},
		{letters[:17] + ":", wrong(1, api.ErrForm)},
		{letters[:17] + ":\njal x1, " + letters[:17], wrong(1, api.ErrForm)},
		{letters[:16] + ":\njal x1, " + letters[:17], wrong(2, api.ErrForm)},
		{letters[:16] + ":\njal x1, " + letters[:15], wrong(2, api.ErrForm)},
		{"z:\njal x1, z", words(jal(1))},
		{":", wrong(1, api.ErrForm)},
		{"A:", wrong(1, api.ErrForm)},
		{"aA:", wrong(1, api.ErrForm)},
		{"a1:", wrong(1, api.ErrForm)},
		{"1:", wrong(1, api.ErrForm)},
		{"a_b:", wrong(1, api.ErrForm)},
		{"a.b:", wrong(1, api.ErrForm)},
		{".a:", wrong(1, api.ErrForm)},
		{"a b:", wrong(1, api.ErrForm)},
		{"a::", wrong(1, api.ErrForm)},
		{":a:", wrong(1, api.ErrForm)},
		{"`:", wrong(1, api.ErrForm)},
		{"{:", wrong(1, api.ErrForm)},
		{"\u00e4:", wrong(1, api.ErrForm)},
		{"a: wfi", wrong(1, api.ErrForm)},
		{"a:wfi", wrong(1, api.ErrForm)},
		{"a", wrong(1, api.ErrForm)},
		{"a#:", wrong(1, api.ErrForm)},
		// Operations' names and x may be labels.
		{"jal:\njal x1, jal", words(jal(1))},
		{"x:\njal x1, x", words(jal(1))},
		{"word:\n.word a\njal x1, word", words(10, 0xffdff0ef)},
		{"jal:\njal", wrong(2, api.ErrForm)},
		{"x:\njal x, x", wrong(2, api.ErrForm)},
		// Labels that no line gives.
		{"jal x1, a", wrong(1, api.ErrForm)},
		{"wfi\njal x1, a\nb:", wrong(2, api.ErrForm)},
		{"wfi\nbeq x1, x2, b\na:\nx", wrong(2, api.ErrForm)},
		{"a:\njal x1, a:", wrong(2, api.ErrForm)},
		{"a:\njal x1, -a", wrong(2, api.ErrForm)},
		{"a:\njal x1, A", wrong(2, api.ErrForm)},
		{"#a:\njal x1, a", wrong(2, api.ErrForm)},
		// A label is the number of the forms B and J alone.
		{"a:\naddi x1, x1, a", wrong(2, api.ErrForm)},
		{"a:\njalr x1, x1, a", wrong(2, api.ErrForm)},
		{"a:\nlui x1, a", wrong(2, api.ErrForm)},
		{"a:\nauipc x1, a", wrong(2, api.ErrForm)},
		{"a:\nlw x1, a(x2)", wrong(2, api.ErrForm)},
		{"a:\nsw x1, a(x2)", wrong(2, api.ErrForm)},
		{"a:\nslli x1, x2, a", wrong(2, api.ErrForm)},
		{"a:\nadd x1, x2, a", wrong(2, api.ErrForm)},
		{"a:\nfence x0, x0, a", wrong(2, api.ErrForm)},
		{"a:\ncsrrw x1, a, x1", wrong(2, api.ErrForm)},
		{"a:\ncsrrwi x1, 0, a", wrong(2, api.ErrForm)},
		{"a:\n.word a", words(10)},
		{"g:\n.word g", wrong(2, api.ErrForm)},
		{"a:\njal a, a", wrong(2, api.ErrForm)},
		{"a:\njal a", wrong(2, api.ErrForm)},
		{"a:\njal x1,a", wrong(2, api.ErrForm)},
		{"a:\njal x1,  a", wrong(2, api.ErrForm)},
		{"a:\njal x1 a", wrong(2, api.ErrForm)},
		{"a:\njal x1, (a)", wrong(2, api.ErrForm)},
		{"a:\nbeq x1, a", wrong(2, api.ErrForm)},
		{"a:\nbeq x1, a, x2", wrong(2, api.ErrForm)},
		{"a:\nbeq x1, x2, x3, a", wrong(2, api.ErrForm)},
		{"a:\nbeq x1, x32, a", wrong(2, api.ErrForm)},
		// A name given twice comes ahead of all other faults.
		{"a:\na:", wrong(2, api.ErrName)},
		{"x\na:\ny\na:\nz", wrong(4, api.ErrName)},
		{"a:\nb:\nb:\na:", wrong(3, api.ErrName)},
		{"a:\nb:\na:\nb:", wrong(3, api.ErrName)},
		{"a:\na:\na:", wrong(2, api.ErrName)},
		{"\n a: # one\n\njal x1, none\nwfi\n   a:  # two", wrong(6, api.ErrName)},
		{"jal x1, a\na:\nwfi\na:", wrong(4, api.ErrName)},
		{letters[:17] + ":\n" + letters[:17] + ":", wrong(1, api.ErrForm)},
		{"a1:\na1:", wrong(1, api.ErrForm)},
		{"a:\n#a:", words()},
	} {
		checkProgram(t, c.s, c.want)
	}
}

// AS2: a label too far is ErrForm; the farthest ones that can be reached are not.
func TestProgramFar(t *testing.T) {
	// Form B reaches 4,096 bytes back and 4,094 on: 1,024 words, and 1,023.
	checkProgram(t, "a:\n"+lines(1024, "wfi")+"beq x0, x0, a", told{many(1024, wfi, 0x80000063), 0, 0})
	checkProgram(t, "a:\n"+lines(1025, "wfi")+"beq x0, x0, a\nx", wrong(1027, api.ErrForm))
	on := append([]uint32{0x7e000ee3}, many(1022, wfi, wfi)...)
	checkProgram(t, "beq x0, x0, a\n"+lines(1022, "wfi")+"a:\nwfi", told{on, 0, 0})
	checkProgram(t, "beq x0, x0, a\n"+lines(1023, "wfi")+"a:\nwfi\nx", wrong(1, api.ErrForm))
	// Form J reaches farther than a program is long.
	checkProgram(t, "a:\n"+lines(16000, "wfi")+"jal x0, a", told{many(16000, wfi, 0xe00f006f), 0, 0})
	checkProgram(t, "x\nbeq x0, x0, a\n"+lines(1023, "wfi")+"a:", wrong(1, api.ErrForm))
}

// AS2: a program of 65,536 bytes is taken, one of more is ErrLong at line 0, ahead of all else.
func TestProgramLong(t *testing.T) {
	most := strings.Repeat("wfi\n", 16384)
	checkProgram(t, most, told{many(16384, wfi), 0, 0})
	checkProgram(t, most+"\n", wrong(0, api.ErrLong))
	checkProgram(t, strings.Repeat(" ", 65536), words())
	checkProgram(t, strings.Repeat(" ", 65537), wrong(0, api.ErrLong))
	checkProgram(t, strings.Repeat("\n", 65536), words())
	checkProgram(t, strings.Repeat("\n", 65535)+"x", wrong(65536, api.ErrForm))
	checkProgram(t, "#"+strings.Repeat("x", 65535), words())
	checkProgram(t, "a:\na:\nx\n"+strings.Repeat("#", 65536-8), wrong(2, api.ErrName))
	checkProgram(t, "a:\na:\nx\n"+strings.Repeat("#", 65537-8), wrong(0, api.ErrLong))
	checkProgram(t, strings.Repeat("x", 65536), wrong(1, api.ErrForm))
	checkProgram(t, "lui x1, "+strings.Repeat("1", 60000), wrong(1, api.ErrForm))
	checkProgram(t, "addi x1"+strings.Repeat(", x1", 16000), wrong(1, api.ErrForm))
	checkProgram(t, strings.Repeat("a:\n", 20000), wrong(2, api.ErrName))
}

// AS3: a program of texts alone is their words.
func TestProgramOfTexts(t *testing.T) {
	all := someInsts()
	for len(all) > 0 {
		l := all[:min(1500, len(all))]
		all = all[len(l):]
		var texts []string
		var want []uint32
		for _, i := range l {
			text, err := asm.Text(i)
			if err != nil {
				t.Fatal(err)
			}
			w, err := inst.Encode(i)
			if err != nil {
				t.Fatal(err)
			}
			texts, want = append(texts, text), append(want, w)
		}
		if got := run(strings.Join(texts, "\n")); !same(got, told{want, 0, 0}) {
			t.Fatalf("Program of %d texts: at %d, %v", len(l), got.at, got.err)
		}
	}
}

var (
	labelLine = regexp.MustCompile(`^([a-z]{1,16}):$`)
	wordLine  = regexp.MustCompile(`^\.word ([0-9a-f]{1,8})$`)
	jumpLine  = regexp.MustCompile(`^((?:jal ` + reg + `|(?:beq|bne|blt|bge|bltu|bgeu) ` + reg + `, ` + reg + `), )([a-z]{1,16})$`)
)

// plainProgram is the words of a program, told in one go over its lines for each of the chapter's sentences.
func plainProgram(s string) told {
	if len(s) > 65536 {
		return wrong(0, api.ErrLong)
	}
	at := map[string]int{}
	place := 0
	var texts []string
	for _, l := range strings.Split(s, "\n") {
		if k := strings.IndexByte(l, '#'); k >= 0 {
			l = l[:k]
		}
		for strings.HasPrefix(l, " ") {
			l = l[1:]
		}
		for strings.HasSuffix(l, " ") {
			l = l[:len(l)-1]
		}
		texts = append(texts, l)
		if m := labelLine.FindStringSubmatch(l); m != nil {
			if _, ok := at[m[1]]; ok {
				return wrong(len(texts), api.ErrName)
			}
			at[m[1]] = place
		} else if l != "" {
			place += 4
		}
	}
	var out []uint32
	for k, l := range texts {
		if l == "" || labelLine.MatchString(l) {
			continue
		}
		if m := wordLine.FindStringSubmatch(l); m != nil {
			v, _ := strconv.ParseUint(m[1], 16, 32)
			out = append(out, uint32(v))
			continue
		}
		if m := jumpLine.FindStringSubmatch(l); m != nil {
			to, ok := at[m[len(m)-1]]
			if !ok {
				return wrong(k+1, api.ErrForm)
			}
			l = m[1] + strconv.Itoa(to-4*len(out))
		}
		i, ok := plainParse(l)
		if !ok {
			return wrong(k+1, api.ErrForm)
		}
		w, _ := inst.Encode(i)
		out = append(out, w)
	}
	return told{out, 0, 0}
}

// AS2: Program is the plain one of many programs, most of them right but for a line or a byte, the same ones on each run.
func TestProgramOfMany(t *testing.T) {
	r := rand.New(rand.NewSource(4))
	pieces := []string{
		"", " ", "#", "# a: wfi", "wfi", " wfi ", "wfi # wfi", ".word 1", ".word cafe", "  .word 12345678", "addi x1, x2, -3",
		"lw x1, 4(x2)", "sw x1, -4(x2)", "csrrwi x1, 768, 8", "csrrw x1, 768, x8", "lui x1, -1", "ecall",
		"jal x1, a", "jal x0, b", "beq x1, x2, a", "bne x3, x4, c", "bgeu x31, x30, b", "jal x1, 8", "beq x0, x0, -8", "jal x1, c # c:",
	}
	labels := []string{"a:", "b:", " c: # c", "d:", "loop:"}
	odd := []string{"x", "a :", "jal x1, e", "addi x1, x2, a", ".word g", "a:", "\twfi", "addi x1, x2", "wfi:", "abcdefghijklmnopq:"}
	seen := map[api.Errno]int{}
	for range 20000 {
		var l []string
		for range r.Intn(12) {
			l = append(l, pieces[r.Intn(len(pieces))])
		}
		for _, x := range labels {
			if r.Intn(8) > 0 {
				l = slices.Insert(l, r.Intn(len(l)+1), x)
			}
		}
		if r.Intn(4) == 0 {
			l = slices.Insert(l, r.Intn(len(l)+1), odd[r.Intn(len(odd))])
		}
		s := strings.Join(l, "\n")
		if r.Intn(4) == 0 && s != "" {
			k := r.Intn(len(s))
			s = s[:k] + string(" \n#:,xa10-\t"[r.Intn(11)]) + s[k+1:]
		}
		want := plainProgram(s)
		seen[want.err]++
		if got := run(s); !same(got, want) {
			t.Fatalf("Program(%q) = %+v, want %+v", s, got, want)
		}
	}
	if seen[0] < 1000 || seen[api.ErrForm] < 1000 || seen[api.ErrName] < 300 {
		t.Errorf("the programs are not mixed well: %v", seen)
	}
}

// Rules 3, 4: an answer is new memory, and the same call answers the same.
func TestProgramAnswersNewMemory(t *testing.T) {
	const s = "a:\nwfi\njal x1, a\n.word 5"
	first, _, _ := asm.Program(s)
	want := slices.Clone(first)
	spare := first[:cap(first)]
	for k := range spare {
		spare[k] = 0x55
	}
	second, at, err := asm.Program(s)
	if !slices.Equal(second, want) || at != 0 || err != nil {
		t.Errorf("Program the second time: %x, %d, %v, want %x", second, at, err, want)
	}
	if first[0] != 0x55 {
		t.Error("the second answer wrote into the first one")
	}
}
