package alu_test

import (
	"errors"
	"math"
	"math/big"
	"testing"

	"pinnace/alu"
	"pinnace/api"
)

// errno is the number that errors.As finds in an error; 0 of nil, -1 of another error.
func errno(err error) api.Errno {
	if err == nil {
		return 0
	}
	var e api.Errno
	if errors.As(err, &e) {
		return e
	}
	return -1
}

const (
	half = 1 << 31 // the word that is -2^31, with its sign
	full = math.MaxUint32
)

// someWords are words at the edges, with a sign and without, and some between.
func someWords() []uint32 {
	out := []uint32{0, 1, 2, 3, 5, 7, 10, 31, 32, 33, 63, 64, 65, 0xff, 0x100, 0x7fff, 0x8000, 0xffff, 0x10000, 0x10001,
		46340, 46341, 0x3fffffff, 0x40000000, 0x40000001, half - 2, half - 1, half, half + 1, half + 2, 0xbfffffff,
		0xc0000000, 0xc0000001, 0xffff0000, 0xffff7fff, 0xffff8000, 0xfffffff9, full - 2, full - 1, full}
	v := uint32(54321)
	for range 40 {
		v = v*1664525 + 1013904223
		// Small ones as well, so that quotients are not all 0 or 1.
		out = append(out, v, v>>(v>>27))
	}
	return out
}

// value is the number that a word is, with its sign or without, by the chapter's words.
func value(v uint32, sign bool) *big.Int {
	out := new(big.Int).SetUint64(uint64(v))
	if sign && v >= half {
		out.Sub(out, new(big.Int).Lsh(big.NewInt(1), 32))
	}
	return out
}

// low is a number modulo 2^32.
func low(v *big.Int) uint32 {
	return uint32(new(big.Int).Mod(v, new(big.Int).Lsh(big.NewInt(1), 32)).Uint64())
}

// high is the upper half of a number modulo 2^64.
func high(v *big.Int) uint32 {
	return low(new(big.Int).Rsh(v, 32))
}

// do is what Do answers, where no error may be.
func do(t *testing.T, op int, a, b uint32) uint32 {
	t.Helper()
	v, err := alu.Do(op, a, b)
	if err != nil {
		t.Fatalf("Do of %d, %x, %x: %v", op, a, b, err)
	}
	return v
}

// AL1: the product at the edges.
func TestWide(t *testing.T) {
	for _, c := range []struct {
		a, b      uint32
		sa, sb    bool
		high, low uint32
	}{
		{0, 0, true, true, 0, 0}, {6, 7, false, false, 0, 42}, {6, 7, true, true, 0, 42},
		{0x10000, 0x10000, false, false, 1, 0}, {0x12345678, 0x9abcdef0, false, false, 0x0b00ea4e, 0x242d2080},
		{full, full, false, false, 0xfffffffe, 1}, {full, full, true, true, 0, 1},
		{full, full, true, false, 0xffffffff, 1}, {full, full, false, true, 0xffffffff, 1},
		{full, 2, true, false, 0xffffffff, 0xfffffffe}, {full, 2, false, true, 1, 0xfffffffe},
		{2, full, true, false, 1, 0xfffffffe}, {2, full, false, true, 0xffffffff, 0xfffffffe},
		{half, half, false, false, 0x40000000, 0}, {half, half, true, true, 0x40000000, 0},
		{half, half, true, false, 0xc0000000, 0}, {half, half, false, true, 0xc0000000, 0},
		{half, full, true, true, 0, half}, {half, full, true, false, 0x80000000, half},
		{half, full, false, true, 0xffffffff, half}, {half, full, false, false, 0x7fffffff, half},
		{half - 1, half - 1, true, true, 0x3fffffff, 1}, {half + 1, half + 1, true, true, 0x3fffffff, 1},
		{half + 1, half + 1, false, false, 0x40000001, 1},
	} {
		if h, l := alu.Wide(c.a, c.b, c.sa, c.sb); h != c.high || l != c.low {
			t.Errorf("Wide of %x, %x, %t, %t: %x, %x; asked for %x, %x", c.a, c.b, c.sa, c.sb, h, l, c.high, c.low)
		}
	}
}

// AL1: the product held against numbers that never wrap round.
func TestWideOfManyWords(t *testing.T) {
	for _, a := range someWords() {
		for _, b := range someWords() {
			for signs := range 4 {
				sa, sb := signs&1 == 1, signs&2 == 2
				want := new(big.Int).Mul(value(a, sa), value(b, sb))
				if h, l := alu.Wide(a, b, sa, sb); h != high(want) || l != low(want) {
					t.Fatalf("Wide of %x, %x, %t, %t: %x, %x; asked for %x", a, b, sa, sb, h, l, want)
				}
			}
		}
	}
}

// AL2: quotients and rests at the edges, division by 0 and -2^31 by -1 among them.
func TestParts(t *testing.T) {
	for _, c := range []struct {
		a, b           uint32
		signs          bool
		quotient, rest uint32
	}{
		{0, 0, true, full, 0}, {0, 0, false, full, 0}, {7, 0, true, full, 7}, {7, 0, false, full, 7},
		{half, 0, true, full, half}, {half, 0, false, full, half}, {full, 0, true, full, full}, {full, 0, false, full, full},

		{half, full, true, half, 0}, {half, full, false, 0, half},
		{half + 1, full, true, half - 1, 0}, {half - 1, full, true, half + 1, 0}, {half, full - 1, true, 0x40000000, 0},
		{half, 1, true, half, 0}, {half, half, true, 1, 0}, {half - 1, half, true, 0, half - 1},
		{half + 1, half, true, 0, half + 1}, {half, half - 1, true, full, full},

		{7, 2, true, 3, 1}, {0xfffffff9, 2, true, 0xfffffffd, 0xffffffff}, {7, 0xfffffffe, true, 0xfffffffd, 1},
		{0xfffffff9, 0xfffffffe, true, 3, 0xffffffff}, {6, 3, true, 2, 0}, {0xfffffffa, 3, true, 0xfffffffe, 0},
		{1, 2, true, 0, 1}, {full, 2, true, 0, full}, {0, 5, true, 0, 0}, {0, full, true, 0, 0},

		{7, 2, false, 3, 1}, {0xfffffff9, 2, false, 0x7ffffffc, 1}, {7, 0xfffffffe, false, 0, 7},
		{full, full, false, 1, 0}, {full - 1, full, false, 0, full - 1}, {full, 1, false, full, 0},
		{full, half, false, 1, half - 1}, {half - 1, half, false, 0, half - 1}, {0, 5, false, 0, 0},
	} {
		if q, r := alu.Parts(c.a, c.b, c.signs); q != c.quotient || r != c.rest {
			t.Errorf("Parts of %x, %x, %t: %x, %x; asked for %x, %x", c.a, c.b, c.signs, q, r, c.quotient, c.rest)
		}
	}
}

// plainParts are quotient and rest by the chapter's words, of numbers that never wrap round.
func plainParts(a, b uint32, signs bool) (uint32, uint32) {
	if b == 0 {
		return full, a
	}
	if signs && a == half && b == full {
		return half, 0
	}
	quotient, rest := new(big.Int).QuoRem(value(a, signs), value(b, signs), new(big.Int))
	return low(quotient), low(rest)
}

// AL2: quotients and rests held against numbers that never wrap round.
func TestPartsOfManyWords(t *testing.T) {
	for _, a := range someWords() {
		for _, b := range someWords() {
			for _, signs := range []bool{false, true} {
				wantQ, wantR := plainParts(a, b, signs)
				if q, r := alu.Parts(a, b, signs); q != wantQ || r != wantR {
					t.Fatalf("Parts of %x, %x, %t: %x, %x; asked for %x, %x", a, b, signs, q, r, wantQ, wantR)
				}
			}
		}
	}
}

// AL3: the numbers of operations and conditions.
func TestNumbers(t *testing.T) {
	ops := []int{alu.Add, alu.Sub, alu.Sll, alu.Slt, alu.Sltu, alu.Xor, alu.Srl, alu.Sra, alu.Or, alu.And, alu.Mul, alu.Mulh,
		alu.Mulhsu, alu.Mulhu, alu.Div, alu.Divu, alu.Rem, alu.Remu}
	for want, got := range ops {
		if got != want {
			t.Errorf("operation %d has the number %d", want, got)
		}
	}
	conds := []int{alu.Eq, alu.Ne, alu.Lt, alu.Ge, alu.Ltu, alu.Geu}
	for want, got := range conds {
		if got != want {
			t.Errorf("condition %d has the number %d", want, got)
		}
	}
	if alu.Ops != 18 || alu.Remu != 17 || alu.Conds != 6 || alu.Geu != 5 {
		t.Errorf("Ops %d, Remu %d, Conds %d, Geu %d", alu.Ops, alu.Remu, alu.Conds, alu.Geu)
	}
}

// AL3: what each operation makes, at the edges.
func TestDo(t *testing.T) {
	for _, c := range []struct {
		op         int
		a, b, want uint32
	}{
		{alu.Add, 2, 3, 5}, {alu.Add, full, 1, 0}, {alu.Add, half - 1, 1, half}, {alu.Add, half, half, 0}, {alu.Add, full, full, full - 1},
		{alu.Sub, 5, 3, 2}, {alu.Sub, 3, 5, full - 1}, {alu.Sub, 0, 1, full}, {alu.Sub, half, 1, half - 1}, {alu.Sub, 0, half, half},

		{alu.Sll, 1, 0, 1}, {alu.Sll, 1, 31, half}, {alu.Sll, 3, 31, half}, {alu.Sll, 5, 32, 5}, {alu.Sll, 5, 33, 10},
		{alu.Sll, 5, full, half}, {alu.Sll, 5, 0xffffffe0, 5}, {alu.Sll, 5, 0x100, 5},
		{alu.Srl, half, 0, half}, {alu.Srl, half, 31, 1}, {alu.Srl, full, 4, 0x0fffffff}, {alu.Srl, half, 32, half},
		{alu.Srl, half, 33, 0x40000000}, {alu.Srl, full, full, 1}, {alu.Srl, 8, 0xffffffe1, 4},
		{alu.Sra, half, 0, half}, {alu.Sra, half, 31, full}, {alu.Sra, half - 1, 31, 0}, {alu.Sra, 0xfffffff0, 2, 0xfffffffc},
		{alu.Sra, 0x70, 4, 7}, {alu.Sra, half, 32, half}, {alu.Sra, half, 33, 0xc0000000}, {alu.Sra, half, full, full},

		{alu.Slt, 1, 2, 1}, {alu.Slt, 2, 1, 0}, {alu.Slt, 2, 2, 0}, {alu.Slt, full, 0, 1}, {alu.Slt, 0, full, 0},
		{alu.Slt, half, half - 1, 1}, {alu.Slt, half - 1, half, 0}, {alu.Slt, half, half + 1, 1}, {alu.Slt, half, half, 0},
		{alu.Sltu, 1, 2, 1}, {alu.Sltu, 2, 1, 0}, {alu.Sltu, 2, 2, 0}, {alu.Sltu, full, 0, 0}, {alu.Sltu, 0, full, 1},
		{alu.Sltu, half, half - 1, 0}, {alu.Sltu, half - 1, half, 1}, {alu.Sltu, 0, 1, 1}, {alu.Sltu, 0, 0, 0},

		{alu.Xor, 0xff00ff00, 0x0ff00ff0, 0xf0f0f0f0}, {alu.Or, 0xff00ff00, 0x0ff00ff0, 0xfff0fff0},
		{alu.And, 0xff00ff00, 0x0ff00ff0, 0x0f000f00},

		{alu.Mul, 6, 7, 42}, {alu.Mul, full, full, 1}, {alu.Mul, half, 2, 0}, {alu.Mul, 0x10000, 0x10000, 0}, {alu.Mul, full, 3, full - 2},
		{alu.Mulh, full, full, 0}, {alu.Mulh, half, half, 0x40000000}, {alu.Mulh, full, 2, full}, {alu.Mulh, 2, full, full},
		{alu.Mulhsu, full, full, full}, {alu.Mulhsu, full, 2, full}, {alu.Mulhsu, 2, full, 1}, {alu.Mulhsu, half, half, 0xc0000000},
		{alu.Mulhu, full, full, full - 1}, {alu.Mulhu, full, 2, 1}, {alu.Mulhu, 2, full, 1}, {alu.Mulhu, half, half, 0x40000000},

		{alu.Div, 0xfffffff9, 2, 0xfffffffd}, {alu.Rem, 0xfffffff9, 2, 0xffffffff},
		{alu.Divu, 0xfffffff9, 2, 0x7ffffffc}, {alu.Remu, 0xfffffff9, 2, 1},
		{alu.Div, 9, 0, full}, {alu.Divu, 9, 0, full}, {alu.Rem, 9, 0, 9}, {alu.Remu, 9, 0, 9},
		{alu.Div, half, 0, full}, {alu.Divu, half, 0, full}, {alu.Rem, half, 0, half}, {alu.Remu, half, 0, half},
		{alu.Div, half, full, half}, {alu.Divu, half, full, 0}, {alu.Rem, half, full, 0}, {alu.Remu, half, full, half},
	} {
		if got := do(t, c.op, c.a, c.b); got != c.want {
			t.Errorf("Do of %d, %x, %x: %x; asked for %x", c.op, c.a, c.b, got, c.want)
		}
	}
}

// bit is 1 of true, 0 of false.
func bit(yes bool) uint32 {
	if yes {
		return 1
	}
	return 0
}

// plainDo is what an operation makes, by the chapter's words, of numbers that never wrap round.
func plainDo(op int, a, b uint32) uint32 {
	var (
		sa, sb = value(a, true), value(b, true)
		ua, ub = value(a, false), value(b, false)
		out    big.Int
	)
	switch op {
	case alu.Add:
		return low(out.Add(ua, ub))
	case alu.Sub:
		return low(out.Sub(ua, ub))
	case alu.Sll:
		return low(out.Lsh(ua, uint(b%32)))
	case alu.Srl:
		return low(out.Rsh(ua, uint(b%32)))
	case alu.Sra:
		return low(out.Rsh(sa, uint(b%32)))
	case alu.Slt:
		return bit(sa.Cmp(sb) < 0)
	case alu.Sltu:
		return bit(ua.Cmp(ub) < 0)
	case alu.Xor:
		return low(out.Xor(ua, ub))
	case alu.Or:
		return low(out.Or(ua, ub))
	case alu.And:
		return low(out.And(ua, ub))
	case alu.Mul:
		return low(out.Mul(ua, ub))
	case alu.Mulh:
		return high(out.Mul(sa, sb))
	case alu.Mulhsu:
		return high(out.Mul(sa, ub))
	case alu.Mulhu:
		return high(out.Mul(ua, ub))
	}
	quotient, rest := plainParts(a, b, op == alu.Div || op == alu.Rem)
	if op == alu.Div || op == alu.Divu {
		return quotient
	}
	return rest
}

// AL3: each operation held against numbers that never wrap round.
func TestDoOfManyWords(t *testing.T) {
	for _, a := range someWords() {
		for _, b := range someWords() {
			for op := range alu.Ops {
				if got, want := do(t, op, a, b), plainDo(op, a, b); got != want {
					t.Fatalf("Do of %d, %x, %x: %x; asked for %x", op, a, b, got, want)
				}
			}
		}
	}
}

// wrongNumbers are numbers of nothing, where numbers from 0 up to end, but not end, are of something.
func wrongNumbers(end int) []int {
	return []int{math.MinInt, math.MinInt32, -1 << 32, -256, -end, -2, -1, end, end + 1, 32, 64, 256, math.MaxInt32,
		1 << 32, 1<<32 + 1, math.MaxInt - 1, math.MaxInt}
}

// AL3: what is no operation is ErrArg, and the first and the last ones are operations.
func TestDoOfNoOperation(t *testing.T) {
	for _, op := range wrongNumbers(alu.Ops) {
		for _, b := range []uint32{0, 3, full} {
			if v, err := alu.Do(op, 7, b); v != 0 || errno(err) != api.ErrArg {
				t.Errorf("Do of %d: %x, %v", op, v, err)
			}
		}
	}
	if v, err := alu.Do(0, 7, 5); v != 12 || err != nil {
		t.Errorf("Do of 0: %x, %v", v, err)
	}
	if v, err := alu.Do(17, 7, 5); v != 2 || err != nil {
		t.Errorf("Do of 17: %x, %v", v, err)
	}
}

// AL3: which conditions hold, at the edges.
func TestHolds(t *testing.T) {
	for _, c := range []struct {
		a, b uint32
		want [alu.Conds]bool // Eq, Ne, Lt, Ge, Ltu, Geu
	}{
		{0, 0, [alu.Conds]bool{true, false, false, true, false, true}},
		{1, 2, [alu.Conds]bool{false, true, true, false, true, false}},
		{2, 1, [alu.Conds]bool{false, true, false, true, false, true}},
		{full, full, [alu.Conds]bool{true, false, false, true, false, true}},
		{full, 0, [alu.Conds]bool{false, true, true, false, false, true}},
		{0, full, [alu.Conds]bool{false, true, false, true, true, false}},
		{half, half - 1, [alu.Conds]bool{false, true, true, false, false, true}},
		{half - 1, half, [alu.Conds]bool{false, true, false, true, true, false}},
		{half, half + 1, [alu.Conds]bool{false, true, true, false, true, false}},
		{half + 1, half, [alu.Conds]bool{false, true, false, true, false, true}},
		{half, half, [alu.Conds]bool{true, false, false, true, false, true}},
	} {
		for cond, want := range c.want {
			if got, err := alu.Holds(cond, c.a, c.b); got != want || err != nil {
				t.Errorf("Holds of %d, %x, %x: %t, %v; asked for %t", cond, c.a, c.b, got, err, want)
			}
		}
	}
}

// AL3: each condition held against numbers that have their signs.
func TestHoldsOfManyWords(t *testing.T) {
	for _, a := range someWords() {
		for _, b := range someWords() {
			signed := value(a, true).Cmp(value(b, true))
			plain := value(a, false).Cmp(value(b, false))
			want := [alu.Conds]bool{plain == 0, plain != 0, signed < 0, signed >= 0, plain < 0, plain >= 0}
			for cond := range alu.Conds {
				if got, err := alu.Holds(cond, a, b); got != want[cond] || err != nil {
					t.Fatalf("Holds of %d, %x, %x: %t, %v; asked for %t", cond, a, b, got, err, want[cond])
				}
			}
		}
	}
}

// AL3: what is no condition is ErrArg, also where an operation has that number.
func TestHoldsOfNoCondition(t *testing.T) {
	for _, cond := range append(wrongNumbers(alu.Conds), alu.Remu) {
		for _, b := range []uint32{7, 9, 0, full} {
			if v, err := alu.Holds(cond, 7, b); v || errno(err) != api.ErrArg {
				t.Errorf("Holds of %d: %t, %v", cond, v, err)
			}
		}
	}
}

// AL4: quotient times b and the rest are a, the rest is nearer to 0 than b, and Do tells the same parts.
func TestPartsMakeTheWhole(t *testing.T) {
	for _, a := range someWords() {
		for _, b := range someWords() {
			if b == 0 {
				continue
			}
			for _, signs := range []bool{false, true} {
				quotient, rest := alu.Parts(a, b, signs)
				if quotient*b+rest != a {
					t.Fatalf("Parts of %x, %x, %t: %x, %x do not make the whole", a, b, signs, quotient, rest)
				}
				if value(rest, signs).CmpAbs(value(b, signs)) >= 0 {
					t.Fatalf("Parts of %x, %x, %t: the rest is %x", a, b, signs, rest)
				}
				if signs && rest != 0 && rest>>31 != a>>31 {
					t.Fatalf("Parts of %x, %x: the rest %x has another sign", a, b, rest)
				}
				div, rem := alu.Divu, alu.Remu
				if signs {
					div, rem = alu.Div, alu.Rem
				}
				if do(t, div, a, b) != quotient || do(t, rem, a, b) != rest {
					t.Fatalf("Do of %x, %x, %t tells other parts", a, b, signs)
				}
				if sum := do(t, alu.Add, do(t, alu.Mul, quotient, b), rest); sum != a {
					t.Fatalf("Do of the parts of %x, %x, %t makes %x", a, b, signs, sum)
				}
			}
		}
	}
}
