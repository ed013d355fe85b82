package hart_test

import (
	"math/big"
	"math/rand"

	"pinnace/csr"
	"pinnace/hart"
)

// A second hart, for the tests alone: it takes words apart bit by bit as the standard lays them, and counts with whole numbers that never wrap round.

// bits are v's bits from lo to hi, as a number.
func bits(v uint32, hi, lo int) uint32 {
	var out uint32
	for i := hi; i >= lo; i-- {
		out = out*2 + v>>i%2
	}
	return out
}

// joined is a number whose highest bits come first, each part with its own count of bits, of which the first bit of all is the sign.
func joined(parts ...[2]uint32) uint32 {
	out, n := int64(0), uint32(0)
	for _, p := range parts {
		out, n = out<<p[1]+int64(p[0]), n+p[1]
	}
	if out >= 1<<(n-1) {
		out -= 1 << n
	}
	return uint32(out)
}

// part is a part of a word for joined.
func part(w uint32, hi, lo int) [2]uint32 { return [2]uint32{bits(w, hi, lo), uint32(hi - lo + 1)} }

// whole is a word as a number, with its sign or without.
func whole(v uint32, sign bool) *big.Int {
	if sign {
		return big.NewInt(int64(int32(v)))
	}
	return big.NewInt(int64(v))
}

// low is a number's lowest 32 bits.
func low(x *big.Int) uint32 {
	return uint32(new(big.Int).Mod(x, big.NewInt(1<<32)).Int64())
}

// high are the 32 bits above these.
func high(x *big.Int) uint32 {
	return uint32(new(big.Int).Mod(new(big.Int).Div(x, big.NewInt(1<<32)), big.NewInt(1<<32)).Int64())
}

// plus is the sum of words modulo 2^32.
func plus(l ...uint32) uint32 {
	sum := new(big.Int)
	for _, v := range l {
		sum.Add(sum, whole(v, false))
	}
	return low(sum)
}

// truth is 1 or 0.
func truth(yes bool) uint32 {
	if yes {
		return 1
	}
	return 0
}

// plainTrap, plainGo: the chapter's words.
func plainTrap(h hart.State, cause, value uint32) hart.State {
	h.C, h.Pc = csr.Trap(h.C, cause, value, h.Pc)
	return h
}

func plainGo(h hart.State, to uint32) hart.State {
	if to%4 != 0 {
		return plainTrap(h, 0, to)
	}
	h.Pc = to
	h.C.Count++
	return h
}

func plainWrite(h hart.State, rd, v uint32) hart.State {
	if rd > 0 {
		h.X[rd] = v
	}
	return h
}

// plainRest writes a register and goes on behind the instruction.
func plainRest(h hart.State, rd, v uint32) hart.State {
	h = plainWrite(h, rd, v)
	return plainGo(h, plus(h.Pc, 4))
}

// plainDo does a word.
func plainDo(h hart.State, w uint32, lines uint32) (hart.State, hart.Access) {
	rd, f3, rs1, rs2, f7 := bits(w, 11, 7), bits(w, 14, 12), bits(w, 19, 15), bits(w, 24, 20), bits(w, 31, 25)
	a, b := h.X[rs1], h.X[rs2]
	i := joined(part(w, 31, 20))
	no := plainTrap(h, 2, w)
	switch bits(w, 6, 0) {
	case 0b0110111:
		return plainRest(h, rd, w-w%4096), hart.Access{}
	case 0b0010111:
		return plainRest(h, rd, plus(h.Pc, w-w%4096)), hart.Access{}
	case 0b1101111:
		n := joined(part(w, 31, 31), part(w, 19, 12), part(w, 20, 20), part(w, 30, 21), [2]uint32{0, 1})
		return plainJump(h, rd, plus(h.Pc, n)), hart.Access{}
	case 0b1100111:
		if f3 == 0 {
			to := plus(a, i)
			return plainJump(h, rd, to-to%2), hart.Access{}
		}
	case 0b1100011:
		if f3 != 2 && f3 != 3 {
			n := joined(part(w, 31, 31), part(w, 7, 7), part(w, 30, 25), part(w, 11, 8), [2]uint32{0, 1})
			if plainHolds(f3, a, b) {
				return plainGo(h, plus(h.Pc, n)), hart.Access{}
			}
			return plainGo(h, plus(h.Pc, 4)), hart.Access{}
		}
	case 0b0000011:
		if f3 != 3 && f3 < 6 {
			return plainLoad(h, f3, rd, plus(a, i))
		}
	case 0b0100011:
		if f3 < 3 {
			return plainStore(h, f3, plus(a, joined(part(w, 31, 25), part(w, 11, 7))), b)
		}
	case 0b0010011:
		if f3 != 1 && f3 != 5 {
			return plainRest(h, rd, plainMake(f3, 0, a, i)), hart.Access{}
		}
		if f7 == 0 || f7 == 0b0100000 && f3 == 5 {
			return plainRest(h, rd, plainMake(f3, f7, a, rs2)), hart.Access{}
		}
	case 0b0110011:
		if f7 == 0 || f7 == 1 || f7 == 0b0100000 && (f3 == 0 || f3 == 5) {
			return plainRest(h, rd, plainMake(f3, f7, a, b)), hart.Access{}
		}
	case 0b0001111:
		if f3 < 2 {
			return plainGo(h, plus(h.Pc, 4)), hart.Access{}
		}
	case 0b1110011:
		return plainSystem(h, w, lines, f3, rd, rs1), hart.Access{}
	}
	return no, hart.Access{}
}

func plainJump(h hart.State, rd, to uint32) hart.State {
	if to%4 != 0 {
		return plainTrap(h, 0, to)
	}
	return plainGo(plainWrite(h, rd, plus(h.Pc, 4)), to)
}

func plainHolds(f3, a, b uint32) bool {
	cmp := whole(a, f3 == 4 || f3 == 5).Cmp(whole(b, f3 == 4 || f3 == 5))
	switch f3 {
	case 0:
		return cmp == 0
	case 1:
		return cmp != 0
	case 4, 6:
		return cmp < 0
	}
	return cmp >= 0
}

func plainLoad(h hart.State, f3, rd, at uint32) (hart.State, hart.Access) {
	n := 1 << (f3 % 4)
	if int64(at)%int64(n) != 0 {
		return plainTrap(h, 4, at), hart.Access{}
	}
	return h, hart.Access{Kind: hart.Load, At: at, N: n, Signed: f3 < 4, Rd: int(rd)}
}

func plainStore(h hart.State, f3, at, b uint32) (hart.State, hart.Access) {
	n := 1 << f3
	if int64(at)%int64(n) != 0 {
		return plainTrap(h, 6, at), hart.Access{}
	}
	return h, hart.Access{Kind: hart.Store, At: at, N: n, Value: b}
}

// plainMake is what an operation makes, by its two numbers in the word.
func plainMake(f3, f7, a, b uint32) uint32 {
	if f7 == 1 {
		return plainProduct(f3, a, b)
	}
	two := new(big.Int).Exp(big.NewInt(2), big.NewInt(int64(b%32)), nil)
	switch f3 {
	case 0:
		if f7 != 0 {
			return low(new(big.Int).Sub(whole(a, false), whole(b, false)))
		}
		return plus(a, b)
	case 1:
		return low(new(big.Int).Mul(whole(a, false), two))
	case 2:
		return truth(whole(a, true).Cmp(whole(b, true)) < 0)
	case 3:
		return truth(whole(a, false).Cmp(whole(b, false)) < 0)
	case 4:
		return (a | b) - (a & b)
	case 5:
		return low(new(big.Int).Div(whole(a, f7 != 0), two))
	case 6:
		return a | b
	}
	return a & b
}

func plainProduct(f3, a, b uint32) uint32 {
	signA, signB := f3 == 1 || f3 == 2 || f3 == 4 || f3 == 6, f3 == 1 || f3 == 4 || f3 == 6
	x, y := whole(a, signA), whole(b, signB)
	switch {
	case f3 == 0:
		return low(new(big.Int).Mul(x, y))
	case f3 < 4:
		return high(new(big.Int).Mul(x, y))
	case b == 0 && f3 < 6:
		return 1<<32 - 1
	case b == 0:
		return a
	case f3 < 6:
		return low(new(big.Int).Quo(x, y))
	}
	return low(new(big.Int).Rem(x, y))
}

func plainSystem(h hart.State, w, lines, f3, rd, rs1 uint32) hart.State {
	switch w {
	case 0x00000073:
		return plainTrap(h, 11, 0)
	case 0x00100073:
		return plainTrap(h, 3, h.Pc)
	case 0x30200073:
		c, to := csr.Return(h.C)
		h.C = c
		return plainGo(h, to)
	case 0x10500073:
		h.Wait = true
		return plainGo(h, plus(h.Pc, 4))
	}
	if f3 == 0 || f3 == 4 {
		return plainTrap(h, 2, w)
	}
	at, v := int(bits(w, 31, 20)), h.X[rs1]
	if f3 > 4 {
		v = rs1
	}
	old, err := csr.Read(h.C, at, lines)
	if err != nil {
		// Who may not read may not write, either.
		return plainTrap(h, 2, w)
	}
	put := [4]uint32{0, v, old | v, old - old&v}[f3%4]
	if f3%4 == 1 || rs1 != 0 {
		c, err := csr.Write(h.C, at, put)
		if err != nil {
			return plainTrap(h, 2, w)
		}
		h.C = c
	}
	return plainRest(h, rd, old)
}

// plainDone and plainFault: byte by byte.
func plainDone(h hart.State, a hart.Access, v uint32) hart.State {
	if a.Rd < 0 || a.Rd > 31 || a.Kind != hart.Load && a.Kind != hart.Store {
		return h
	}
	if a.Kind == hart.Load {
		got, unit := int64(0), int64(1)
		for i := 0; i < a.N && i < 4; i++ {
			got += int64(v>>(8*i)%256) * unit
			unit *= 256
		}
		if a.Signed && got >= unit/2 && unit > 1 {
			got -= unit
		}
		h = plainWrite(h, uint32(a.Rd), uint32(got))
	}
	return plainGo(h, plus(h.Pc, 4))
}

func plainFault(h hart.State, a hart.Access) hart.State {
	switch {
	case a.Rd < 0 || a.Rd > 31:
	case a.Kind == 0:
		return plainTrap(h, 1, h.Pc)
	case a.Kind == 1:
		return plainTrap(h, 5, a.At)
	case a.Kind == 2:
		return plainTrap(h, 7, a.At)
	}
	return h
}

// plainBegin asks each line by its name.
func plainBegin(h hart.State, lines uint32) (hart.State, bool) {
	wakes, cause := false, uint32(0)
	for _, line := range []int{7, 3, 11} { // the one that comes first is asked last
		if bits(lines, line, line) == 1 && bits(h.C.Enable, line, line) == 1 {
			wakes, cause = true, 1<<31+uint32(line)
		}
	}
	if h.Wait && !wakes {
		return h, false
	}
	h.Wait = false
	if wakes && bits(h.C.Status, 3, 3) == 1 {
		h = plainTrap(h, cause, 0)
	}
	return h, true
}

// places are the control registers that there are.
var places = []uint32{0x300, 0x301, 0x304, 0x305, 0x340, 0x341, 0x342, 0x343, 0x344,
	0xb00, 0xb02, 0xb80, 0xb82, 0xf11, 0xf12, 0xf13, 0xf14}

// shapes are the operations' words, by their numbers, and the bits that are their fields.
var shapes = [][2]uint32{
	{0x37, 0xffffff80}, {0x17, 0xffffff80}, {0x6f, 0xffffff80}, {0x67, 0xffff8f80},
	{0x63, 0xffff8f80}, {0x1063, 0xffff8f80}, {0x4063, 0xffff8f80}, {0x5063, 0xffff8f80}, {0x6063, 0xffff8f80}, {0x7063, 0xffff8f80},
	{0x3, 0xffff8f80}, {0x1003, 0xffff8f80}, {0x2003, 0xffff8f80}, {0x4003, 0xffff8f80}, {0x5003, 0xffff8f80},
	{0x23, 0xffff8f80}, {0x1023, 0xffff8f80}, {0x2023, 0xffff8f80},
	{0x13, 0xffff8f80}, {0x2013, 0xffff8f80}, {0x3013, 0xffff8f80}, {0x4013, 0xffff8f80}, {0x6013, 0xffff8f80}, {0x7013, 0xffff8f80},
	{0x1013, 0x1ff8f80}, {0x5013, 0x1ff8f80}, {0x40005013, 0x1ff8f80},
	{0x33, 0x1ff8f80}, {0x40000033, 0x1ff8f80}, {0x1033, 0x1ff8f80}, {0x2033, 0x1ff8f80}, {0x3033, 0x1ff8f80}, {0x4033, 0x1ff8f80},
	{0x5033, 0x1ff8f80}, {0x40005033, 0x1ff8f80}, {0x6033, 0x1ff8f80}, {0x7033, 0x1ff8f80},
	{0x2000033, 0x1ff8f80}, {0x2001033, 0x1ff8f80}, {0x2002033, 0x1ff8f80}, {0x2003033, 0x1ff8f80},
	{0x2004033, 0x1ff8f80}, {0x2005033, 0x1ff8f80}, {0x2006033, 0x1ff8f80}, {0x2007033, 0x1ff8f80},
	{0xf, 0xffff8f80}, {0x100f, 0xffff8f80}, {0x73, 0}, {0x100073, 0}, {0x30200073, 0}, {0x10500073, 0},
	{0x1073, 0xffff8f80}, {0x2073, 0xffff8f80}, {0x3073, 0xffff8f80}, {0x5073, 0xffff8f80}, {0x6073, 0xffff8f80}, {0x7073, 0xffff8f80},
}

// wordOf is a word of an operation, with fields by chance: often noughts, and of control registers often ones that are there.
func wordOf(r *rand.Rand, op int) uint32 {
	w := shapes[op][0] | r.Uint32()&shapes[op][1]
	if r.Intn(3) == 0 {
		w &^= 0xf80 & shapes[op][1]
	}
	if r.Intn(3) == 0 {
		w &^= 0xf8000 & shapes[op][1]
	}
	if op >= 51 && r.Intn(4) > 0 {
		w = w&0xfffff | places[r.Intn(len(places))]<<20
	}
	return w
}

// edge is a word, often one at an edge.
func edge(r *rand.Rand) uint32 {
	switch r.Intn(4) {
	case 0:
		return []uint32{0, 1, 2, 3, 4, 31, 32, 0x7f, 0x80, 0xff, 0x7fff, 0x8000, 0x7fffffff, 0x80000000, 0x80000001,
			0xfffffffc, 0xfffffffe, 0xffffffff}[r.Intn(18)]
	case 1:
		return r.Uint32() &^ 3
	}
	return r.Uint32()
}

// someState is a state that may be, by chance.
func someState(r *rand.Rand) hart.State {
	h := hart.State{Pc: edge(r) &^ 3, Wait: r.Intn(2) == 0}
	for i := 1; i < 32; i++ {
		h.X[i] = edge(r)
	}
	h.C = csr.State{Status: edge(r) & 0x88, Enable: edge(r) & 0x888, Vector: edge(r) &^ 2, Scratch: edge(r),
		Epc: edge(r) &^ 3, Cause: edge(r), Value: edge(r), Count: uint64(edge(r))<<32 | uint64(edge(r))}
	return h
}

// oddState is any state.
func oddState(r *rand.Rand) hart.State {
	h := someState(r)
	h.Pc, h.X[0] = edge(r), edge(r)
	h.C.Status, h.C.Enable, h.C.Vector, h.C.Epc = edge(r), edge(r), edge(r), edge(r)
	return h
}

// someAccess is any access.
func someAccess(r *rand.Rand) hart.Access {
	a := hart.Access{Kind: r.Intn(3), At: edge(r), N: []int{1, 2, 4}[r.Intn(3)], Signed: r.Intn(2) == 0, Rd: r.Intn(32), Value: edge(r)}
	if r.Intn(4) == 0 {
		a.Kind = r.Intn(9) - 4
	}
	if r.Intn(4) == 0 {
		a.N = r.Intn(12) - 4
	}
	if r.Intn(4) == 0 {
		a.Rd = r.Intn(80) - 20
	}
	return a
}
